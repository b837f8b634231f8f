import Derived.Test.YtnnakhdndmjmiaaGreatPuFrameD
import Derived.Test.YtnnakhdndmjmiaaGreatPuFrameB
set_option linter.unusedVariables false
set_option maxRecDepth 4000
set_option maxRecDepth 4000
namespace Go.Proofs.YtnnakhdndmjmiaaGreat.Frame
open Go.RowKit CrcP FrameP
theorem info_string : (Tryz.prog.info? 9).map (fun i=>(i.zero,i.size,i.bytes)) = some (some (.string ⟨#[]⟩),1,16):=by kernel_rfl
theorem owns_cell {w : World} {B n size g j : Nat} {e : TypeId} {v u : Value} {xs : List Value} (h : w.ownsRow B e size v n xs) (hg : v.ownBlock = some g) (hu : xs[j]? = some u) : w.cell? ⟨g,j,none⟩ = some u:=by
 have h2:=h.cells hg j u hu
 rw [Addr.add_lit,Nat.zero_add] at h2
 exact h2
theorem owns_kept {w w' : World} {B n p : Nat} {e : TypeId} {v : Value} {xs : List Value} (h : w.ownsRow B e 1 v n xs) (hp : p < B) (hk : Kept p w w') : w'.ownsRow B e 1 v n xs:=by
 refine ⟨h.1,?_⟩
 rcases h.2 with hn | ⟨g,cap,cur,hv,hbg,hg,rest⟩
 ·exact .inl hn
 ·exact .inr ⟨g,cap,cur,hv,hbg,(hk.other g (by omega) (Array.getElem?_eq_some_iff.1 hg).1).trans hg,rest⟩
def tx (l : List (List UInt8)) : List Value:=l.map fun r=>Value.string (str r)
theorem tx_snoc (l : List (List UInt8)) (r : List UInt8) : tx (l ++ [r]) = tx l ++ [Value.string (str r)]:=by simp [tx]
theorem tx_length (l : List (List UInt8)) : (tx l).length = l.length:=by simp [tx]
def TakeP (w : World) (l : List UInt8) (e : Ending) (w' : World) : Prop :=
 ∃ a cap,e = .returned (.tuple #[.slice a (tk l).1.length cap,.int .i64 (tk l).2]) ∧ StrsAt w' a (tk l).1.length ((tk l).1.map str) ∧ Below w.heap.size w w' ∧ (∀ y,a = some y → w.heap.size ≤ y.block) ∧ (a = none → cap = 0)
theorem take_err {w w' : World} {l : List UInt8} {e : Int} (h : tk l = ([],e)) (hb : Below w.heap.size w w') : TakeP w l (.returned (.tuple #[.slice none 0 0,.int .i64 e])) w':=by
 unfold TakeP
 rw [h]
 exact ⟨none,0,rfl,⟨rfl,Nat.zero_le _,.inl rfl⟩,hb,fun y h=>(by cases h),fun _=>rfl⟩
theorem strs_of {w : World} {B n cap : Nat} {a : Option Addr} {l : List (List UInt8)} (h : w.ownsRow B 9 1 (.slice a n cap) n (tx l)) (hn : n ≤ 1000000) : l.length = n ∧ StrsAt w a n (l.map str):=by
 have hl : l.length = n:=by have:=h.1;rw [tx_length] at this;omega
 refine ⟨hl,by rw [List.length_map];exact hl,by omega,?_⟩
 rcases h.2 with ⟨hv,h0⟩ | ⟨g,c,cur,hv,hbg,hg,_⟩
 ·exact .inl h0
 ·simp only [Value.slice.injEq] at hv
  obtain ⟨rfl,_,_⟩:=hv
  refine .inr ⟨g,0,rfl,(Array.getElem?_eq_some_iff.1 hg).1,fun i hi=>?_⟩
  rw [Nat.zero_add]
  refine owns_cell h rfl ?_
  have hi2 : i < l.length:=by omega
  simp [tx,List.getD,hi2]
theorem take_ok {w w' : World} {B n cap : Nat} {a : Option Addr} {l : List UInt8} {D : List (List UInt8)} (h : tk l = (D,0)) (ho : w'.ownsRow B 9 1 (.slice a n cap) n (tx D)) (hn : n ≤ 1000000) (hb : Below w.heap.size w w') (hB0 : w.heap.size ≤ B:=by first | exact Nat.le_refl _ | exact Nat.le_succ _ | omega) : TakeP w l (.returned (.tuple #[.slice a n cap,.int .i64 0])) w':=by
 obtain ⟨h1,h2⟩:=strs_of ho hn
 unfold TakeP
 rw [h]
 show ∃ b c,_ ∧ _
 refine ⟨a,cap,by rw [h1],by rw [h1];exact h2,hb,fun y hy=>?_,fun hn=>?_⟩
 ·subst hy
  rcases ho.2 with ⟨hv,_⟩ | ⟨g,c,cur,hv,hbg,_⟩
  ·cases hv
  ·cases hv;exact Nat.le_trans hB0 hbg
 ·subst hn
  rcases ho.2 with ⟨hv,_⟩ | ⟨g,c,cur,hv,_⟩
  ·cases hv;rfl
  ·cases hv
def sliceLen : Value → Nat
 | .slice _ n _=>n
 | _=>0
set_option maxHeartbeats 4000000 in
theorem take_any (s : ByteArray) (w : World) (hs : s.size ≤ 100000) : Calls Tryz.prog 102 #[.string s] w (TakeP w s.data.toList):=by
 obtain ⟨i0,hi,hz0,hz1,hz2⟩:=info_parts info_string
 have HI:=Lib.hid hi;have HZ0:=Lib.hid hz0;have HZ1:=Lib.hid hz1;have HZ2:=Lib.hid hz2
 clear hi hz0 hz1 hz2
 have hmf : ∀ (fn : Fn) (first cap : Array Value) (w : World),(Instr.makeFunc fn first cap).run Tryz.prog w = .ok (.func fn first cap) w:=fun _ _ _ _=>rfl
 obtain ⟨l,hl⟩ : ∃ l,s.data.toList = l:=⟨_,rfl⟩
 have hll : l.length = s.size:=by rw [← hl];exact len_list s
 have HL:=Lib.hid hl;have HLL:=Lib.hid hll
 have HF0:=Lib.hid (fin_tk_nil l)
 rw [hl]
 clear hl hll
 go_enter Tryz.func102,Tryz.ntmps102
 go_wp2_with fail
 have hc0 : CutAt (w.alloc (.cells #[.string s] 9)) w.heap.size s:=heap_alloc_new w _
 have hb0 : Below w.heap.size w (w.alloc (.cells #[.string s] 9)):=(Below.refl _ w).alloc (Nat.le_refl _) _
 have hsz0 : w.heap.size + 1 ≤ (w.alloc (.cells #[.string s] 9)).heap.size:=hc0.lt
 have HC0:=Lib.hid hc0;have HB0:=Lib.hid hb0
 clear hc0 hb0
 generalize w.alloc (.cells #[.string s] 9) = w0 at *
 go_loopw [6] (fun v wr => ∃ (k : Nat) (a : Option Addr) (cap : Nat) (r : ByteArray) (D : List (List UInt8)),v = .slice a k cap ∧ Hid (7 * k + r.size ≤ s.size) ∧ Hid (fin D (tk r.data.toList) = tk l) ∧ Hid (CutAt wr w.heap.size r) ∧ Hid (wr.ownsRow (w.heap.size + 1) 9 1 (.slice a k cap) k (tx D)) ∧ Hid (Below w.heap.size w wr) ∧ Hid (w.heap.size + 1 ≤ wr.heap.size)) (fun v _=>s.size - sliceLen v)
 case atStart=>exact ⟨0,none,0,s,[],rfl,by show 7 * 0 + s.size ≤ s.size;omega,by rw [HL.out];exact HF0.out,HC0,World.ownsRow_nil _ _ _ _,HB0,hsz0⟩
 case round =>
  obtain ⟨k,a,cap,r,D,rfl,hk,hF,hC,hO,hB,hP⟩:=hrel
  have hcell:=hC.out.cell
  by_cases hr0 : r.size = 0
  ·have hr : r = ⟨#[]⟩:=by
    apply ByteArray.ext
    exact Array.eq_empty_of_size_eq_zero hr0
   subst hr
   have hfin:=hF.out
   rw [show (⟨#[]⟩ : ByteArray).data.toList = [] from rfl,fin_end] at hfin
   have HX:=Lib.hid (take_ok hfin.symm hO.out (by have:=hk.out;omega) hB.out)
   clear hfin
   go_wp2_with fail
   go_ret2
   exact HX.out
  ·have hne : (r.toList == []) = false:=by
    rw [beq_eq_false_iff_ne,ByteArray.toList_eq]
    intro e
    have:=congrArg List.length e
    rw [len_list] at this
    exact hr0 this
   have hne2 : r.data.toList ≠ []:=fun e=>by
    have:=congrArg List.length e
    rw [len_list] at this
    exact hr0 this
   have hkk:=hk.out
   have HX:=Lib.hid (next_any w.heap.size r wr hC.out (by omega))
   have HNE:=Lib.hid hne2
   obtain ⟨n,hn⟩ : ∃ n,nx r.data.toList = n:=⟨_,rfl⟩
   obtain ⟨er,x,y⟩:=n
   have HN:=Lib.hid hn
   clear hne2 hn
   by_cases h0 : er = 0
   ·subst h0
    go_wp2_with fail
    refine HX.out.mono ?_
    rintro e w1 ⟨rfl,hkp,hct⟩
    have hy:=nx_rest (s:=r.data.toList) (by rw [HN.out])
    have hst:=fin_step (D:=D) HNE.out (by rw [HN.out])
    rw [HN.out] at hct hst hy ⊢
    rw [len_list] at hy
    have hO1:=owns_kept hO.out (Nat.lt_succ_self w.heap.size) hkp
    have hC1:=hct rfl
    have hB1:=hB.out.trans (hkp.below.mono (Nat.le_refl _))
    have hP1:=Nat.le_trans hP.out hkp.below.size
    have HO1:=Lib.hid hO1;have HC1:=Lib.hid hC1;have HB1:=Lib.hid hB1;have HP1:=Lib.hid hP1
    have HF1 : Hid (fin (D ++ [x]) (tk y) = tk l):=hst.symm.trans hF.out
    have HTX:=Lib.hid (tx_snoc D x)
    have HY : Hid (y.length + 7 ≤ r.size):=hy
    clear hkp hct hO1 hC1 hB1 hP1 hst hy
    dsimp only
    generalize str x = xs at *
    go_wp2_with (at_builtin;refine wpList_append_own _ rfl _ _ 22 rfl (w.heap.size + 1) 9 i0 _ 1 16 Tryz.underlying22 HI.out HZ0.out HZ1.out HZ2.out rfl (by decide) _ _ _ rfl (HO1.out.alloc _) ⟨w1.heap.size,0,none⟩ 1 1 [.string xs] rfl rfl ?c1 ?c2 ?c3 ?c4 ?c5 ?_)
    try case c1=>exact cell_one_new _ _ _
    case c2=>simp [Value.oneCell']
    case c3=>unfold maxLen;omega
    case c4=>omega
    case c5=>have:=HP1.out;simp;omega
    intro v' w2 hown2 hgrow _
    have hb2 : Below (w.heap.size + 1) w1 w2:=((Below.refl (w.heap.size + 1) w1).alloc HP1.out (.cells #[.string xs] 9)).grown hgrow (by have:=HP1.out;simp;omega) (fun q hq=>(HO1.out.lt q hq).1)
    obtain ⟨a2,cap2,rfl⟩:=owns_slice0 hown2
    rw [← HTX.out] at hown2
    have HO2:=Lib.hid hown2
    have HC2 : Hid (CutAt w2 w.heap.size (str y)):=(hb2.block w.heap.size (Nat.lt_succ_self w.heap.size)).trans HC1.out
    have HB2:=Lib.hid (HB1.out.trans (hb2.mono (Nat.le_succ _)))
    have HP2:=Lib.hid (Nat.le_trans HP1.out hb2.size)
    clear hown2 hgrow hb2
    go_wp2_with fail
    go_roundw
    case rel=>exact ⟨k + 1,a2,cap2,str y,D ++ [x],rfl,by show 7 * (k + 1) + (str y).size ≤ s.size;rw [str_size];have:=HY.out;omega,by rw [str_list];exact HF1.out,HC2,HO2,HB2,HP2⟩
    case measure=>simp [sliceLen];omega
   ·have h00 : (er == 0) = false:=beq_eq_false_iff_ne.2 h0
    go_wp2_with fail
    refine HX.out.mono ?_
    rintro e w1 ⟨rfl,hkp,_⟩
    have hst:=fin_err (D:=D) HNE.out (by rw [HN.out];exact h0)
    rw [HN.out] at hst ⊢
    have HXX:=Lib.hid (take_err (hF.out.symm.trans hst) (hB.out.trans (hkp.below.mono (Nat.le_refl _))))
    clear hst hkp
    dsimp only
    go_wp2_with fail
    go_ret2
    exact HXX.out
end Go.Proofs.YtnnakhdndmjmiaaGreat.Frame
