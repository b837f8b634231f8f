import Derived.Test.YtnnakhdndmjmiaaGreatPuSuperA
import Derived.Laws.AppendOwnNone
import Derived.OwnWalk
set_option linter.unusedVariables false
set_option maxRecDepth 4000
set_option maxRecDepth 4000
namespace Go.Proofs.YtnnakhdndmjmiaaGreat
open Go.RowKit SuperP
open Wire (IntsAt getD_mem take_snoc)
theorem info_int : (Tryz.prog.info? 3).map (fun i=>(i.zero,i.size,i.bytes)) = some (some (.int .i64 0),1,8):=by kernel_rfl
def cellsI (l : List Int) : List Value:=l.map fun c=>Value.int .i64 c
theorem cellsI_len (l : List Int) : (cellsI l).length = l.length:=by simp [cellsI]
theorem cellsI_app (l r : List Int) : cellsI (l ++ r) = cellsI l ++ cellsI r:=by simp [cellsI]
theorem cellsI_one (l : List Int) : ∀ u ∈ cellsI l,u.oneCell' = true:=by
 intro u hu
 obtain ⟨c,_,rfl⟩:=List.mem_map.1 hu
 rfl
theorem ints_of_owns {w : World} {base n cap : Nat} {a : Option Addr} {xs : List Int} (h : w.ownsRow base 3 1 (.slice a n cap) n (cellsI xs)) (hn : n = xs.length) (hr : ∀ x ∈ xs,-9223372036854775808 ≤ x ∧ x ≤ 9223372036854775807) : IntsAt w a n xs ∧ n ≤ cap ∧ (a = none → cap = 0):=by
 subst hn
 have hlt:=h.lt
 rcases h.2 with ⟨h0,h1⟩ | ⟨g,cap2,cur,hv,hb,hg,hc,_⟩
 ·simp only [Value.slice.injEq] at h0
  obtain ⟨rfl,h2,rfl⟩:=h0
  exact ⟨⟨rfl,hr,.inl h1⟩,by omega,fun _=>rfl⟩
 ·simp only [Value.slice.injEq] at hv
  obtain ⟨rfl,_,rfl⟩:=hv
  refine ⟨⟨rfl,hr,?_⟩,hc,fun e=>by cases e⟩
  by_cases h0 : xs.length = 0
  ·exact .inl h0
  refine .inr ⟨g,0,rfl,(hlt g rfl).2,fun i hi=>?_⟩
  have:=h.cells (g:=g) rfl i (.int .i64 (xs.getD i 0)) (by simp [cellsI,List.getD,hi])
  rw [Wire.add_at] at this
  exact this
theorem ints_cells {w : World} {b off len : Nat} {xs : List Int} (h : IntsAt w (some ⟨b,off,none⟩) len xs) : ∀ i u,(cellsI xs)[i]? = some u → w.cell? ((⟨b,off,none⟩ : Addr).add i) = some u:=by
 intro i u hu
 rw [Wire.add_at]
 have hi : i < len:=by
  have:=(List.getElem?_eq_some_iff.1 hu).1
  rw [cellsI_len,h.1] at this
  exact this
 rcases h.2.2 with h0 | ⟨b2,o2,e,_,hc⟩
 ·omega
 simp only [Option.some.injEq,Addr.mk.injEq,and_true] at e
 obtain ⟨rfl,rfl⟩:=e
 rw [hc i hi,← hu]
 have hx:=h.1
 simp [cellsI,List.getD,hx,hi]
theorem append_ints {ops : Array Oper} {rest : List Oper} {o : Oper} {a : Act} {Q : Exit → Act → World → Prop} (hgd : o.guard = none) (s x : Operand)
  (ho : o.op = .call { callee:=.builtin .append,args:=#[s,x],argTypes:=#[67,67] }) (base : Nat) (w : World)
  (v : Value) (n : Nat) (xs ys : List Int) (a1 : Option Addr) (l1 c1 : Nat) (hs : a.eval s = v) (hown : w.ownsRow base 3 1 v n (cellsI xs)) (hx : a.eval x = .slice a1 l1 c1)
  (hI : IntsAt w a1 l1 ys) (hnil : a1 = none → c1 = 0)
  (hn : n + l1 ≤ 4000000) (hbase : base ≤ w.heap.size)
  (h : ∀ v' w',w'.ownsRow base 3 1 v' (n + l1) (cellsI (xs ++ ys)) → w.grownBy w' v.ownBlock → wpList Tryz.prog ops Q rest (a.put o.dst v') w') :
  wpList Tryz.prog ops Q (o :: rest) a w:=by
 obtain ⟨i0,hi,hz0,hz1,hz2⟩:=info_parts info_int
 cases a1 with
 | none =>
  have hl0 : l1 = 0:=by
   rcases hI.2.2 with h0 | ⟨b,o,e,_⟩
   ·exact h0
   ·cases e
  obtain rfl:=hnil rfl
  subst hl0
  have hy : ys = []:=List.eq_nil_of_length_eq_zero hI.1
  subst hy
  refine wpList_append_own_none hgd s x 67 ho base 3 i0 1 Tryz.underlying67 hi v n (cellsI xs) hs hown hx (h v w ?_ ⟨rfl,rfl,rfl,Nat.le_refl _,fun _ _ _=>rfl⟩)
  rw [List.append_nil]
  exact hown
 | some ad =>
  have hcl : ∀ j u,(cellsI ys)[j]? = some u → w.cell? (ad.add j) = some u:=by
   intro j u hu
   rcases hI.2.2 with h0 | ⟨b2,o2,e,_,hc⟩
   ·have h1:=hI.1
    rw [h0] at h1
    rw [List.eq_nil_of_length_eq_zero h1] at hu
    cases hu
   ·cases e
    exact ints_cells hI j u hu
  refine wpList_append_own _ hgd s x 67 ho base 3 i0 (.int .i64 0) 1 8 Tryz.underlying67 hi hz0 hz1 hz2 rfl (by decide) v n (cellsI xs) hs hown ad l1 c1 (cellsI ys) hx (by rw [cellsI_len,hI.1];omega) hcl (cellsI_one ys) ?_ ?_ hbase fun v' w' h1 h2 _=>h v' w' (by rw [cellsI_app];exact h1) h2
  ·unfold maxLen;omega
  ·omega
end Go.Proofs.YtnnakhdndmjmiaaGreat
/-
 The contracts of both octets,of the document's numbers,and of mark.
-/
set_option linter.unusedVariables false
set_option maxRecDepth 4000
set_option maxRecDepth 4000
namespace Go.Proofs.YtnnakhdndmjmiaaGreat
open Go.RowKit SuperP
open Wire (IntsAt getD_mem take_snoc owns_text)
theorem info_byte8 : (Tryz.prog.info? 5).map (fun i=>(i.zero,i.size,i.bytes)) = some (some (.int .u8 0),1,1):=by kernel_rfl
def octRow (xs : List Int) (n j : Nat) : List UInt8:=octs (xs.take j) ++ List.replicate (n - j) 0
theorem octRow_zero (xs : List Int) (n : Nat) : octRow xs n 0 = List.replicate n 0:=by simp [octRow,octs]
theorem octRow_all {xs : List Int} {n : Nat} (h : xs.length = n) : octRow xs n n = octs xs:=by simp [octRow,← h]
theorem octs_snoc (l : List Int) (c : Int) : octs (l ++ [c]) = octs l ++ [UInt8.ofNat c.toNat]:=by simp [octs]
theorem byte_back {u : Int} (h0 : 0 ≤ u) (h1 : u < 256) : ((UInt8.ofNat u.toNat).toNat : Int) = u:=by rw [UInt8.toNat_ofNat'];omega
theorem octRow_step {xs : List Int} {n j : Nat} {u : Int} (h : xs.length = n) (hj : j < n) (hu : xs.getD j 0 = u) (h0 : 0 ≤ u) (h1 : u < 256) :
  (Lib.byteCells (octRow xs n j)).set j (.int .u8 u) = Lib.byteCells (octRow xs n (j + 1)):=by
 unfold octRow
 have hl : (octs (xs.take j)).length = j:=by simp [octs,h];omega
 rw [take_snoc xs j (by omega),octs_snoc,hu,Lib.byteCells_append,List.set_append_right _ _ (by rw [Lib.byteCells_length,hl];exact Nat.le_refl _),Lib.byteCells_length,hl,Nat.sub_self,show n - j = (n - (j + 1)) + 1 by omega,List.replicate_succ,
  Wire.byteCells_cons,List.set_cons_zero,List.append_assoc,Lib.byteCells_append,List.singleton_append,Wire.byteCells_cons,byte_back h0 h1]
theorem zero_cells (n : Nat) : (madeCells #[Value.int .u8 0] n).toList = Lib.byteCells (List.replicate n 0):=by
 rw [toList_madeCells_one]
 simp [Lib.byteCells]
set_option maxHeartbeats 1000000 in
theorem octets_is (a : Option Addr) (len cap : Nat) (xs : List Int) (w : World) (h : IntsAt w a len xs) (hr : ∀ n ∈ xs,0 ≤ n ∧ n < 63) (hlen : len ≤ 1000000) :
  Calls Tryz.prog 177 #[.slice a len cap] w fun e w'=>e = .returned (.string ⟨(octs xs).toArray⟩) ∧ Below w.heap.size w w':=by
 obtain ⟨i0,hi,hz0,hz1,hz2⟩:=info_parts info_byte8
 obtain ⟨R,hR⟩ : ∃ R : ByteArray,(⟨(octs xs).toArray⟩ : ByteArray) = R:=⟨_,rfl⟩
 rw [hR]
 have HI:=Lib.hid hi;have HZ0:=Lib.hid hz0;have HZ1:=Lib.hid hz1;have HZ2:=Lib.hid hz2
 have HL:=Lib.hid h.1;have HC:=Lib.hid h.2.2;have HR:=Lib.hid hr;have HRR:=Lib.hid hR
 clear hi hz0 hz1 hz2 h hr hR
 go_enter Tryz.func177,Tryz.ntmps177
 go_wp2_with (at_make;refine wpList_make_full _ rfl (.tmp 7) (.tmp 7) 137 rfl w.heap.size 5 i0 _ 1 Tryz.underlying137 HI.out HZ0.out HZ1.out .i64 .i64 (len : Int) (len : Int) len rfl rfl rfl rfl ?b2 ?b3 ?b4 ?_)
 case b2=>rw [HZ2.out];omega
 case b3=>unfold maxLen;omega
 case b4=>exact Nat.le_refl _
 intro w1 hown hgr
 have hb1 : Below w.heap.size w w1:=(Below.refl _ w).grown hgr (Nat.le_refl _) (fun k e=>by cases e)
 change w1.ownsRow w.heap.size 5 1 (.slice (some ⟨w.heap.size,0,none⟩) len len) len (madeCells #[Value.int .u8 0] len).toList at hown
 rw [zero_cells,← octRow_zero xs len] at hown
 have HB:=Lib.hid hb1;have HOWN:=Lib.hid hown
 clear hgr hb1 hown
 go_wp2_with fail
 go_loopw [11] (fun i wr => ∃ j : Nat,j ≤ len ∧ i = .int .i64 (j : Int) ∧ Hid (Below w.heap.size w wr) ∧ Hid (wr.ownsRow w.heap.size 5 1 (.slice (some ⟨w.heap.size,0,none⟩) len len) len (Lib.byteCells (octRow xs len j)))) (fun i _=>len - (intOf i).toNat)
 case atStart=>exact ⟨0,Nat.zero_le _,rfl,HB,HOWN⟩
 case round =>
  obtain ⟨j,hj,rfl,hB,hO⟩:=hrel
  by_cases hlt : j < len
  ·obtain ⟨b,off,rfl,hb,hd⟩:=HC.out.resolve_left (by omega)
   have hjx : j < xs.length:=by rw [HL.out];exact hlt
   have d1:=(hB.out.cell (p:=⟨b,off + j,none⟩) hb).trans (hd j hlt)
   obtain ⟨u,hu⟩ : ∃ u,xs.getD j 0 = u:=⟨_,rfl⟩
   have hur:=HR.out _ (getD_mem hjx)
   rw [hu] at hur d1
   have u0:=hur.1
   have u1 : u < 256:=by omega
   have hst:=octRow_step HL.out hlt hu u0 u1
   have d2:=hO.out.cellAt j (by omega)
   rw [List.getElem?_eq_getElem (by rw [hO.out.1];omega)] at d2
   have d3:=hO.out.frozenAt j
   have hs:=(hO.out.stored j (.int .u8 u)).1
   rw [hst] at hs
   have HS:=Lib.hid hs;have HBS:=Lib.hid (hB.out.setCell (p:=⟨w.heap.size,j,none⟩) (Nat.le_refl _) (.int .u8 u))
   generalize (Lib.byteCells (octRow xs len j))[j]'(by rw [hO.out.1];omega) = old at d2
   clear hb hd hu hur hst hs hB hO hjx HC
   have hw : IntKind.u8.wrap u = u:=by rw [show IntKind.u8.wrap u = u % 256 from rfl];omega
   go_wp2_with fail
   go_roundw
   case rel=>exact ⟨j + 1,by omega,by go_num,HBS,HS⟩
   case measure=>simp [intOf];omega
  ·obtain rfl : j = len:=by omega
   have ho:=hO.out
   rw [octRow_all HL.out] at ho
   have hcv:=owns_text ho
   rw [HRR.out] at hcv
   clear ho hO
   go_wp2_with fail
   go_ret
   exact ⟨rfl,hB.out⟩
theorem results_mark {fn : Func} (h : fn.results = #[.cell 2 161]) (tmps : Array Value) (w : World) (b : Nat) (x0 x1 x2 : Value) (hp : tmps.getD 2 undef = .pointer (some ⟨b,0,none⟩))
  (c0 : w.cell? ⟨b,0,none⟩ = some x0) (c1 : w.cell? ⟨b,1,none⟩ = some x1) (c2 : w.cell? ⟨b,2,none⟩ = some x2) :
  (results fn tmps).run Tryz.prog w = .ok (.agg #[x0,x1,x2]) w:=by
 have hp' : tmps[2]?.getD undef = .pointer (some ⟨b,0,none⟩):=by rw [← hp];simp
 simp only [results,h]
 go_simp
theorem mark_any (x : Sup) (p q : Value) (w : World) : Calls Tryz.prog 149 #[supV x p q] w fun e w'=>e = .returned (stV x.gen 0 1) ∧ Below w.heap.size w w':=by
 unfold supV stV
 have HB:=Lib.hid (((Below.refl _ w).alloc (Nat.le_refl _) (.cells #[.int .i64 x.gen,.int .i64 x.base,.int .i64 x.size,.int .i64 x.cg,p,q] 69)).alloc (by simp) (.cells #[.int .i64 x.gen,.int .i64 0,.int .i64 1] 161))
 have k:=cells_second (w:=w) (A:=#[.int .i64 x.gen,.int .i64 x.base,.int .i64 x.size,.int .i64 x.cg,p,q]) (B:=#[.int .i64 x.gen,.int .i64 0,.int .i64 1]) (t:=69) (u:=161)
 have K:=Lib.hid k
 clear k
 go_enter Tryz.func149,Tryz.ntmps149
 go_wp2_with fail
 refine bodyPost_ret (results_mark rfl _ _ (w.heap.size + 1) _ _ _ rfl ((Wire.cell_of_heap K.out).trans rfl) ((Wire.cell_of_heap K.out).trans rfl) ((Wire.cell_of_heap K.out).trans rfl)) rfl ?_
 exact ⟨rfl,HB.out⟩
end Go.Proofs.YtnnakhdndmjmiaaGreat
