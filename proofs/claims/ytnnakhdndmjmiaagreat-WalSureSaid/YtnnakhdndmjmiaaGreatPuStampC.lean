import Derived.Test.YtnnakhdndmjmiaaGreatPuStampA
import Derived.OwnWalk
import Derived.Laws.AppendOwn
import Derived.Laws.MakeOwn
import Derived.BigQuiet
import Derived.BigRegion
import Derived.RegionTactic
set_option linter.unusedVariables false
set_option maxRecDepth 4000
namespace Go.Proofs.YtnnakhdndmjmiaaGreat
open Go.RowKit CrcP StampP
def StrsAt (w : World) (a : Option Addr) (len : Nat) (ss : List ByteArray) : Prop :=
 ss.length = len ∧ len ≤ 9223372036854775807 ∧ (len = 0 ∨ ∃ b off,a = some ⟨b,off,none⟩ ∧ b < w.heap.size ∧ ∀ i,i < len → w.cell? ⟨b,off + i,none⟩ = some (.string (ss.getD i ByteArray.empty)))
theorem StrsAt.keep {w w' : World} {a : Option Addr} {len : Nat} {ss : List ByteArray} (h : StrsAt w a len ss) (hb : Below w.heap.size w w') : StrsAt w' a len ss:=by
 refine ⟨h.1,h.2.1,?_⟩
 rcases h.2.2 with h0 | ⟨b,off,rfl,hlt,hc⟩
 ·exact .inl h0
 ·exact .inr ⟨b,off,rfl,by have:=hb.size;omega,fun i hi=>(hb.cell (p:=⟨b,off + i,none⟩) hlt).trans (hc i hi)⟩
theorem owns_cell {w : World} {B n size g j : Nat} {e : TypeId} {v u : Value} {xs : List Value} (h : w.ownsRow B e size v n xs) (hg : v.ownBlock = some g) (hu : xs[j]? = some u) : w.cell? ⟨g,j,none⟩ = some u:=by
 have h2:=h.cells hg j u hu
 rw [Addr.add_lit,Nat.zero_add] at h2
 exact h2
theorem owns_slice {w : World} {base n : Nat} {e : TypeId} {v : Value} {xs : List Value} (h : w.ownsRow base e 1 v n xs) (hn : 0 < n) : ∃ g cap,v = .slice (some ⟨g,0,none⟩) n cap:=by
 rcases h.2 with ⟨rfl,h0⟩ | ⟨g,cap,cur,rfl,_⟩
 ·omega
 ·exact ⟨g,cap,rfl⟩
theorem owns_slice0 {w : World} {base n : Nat} {e : TypeId} {v : Value} {xs : List Value} (h : w.ownsRow base e 1 v n xs) : ∃ a cap,v = .slice a n cap:=by
 rcases h.2 with ⟨rfl,h0⟩ | ⟨g,cap,cur,rfl,_⟩
 ·exact ⟨none,0,by rw [h0]⟩
 ·exact ⟨_,cap,rfl⟩
def cnt (z : Nat) : Nat:=(z - 1) / 104 + 1
def part (s : ByteArray) (j : Nat) : ByteArray:=s.extract (104 * j) (min (104 * j + 104) s.size)
def parts (s : ByteArray) : List ByteArray:=(List.range (cnt s.size)).map (part s)
theorem parts_length (s : ByteArray) : (parts s).length = cnt s.size:=by simp [parts]
theorem parts_get (s : ByteArray) {j : Nat} (h : j < cnt s.size) : (parts s)[j]? = some (part s j):=by simp [parts,h]
def pv (s : ByteArray) : List Value:=(parts s).map Value.string
theorem pv_length (s : ByteArray) : (pv s).length = cnt s.size:=by rw [pv,List.length_map,parts_length]
theorem pv_take (s : ByteArray) {j : Nat} (h : j < cnt s.size) : (pv s).take (j + 1) = (pv s).take j ++ [Value.string (part s j)]:=by
 have hl : j < (pv s).length:=by rw [pv_length];exact h
 rw [List.take_succ_eq_append_getElem hl]
 congr 2
 have:=parts_get s h
 simp only [pv,List.getElem_map]
 rw [List.getElem?_eq_getElem (by rw [parts_length];exact h)] at this
 rw [Option.some.inj this]
theorem pv_all (s : ByteArray) : (pv s).take (cnt s.size) = (parts s).map Value.string:=by
 rw [List.take_of_length_le (by rw [pv_length];exact Nat.le_refl _)]
 rfl
theorem rest_size (s : ByteArray) (j : Nat) : (s.extract (104 * j) s.size).size = s.size - 104 * j:=by
 rw [ByteArray.size_extract];omega
theorem rest_first (s : ByteArray) (j : Nat) : (s.extract (104 * j) s.size).extract 0 104 = part s j:=by
 unfold part
 rw [ByteArray.extract_extract]
 congr 1
theorem rest_next (s : ByteArray) (j : Nat) : (s.extract (104 * j) s.size).extract 104 (s.extract (104 * j) s.size).size = s.extract (104 * (j + 1)) s.size:=by
 rw [ByteArray.extract_extract,rest_size]
 congr 1
 omega
theorem rest_last (s : ByteArray) (j : Nat) (h : s.size ≤ 104 * j + 104) : s.extract (104 * j) s.size = part s j:=by
 unfold part
 rw [Nat.min_eq_right h]
def SplitMade (w : World) (S : List ByteArray) (e : Ending) (w' : World) : Prop :=
 ∃ g cap,e = .returned (.slice (some ⟨g,0,none⟩) S.length cap) ∧ StrsAt w' (some ⟨g,0,none⟩) S.length S ∧ w.heap.size ≤ g ∧ Below w.heap.size w w'
theorem split_made {w w' : World} {g cap n : Nat} {S : List ByteArray} (hn : n ≤ 512) (h : w'.ownsRow w.heap.size 9 1 (.slice (some ⟨g,0,none⟩) n cap) n (S.map Value.string)) (hb : Below w.heap.size w w') :
  SplitMade w S (.returned (.slice (some ⟨g,0,none⟩) n cap)) w':=by
 have hl : S.length = n:=by have:=h.1;simpa using this
 subst hl
 have hg:=h.lt g rfl
 exact ⟨g,cap,rfl,⟨rfl,by omega,.inr ⟨g,0,rfl,hg.2,fun i hi=>by rw [Nat.zero_add];exact owns_cell h rfl (by simp [List.getD,hi])⟩⟩,hg.1,hb⟩
def strLen : Value → Nat
 | .string s=>s.size
 | _=>0
theorem info_string : (Tryz.prog.info? 9).map (fun i=>(i.zero,i.size,i.bytes)) = some (some (.string ⟨#[]⟩),1,16):=by kernel_rfl
theorem split_any (s : ByteArray) (w : World) (hs : s.size ≤ 53248) : Calls Tryz.prog 56 #[.string s] w (SplitMade w (parts s)):=by
 obtain ⟨i0,hi,hz0,hz1,hz2⟩:=info_parts info_string
 have HI:=Lib.hid hi;have HZ0:=Lib.hid hz0;have HZ1:=Lib.hid hz1;have HZ2:=Lib.hid hz2
 clear hi hz0 hz1 hz2
 have hn : (s.size : Int) / 104 + 1 = ((s.size / 104 + 1 : Nat) : Int):=by omega
 have HN:=Lib.hid hn
 have h00 : s = s.extract (104 * 0) s.size:=by simp
 have H00:=Lib.hid h00
 clear h00 hn
 go_enter Tryz.func56,Tryz.ntmps56
 go_wp2_with (at_make;refine wpList_make_own _ rfl (.const (.int .i64 0)) (.tmp 7) 22 rfl w.heap.size 9 i0 _ 1 Tryz.underlying22 HI.out HZ0.out HZ1.out .i64 .i64 _ (s.size / 104 + 1) rfl rfl HN.out ?b2 ?b3 ?b4 ?_)
 case b2=>rw [HZ2.out];omega
 case b3=>unfold maxLen;omega
 case b4=>exact Nat.le_refl _
 intro w1 hown hgr
 have HB1:=Lib.hid ((Below.refl _ w).grown hgr (Nat.le_refl _) (fun k e=>by cases e))
 have HO1:=Lib.hid hown
 clear hown hgr
 go_wp2_with fail
 go_loopw [0,3] (fun x v wr => ∃ (j : Nat) (r : ByteArray) (a : Option Addr) (cap : Nat),j < cnt s.size ∧ x = .string r ∧ v = .slice a j cap ∧ Hid (r = s.extract (104 * j) s.size) ∧ Hid (wr.ownsRow w.heap.size 9 1 (.slice a j cap) j ((pv s).take j)) ∧ Hid (Below w.heap.size w wr)) (fun x _ _=>strLen x)
 case atStart=>exact ⟨0,s,_,_,by unfold cnt;omega,rfl,rfl,H00.out,HO1,HB1⟩
 case round =>
  obtain ⟨j,r,a,cap,hj,rfl,rfl,hr,hO,hB⟩:=hrel
  have hc7 : cnt s.size ≤ 512:=by unfold cnt;omega
  have hrz:=rest_size s j
  have hrf:=rest_first s j
  have hrn:=rest_next s j
  rw [← hr.out] at hrz hrf hrn
  have HRF:=Lib.hid hrf;have HRN:=Lib.hid hrn
  clear hrf hrn
  by_cases hlt : j + 1 < cnt s.size
  ·have h104 : 104 < r.size:=by rw [hrz];unfold cnt at hlt;omega
   have HPT:=Lib.hid (pv_take s hj)
   clear hrz
   ·skip
    go_wp2_with (at_builtin;refine wpList_append_own _ rfl _ _ 22 rfl w.heap.size 9 i0 _ 1 16 Tryz.underlying22 HI.out HZ0.out HZ1.out HZ2.out rfl (by decide) _ _ _ rfl (hO.out.alloc _) ⟨wr.heap.size,0,none⟩ 1 1 [.string (r.extract 0 104)] rfl rfl ?c1 ?c2 ?c3 ?c4 ?c5 ?_)
    try case c1=>exact cell_one_new _ _ _
    case c2=>simp [Value.oneCell']
    case c3=>unfold maxLen;omega
    case c4=>omega
    case c5=>have:=hB.out.size;simp;omega
    intro v' w2 hown2 hgrow _
    have hb2:=(hB.out.alloc hB.out.size (.cells #[.string (r.extract 0 104)] 9)).grown hgrow (by have:=hB.out.size;simp;omega) (fun k hk=>(hO.out.lt k hk).1)
    obtain ⟨a2,cap2,rfl⟩:=owns_slice0 hown2
    have HO2:=Lib.hid hown2;have HB2:=Lib.hid hb2
    clear hown2 hgrow hb2
    go_wp2_with fail
    go_roundw
    case rel=>exact ⟨j + 1,_,a2,cap2,hlt,rfl,rfl,HRN.out,by have h:=HO2.out;rw [HRF.out,← HPT.out] at h;exact h,HB2⟩
    case measure=>simp [strLen,ByteArray.size_extract];omega
  ·have h104 : r.size ≤ 104:=by rw [hrz];unfold cnt at hlt;omega
   have HRL:=Lib.hid (rest_last s j (by unfold cnt at hlt;omega))
   have HPT:=Lib.hid (pv_take s hj)
   have HJE:=Lib.hid (show j + 1 = cnt s.size by omega)
   clear hrz hlt
   ·skip
    go_wp2_with (at_builtin;refine wpList_append_own _ rfl _ _ 22 rfl w.heap.size 9 i0 _ 1 16 Tryz.underlying22 HI.out HZ0.out HZ1.out HZ2.out rfl (by decide) _ _ _ rfl (hO.out.alloc _) ⟨wr.heap.size,0,none⟩ 1 1 [.string r] rfl rfl ?c1 ?c2 ?c3 ?c4 ?c5 ?_)
    try case c1=>exact cell_one_new _ _ _
    case c2=>simp [Value.oneCell']
    case c3=>unfold maxLen;omega
    case c4=>omega
    case c5=>have:=hB.out.size;simp;omega
    intro v' w2 hown2 hgrow _
    have hb2:=(hB.out.alloc hB.out.size (.cells #[.string r] 9)).grown hgrow (by have:=hB.out.size;simp;omega) (fun k hk=>(hO.out.lt k hk).1)
    obtain ⟨a2,cap2,rfl⟩:=owns_slice0 hown2
    obtain ⟨g2,cap3,hge⟩:=owns_slice hown2 (Nat.succ_pos _)
    simp only [Value.slice.injEq] at hge
    obtain ⟨rfl,_,rfl⟩:=hge
    have hfin : SplitMade w (parts s) (.returned (.slice (some ⟨g2,0,none⟩) (j + 1) cap2)) w2:=split_made (by omega) (by rw [hr.out,HRL.out,← HPT.out,HJE.out,pv_all] at hown2;rw [HJE.out];exact hown2) hb2
    have HFIN:=Lib.hid hfin
    clear hown2 hgrow hb2 hfin
    go_wp2_with fail
    go_ret
    exact HFIN.out
theorem info_byte : (Tryz.prog.info? 5).map (fun i=>(i.zero,i.size,i.bytes)) = some (some (.int .u8 0),1,1):=by kernel_rfl
theorem made_zero_cells : (madeCells #[Value.int .u8 0] 128).toList = (List.replicate 128 (0 : Int)).map (Value.int .u8):=by kernel_rfl
theorem rep_get {n j : Nat} (hj : j < n) : ((List.replicate n (0 : Int)).map (Value.int .u8))[j]? = some (.int .u8 ((List.replicate n (0 : Int)).getD j 0)):=by simp [List.getD,hj]
theorem blank_nums : strOfNums (List.replicate 128 (0 : Int)) = str zeros:=by kernel_rfl
theorem rblank_any (w : World) : Calls Tryz.prog 123 #[] w fun e w'=>e = .returned (.string (str zeros)) ∧ Below w.heap.size w w':=by
 obtain ⟨i0,hi,hz0,hz1,hz2⟩:=info_parts info_byte
 have HI:=Lib.hid hi;have HZ0:=Lib.hid hz0;have HZ1:=Lib.hid hz1;have HZ2:=Lib.hid hz2
 clear hi hz0 hz1 hz2
 go_enter Tryz.func123,Tryz.ntmps123
 go_wp2_with (at_make;refine wpList_make_full _ rfl (.const (.int .i64 128)) (.const (.int .i64 128)) 137 rfl w.heap.size 5 i0 _ 1 Tryz.underlying137 HI.out HZ0.out HZ1.out .i64 .i64 128 128 128 rfl rfl rfl rfl ?b2 ?b3 ?b4 ?_)
 case b2=>rw [HZ2.out];decide
 case b3=>decide
 case b4=>exact Nat.le_refl _
 intro w1 hown hgr
 have hb1 : Below w.heap.size w w1:=(Below.refl _ w).grown hgr (Nat.le_refl _) (fun k e=>by cases e)
 rw [made_zero_cells] at hown
 have hcv:=run_convert_bytes_arg (P:=Tryz.prog) w1 137 5 Tryz.underlying137 Tryz.underlying5 w.heap.size 0 128 128 (List.replicate 128 (0 : Int)) (by simp) (fun j hj=>by
  have:=owns_cell (j:=j) hown rfl (u:=.int .u8 ((List.replicate 128 (0 : Int)).getD j 0)) (rep_get hj)
  rw [Nat.zero_add]
  exact this) 9 Tryz.underlying9
 rw [blank_nums] at hcv
 have HB:=Lib.hid hb1
 clear hown hgr hb1
 obtain ⟨bl,hbl⟩ : ∃ bl,str zeros = bl:=⟨_,rfl⟩
 rw [hbl] at hcv
 have HBL:=Lib.hid hbl
 clear hbl
 go_wp2_with fail
 go_ret
 exact ⟨by rw [HBL.out];rfl,HB.out⟩
end Go.Proofs.YtnnakhdndmjmiaaGreat
