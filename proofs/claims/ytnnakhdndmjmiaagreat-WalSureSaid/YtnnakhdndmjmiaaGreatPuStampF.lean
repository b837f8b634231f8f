import Derived.Test.YtnnakhdndmjmiaaGreatPuStampE
import Derived.WideShapes
set_option linter.unusedVariables false
set_option maxRecDepth 4000
namespace Go.Proofs.YtnnakhdndmjmiaaGreat
open Go.RowKit CrcP StampP
def opV : Option (Nat × Nat × Nat × List UInt8) → Value
 | none=>.tuple #[stV 0 0 0,.string ⟨#[]⟩,.int .i64 12]
 | some (n,i,c,s)=>.tuple #[stV n i c,.string (str s),.int .i64 0]
theorem opn_none_len {l : List UInt8} (h : ¬ l.length = 128) : opn l = none:=by unfold opn;rw [if_neg (fun g=>h g.1)]
theorem opn_none_long {l : List UInt8} (h : ¬ num (fld l 10 12) ≤ 104) : opn l = none:=by unfold opn;rw [if_neg (fun g=>h g.2.1)]
theorem opn_none_fit {l : List UInt8} (h : ¬ fit (num (fld l 0 6)) (num (fld l 6 8)) (num (fld l 8 10))) : opn l = none:=by unfold opn;rw [if_neg (fun g=>h g.2.2.1)]
theorem opn_none_ne {l : List UInt8} (h : ¬ sl (num (fld l 0 6)) (num (fld l 6 8)) (num (fld l 8 10)) (fld l 16 (16 + num (fld l 10 12))) = l) : opn l = none:=by unfold opn;rw [if_neg (fun g=>h g.2.2.2)]
theorem opn_yes {l : List UInt8} (h1 : l.length = 128) (h2 : num (fld l 10 12) ≤ 104) (h3 : fit (num (fld l 0 6)) (num (fld l 6 8)) (num (fld l 8 10))) (h4 : sl (num (fld l 0 6)) (num (fld l 6 8)) (num (fld l 8 10)) (fld l 16 (16 + num (fld l 10 12))) = l) :
  opn l = some (num (fld l 0 6),num (fld l 6 8),num (fld l 8 10),fld l 16 (16 + num (fld l 10 12))):=by unfold opn;rw [if_pos ⟨h1,h2,h3,h4⟩]
theorem results_stamp {fn : Func} (h : fn.results = #[.cell 2 161,.tmp 3,.tmp 4]) (tmps : Array Value) (w : World) (b : Nat) (x0 x1 x2 : Value) (hp : tmps.getD 2 undef = .pointer (some ⟨b,0,none⟩))
  (c0 : w.cell? ⟨b,0,none⟩ = some x0) (c1 : w.cell? ⟨b,1,none⟩ = some x1) (c2 : w.cell? ⟨b,2,none⟩ = some x2) :
  (results fn tmps).run Tryz.prog w = .ok (.tuple #[.agg #[x0,x1,x2],tmps.getD 3 undef,tmps.getD 4 undef]) w:=by
 have hp' : tmps[2]?.getD undef = .pointer (some ⟨b,0,none⟩):=by rw [← hp];simp
 simp only [results,h]
 go_simp
theorem open_len (s : ByteArray) (w : World) (h : ¬ s.size = 128) (hs : s.size ≤ 9223372036854775807) : Calls Tryz.prog 136 #[.string s] w fun e w'=>e = .returned (opV none) ∧ Below w.heap.size w w':=by
 have h1 : ((s.size : Int) != 128) = true:=by simp;omega
 go_enter Tryz.func136,Tryz.ntmps136
 go_wp2_with fail
 refine bodyPost_ret (results_stamp rfl _ _ w.heap.size _ _ _ rfl (by rw [World.cell?_alloc_new];rfl) (by rw [World.cell?_alloc_new];rfl) (by rw [World.cell?_alloc_new];rfl)) rfl ?_
 exact ⟨rfl,(Below.refl _ w).alloc (Nat.le_refl _) _⟩
theorem fld_str (s : ByteArray) (a b : Nat) : (s.extract a b).data.toList = fld s.data.toList a b:=by
 rw [ByteArray.data_extract,Array.toList_extract,List.extract_eq_take_drop]
 rfl
theorem str_fld (s : ByteArray) (a b : Nat) : str (fld s.data.toList a b) = s.extract a b:=by rw [← fld_str,str_data]
theorem number_fld (s : ByteArray) (a b : Nat) (w : World) (h : b - a ≤ 6) : Calls Tryz.prog 170 #[.string (s.extract a b)] w fun e w'=>e = .returned (.int .i64 (num (fld s.data.toList a b) : Int)) ∧ w = w':=by
 have:=number_any (s.extract a b) w (by rw [ByteArray.size_extract];omega)
 rw [fld_str] at this
 exact this
theorem anew (s : ByteArray) (h : s.size = 128) : ∃ (n i c z : Nat) (t : ByteArray) (er : Int),
  (num (fld s.data.toList 0 6) = n ∧ num (fld s.data.toList 6 8) = i ∧ num (fld s.data.toList 8 10) = c ∧ num (fld s.data.toList 10 12) = z) ∧
  (z ≤ 104 → ∀ w,Calls Tryz.prog 114 #[stV n i c,.string (s.extract 16 (16 + z))] w fun e w'=>e = .returned (.tuple #[.string t,.int .i64 er]) ∧ Below w.heap.size w w') ∧
  (z ≤ 104 → ∀ w,Calls Tryz.prog 120 #[stV n i c,.string (s.extract 16 (16 + z))] w fun e w'=>e = .returned (.tuple #[.string t,.int .i64 er]) ∧ Below w.heap.size w w') ∧
  (¬ z ≤ 104 → opn s.data.toList = none) ∧ (er ≠ 0 → opn s.data.toList = none) ∧ (t ≠ s → opn s.data.toList = none) ∧
  (z ≤ 104 → er = 0 → t = s → opV (opn s.data.toList) = .tuple #[stV n i c,.string (s.extract 16 (16 + z)),.int .i64 0]):=by
 have hl : s.data.toList.length = 128:=by rw [len_list,h]
 by_cases hf : fit (num (fld s.data.toList 0 6)) (num (fld s.data.toList 6 8)) (num (fld s.data.toList 8 10))
 ·refine ⟨_,_,_,_,str (sl (num (fld s.data.toList 0 6)) (num (fld s.data.toList 6 8)) (num (fld s.data.toList 8 10)) (fld s.data.toList 16 (16 + num (fld s.data.toList 10 12)))),0,⟨rfl,rfl,rfl,rfl⟩,?_,?_,opn_none_long,fun e=>absurd rfl e,?_,?_⟩
  ·intro hz w
   have:=seal_yes _ _ _ (s.extract 16 (16 + num (fld s.data.toList 10 12))) w hf (by rw [ByteArray.size_extract];omega)
   rw [fld_str] at this
   exact this
  ·intro hz w
   have:=rseal_yes _ _ _ (s.extract 16 (16 + num (fld s.data.toList 10 12))) w hf (by rw [ByteArray.size_extract];omega)
   rw [fld_str] at this
   exact this
  ·intro hne
   refine opn_none_ne fun e=>hne ?_
   rw [e,str_data]
  ·intro hz _ e
   have e2:=congrArg (fun x : ByteArray=>x.data.toList) e
   rw [opn_yes hl hz hf e2]
   show Value.tuple #[stV _ _ _,.string (str _),.int .i64 0] = _
   rw [str_fld]
 ·refine ⟨_,_,_,_,⟨#[]⟩,1,⟨rfl,rfl,rfl,rfl⟩,fun _ w=>seal_not _ _ _ _ w hf,fun _ w=>rseal_not _ _ _ _ w hf,opn_none_long,fun _=>opn_none_fit hf,fun _=>opn_none_fit hf,fun _ e=>by cases e⟩
theorem two_blocks {w w6 : World} {A B : Array Value} {ty : TypeId} (hb : Below ((w.alloc (.cells A ty)).alloc (.cells B ty)).drew.heap.size ((w.alloc (.cells A ty)).alloc (.cells B ty)).drew w6) :
  w6.heap[w.heap.size]? = some (.cells A ty (0,0)) ∧ w6.heap[w.heap.size + 1]? = some (.cells B ty (0,0)) ∧ Below w.heap.size w w6:=by
 have h1:=hb.block w.heap.size (by show _ < ((w.alloc (.cells A ty)).alloc (.cells B ty)).heap.size;simp;omega)
 have h2:=hb.block (w.heap.size + 1) (by show _ < ((w.alloc (.cells A ty)).alloc (.cells B ty)).heap.size;simp)
 refine ⟨h1.trans ((Below.heap_alloc (w.alloc (.cells A ty)) _ w.heap.size (by simp)).trans (heap_alloc_new w _)),h2.trans ?_,(((Below.refl _ w).alloc (Nat.le_refl _) _).alloc (by simp) _).drew.trans (hb.mono (by show _ ≤ ((w.alloc (.cells A ty)).alloc (.cells B ty)).heap.size;simp;omega))⟩
 have h3:=heap_alloc_new (w.alloc (.cells A ty)) (.cells B ty)
 rw [World.size_alloc] at h3
 exact h3
theorem text_inj {a b : ByteArray} (h : a.data.toList = b.data.toList) : a = b:=by
 apply ByteArray.ext
 exact Array.toList_inj.1 h
theorem set3 {w : World} {b : Nat} {x y z x0 y0 z0 : Value} {ty : TypeId} (h : w.heap[b]? = some (.cells #[x0,y0,z0] ty (0,0))) :
  (((w.setCell ⟨b,0,none⟩ x).setCell ⟨b,1,none⟩ y).setCell ⟨b,2,none⟩ z).heap[b]? = some (.cells #[x,y,z] ty (0,0)):=by
 have h1:=Lib.heap_setCell_same (i:=0) h x
 have h2:=Lib.heap_setCell_same (i:=1) h1 y
 exact Lib.heap_setCell_same (i:=2) h2 z
theorem below_set3 {w0 w : World} {b : Nat} (h : Below w0.heap.size w0 w) (hb : w0.heap.size ≤ b) (x y z : Value) : Below w0.heap.size w0 (((w.setCell ⟨b,0,none⟩ x).setCell ⟨b,1,none⟩ y).setCell ⟨b,2,none⟩ z) :=
 ((h.setCell (p:=⟨b,0,none⟩) hb x).setCell (p:=⟨b,1,none⟩) hb y).setCell (p:=⟨b,2,none⟩) hb z
set_option maxHeartbeats 8000000 in
theorem open_yes (s : ByteArray) (w : World) (h : s.size = 128) : Calls Tryz.prog 136 #[.string s] w fun e w'=>e = .returned (opV (opn s.data.toList)) ∧ Below w.heap.size w w':=by
 have h1 : ((s.size : Int) != 128) = false:=by simp;omega
 obtain ⟨n,i,c,z,t,er,⟨e1,e2,e3,e4⟩,hs,_,hn1,hn2,hn3,hy⟩:=anew s h
 have k1:=fun w=>number_fld s 0 6 w (by decide)
 have k2:=fun w=>number_fld s 6 8 w (by decide)
 have k3:=fun w=>number_fld s 8 10 w (by decide)
 have k4:=fun w=>number_fld s 10 12 w (by decide)
 rw [e1] at k1
 rw [e2] at k2
 rw [e3] at k3
 rw [e4] at k4
 clear e1 e2 e3 e4
 generalize opn s.data.toList = op at *
 have hzz : opV none = .tuple #[stV 0 0 0,.string ⟨#[]⟩,.int .i64 12]:=rfl
 unfold stV at *
 have K1:=Lib.hid k1;have K2:=Lib.hid k2;have K3:=Lib.hid k3;have K4:=Lib.hid k4;have HS:=Lib.hid hs
 have HN1:=Lib.hid hn1;have HN2:=Lib.hid hn2;have HN3:=Lib.hid hn3;have HY:=Lib.hid hy;have HZZ:=Lib.hid hzz
 clear k1 k2 k3 k4 hs hn1 hn2 hn3 hy hzz
 go_enter Tryz.func136,Tryz.ntmps136
 go_wp2_with fail
 go_region_with (first
  | (with_reducible refine (K1.out _).mono ?_;rintro e w' ⟨rfl,rfl⟩)
  | (with_reducible refine (K2.out _).mono ?_;rintro e w' ⟨rfl,rfl⟩)
  | (with_reducible refine (K3.out _).mono ?_;rintro e w' ⟨rfl,rfl⟩))
 all_goals
  go_wp2_with fail
  refine (K4.out _).mono ?_
  rintro e w' ⟨rfl,rfl⟩
  by_cases hz : z ≤ 104
  ·go_wp2_with fail
   refine (HS.out hz _).mono ?_
   rintro e w6 ⟨rfl,hb6⟩
   obtain ⟨hA,hB,hW⟩:=two_blocks hb6
   have HW:=Lib.hid hW
   have a0 : w6.cell? ⟨w.heap.size,0,none⟩ = some (.int .i64 0):=cell_of_heap hA
   have a1 : w6.cell? ⟨w.heap.size,1,none⟩ = some (.int .i64 0):=cell_of_heap hA
   have a2 : w6.cell? ⟨w.heap.size,2,none⟩ = some (.int .i64 0):=cell_of_heap hA
   have b0 : w6.cell? ⟨w.heap.size + 1,0,none⟩ = some (.int .i64 n):=cell_of_heap hB
   have b1 : w6.cell? ⟨w.heap.size + 1,1,none⟩ = some (.int .i64 i):=cell_of_heap hB
   have b2 : w6.cell? ⟨w.heap.size + 1,2,none⟩ = some (.int .i64 c):=cell_of_heap hB
   have f0 : w6.frozen? ⟨w.heap.size,0,none⟩ = false:=frozen_of_heap hA
   have f1 : w6.frozen? ⟨w.heap.size,1,none⟩ = false:=frozen_of_heap hA
   have f2 : w6.frozen? ⟨w.heap.size,2,none⟩ = false:=frozen_of_heap hA
   have HAA:=Lib.hid hA
   clear hb6 hA hB hW
   by_cases he : er = 0
   ·have he2 : (er != 0) = false:=by rw [he];rfl
    by_cases ht : t = s
    ·have ht2 : (t.toList == s.toList) = true:=by rw [ht];simp
     have HV:=Lib.hid (HY.out hz he ht)
     clear HY HN1 HN2 HN3 he ht
     go_wp2_with fail
     exact bodyPost_ret (results_stamp rfl _ _ w.heap.size _ _ _ rfl (cell_of_heap (set3 HAA.out)) (cell_of_heap (set3 HAA.out)) (cell_of_heap (set3 HAA.out))) rfl ⟨by rw [HV.out];rfl,below_set3 HW.out (Nat.le_refl _) _ _ _⟩
    ·have ht2 : (t.toList == s.toList) = false:=by
      apply beq_eq_false_iff_ne.2
      intro e
      rw [ByteArray.toList_eq,ByteArray.toList_eq] at e
      exact ht (text_inj e)
     have hv:=HN3.out ht
     subst hv
     clear HY HN1 HN2 HN3 he ht
     go_wp2_with fail
     exact bodyPost_ret (results_stamp rfl _ _ w.heap.size _ _ _ rfl (cell_of_heap (set3 HAA.out)) (cell_of_heap (set3 HAA.out)) (cell_of_heap (set3 HAA.out))) rfl ⟨rfl,below_set3 HW.out (Nat.le_refl _) _ _ _⟩
   ·have he2 : (er != 0) = true:=by simp;exact he
    have hv:=HN2.out he
    subst hv
    clear HY HN1 HN2 HN3 he
    go_wp2_with fail
    exact bodyPost_ret (results_stamp rfl _ _ w.heap.size _ _ _ rfl (cell_of_heap (set3 HAA.out)) (cell_of_heap (set3 HAA.out)) (cell_of_heap (set3 HAA.out))) rfl ⟨rfl,below_set3 HW.out (Nat.le_refl _) _ _ _⟩
  ·have hv:=HN1.out hz
   subst hv
   go_wp2_with fail
   obtain ⟨hA,_,hW⟩:=two_blocks (Below.refl ((w.alloc (.cells #[.int .i64 0,.int .i64 0,.int .i64 0] 161)).alloc (.cells #[.int .i64 n,.int .i64 i,.int .i64 c] 161)).drew.heap.size _)
   exact bodyPost_ret (results_stamp rfl _ _ w.heap.size _ _ _ rfl (cell_of_heap hA) (cell_of_heap hA) (cell_of_heap hA)) rfl ⟨rfl,hW⟩
end Go.Proofs.YtnnakhdndmjmiaaGreat
/-
 The contracts of the document's Torn,and of the laws' own 'awake': the chapter's example;both Opens and both Seals in one.
-/
set_option linter.unusedVariables false
set_option maxRecDepth 4000
namespace Go.Proofs.YtnnakhdndmjmiaaGreat
open Go.RowKit CrcP StampP
theorem open_any (s : ByteArray) (w : World) (hs : s.size ≤ 9223372036854775807) : Calls Tryz.prog 136 #[.string s] w fun e w'=>e = .returned (opV (opn s.data.toList)) ∧ Below w.heap.size w w':=by
 by_cases h : s.size = 128
 ·exact open_yes s w h
 ·rw [opn_none_len (by rw [len_list];exact h)]
  exact open_len s w h hs
def slR (n i c : Int) (s : ByteArray) : ByteArray × Int :=
 if fit n i c then (if s.size ≤ 104 then (str (sl n.toNat i.toNat c.toNat s.data.toList),0) else (⟨#[]⟩,9)) else (⟨#[]⟩,1)
theorem seal_any (n i c : Int) (s : ByteArray) (w : World) (hs : s.size ≤ 9223372036854775807) : Calls Tryz.prog 114 #[stV n i c,.string s] w fun e w'=>e = .returned (.tuple #[.string (slR n i c s).1,.int .i64 (slR n i c s).2]) ∧ Below w.heap.size w w':=by
 unfold slR
 by_cases h : fit n i c
 ·rw [if_pos h]
  by_cases hz : s.size ≤ 104
  ·rw [if_pos hz]
   have g:=h
   unfold fit at g
   have e1 : n = (n.toNat : Int):=by omega
   have e2 : i = (i.toNat : Int):=by omega
   have e3 : c = (c.toNat : Int):=by omega
   have:=seal_yes n.toNat i.toNat c.toNat s w (by rw [← e1,← e2,← e3];exact h) hz
   rw [← e1,← e2,← e3] at this
   exact this
  ·rw [if_neg hz]
   exact seal_long n i c s w h (by omega)
 ·rw [if_neg h]
  exact seal_not n i c s w h
theorem below_drewN' {B : Nat} {a w : World} (h : Below B a w) (n : Nat) : Below B a (w.drewN n):=h.trans ⟨rfl,rfl,rfl,Nat.le_refl _,fun _ _=>rfl⟩
end Go.Proofs.YtnnakhdndmjmiaaGreat
