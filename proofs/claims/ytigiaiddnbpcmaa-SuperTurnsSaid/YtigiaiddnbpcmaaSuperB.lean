/-
  The contracts of both Sames: two superblocks.
-/
import Derived.Test.YtigiaiddnbpcmaaSuperA
set_option linter.unusedVariables false
set_option maxRecDepth 4000
namespace Go.Proofs.Ytigiaiddnbpcmaa
open Go.RowKit SuperP
open Wire (IntsAt getD_mem take_snoc)

theorem sup_ext {x y : Sup} (h : x.gen = y.gen ∧ x.base = y.base ∧ x.size = y.size ∧ x.cg = y.cg ∧ x.chk = y.chk ∧ x.log = y.log) : x = y := by
  cases x; cases y; simp_all
instance : DecidableEq Sup := fun x y => decidable_of_decidable_of_iff (p := x.gen = y.gen ∧ x.base = y.base ∧ x.size = y.size ∧ x.cg = y.cg ∧ x.chk = y.chk ∧ x.log = y.log) ⟨sup_ext, fun e => by rw [e]; exact ⟨rfl, rfl, rfl, rfl, rfl, rfl⟩⟩
def sameB (x y : Sup) : Bool := decide (x = y)
theorem below_two {w w6 : World} {A B : Array Value} {ty : TypeId} (hb : Below ((w.alloc (.cells A ty)).alloc (.cells B ty)).heap.size ((w.alloc (.cells A ty)).alloc (.cells B ty)) w6) :
    w6.heap[w.heap.size]? = some (.cells A ty (0, 0)) ∧ w6.heap[w.heap.size + 1]? = some (.cells B ty (0, 0)) ∧ Below w.heap.size w w6 := by
  have h1 := hb.block w.heap.size (by simp; omega)
  have h2 := hb.block (w.heap.size + 1) (by simp)
  refine ⟨h1.trans ((Below.heap_alloc (w.alloc (.cells A ty)) _ w.heap.size (by simp)).trans (heap_alloc_new w _)), h2.trans ?_, (((Below.refl _ w).alloc (Nat.le_refl _) _).alloc (by simp) _).trans (hb.mono (by simp; omega))⟩
  have h3 := heap_alloc_new (w.alloc (.cells A ty)) (.cells B ty)
  rw [World.size_alloc] at h3
  exact h3
theorem keep_two {w : World} {a : Option Addr} {l : Nat} {xs : List Int} (h : IntsAt w a l xs) (b1 b2 : Obj) : IntsAt ((w.alloc b1).alloc b2) a l xs := h.keep (((Below.refl _ w).alloc (Nat.le_refl _) _).alloc (by simp) _)

set_option maxHeartbeats 2000000 in
theorem supsame_any (x y : Sup) (a1 a2 b1 b2 : Option Addr) (l1 c1 l2 c2 m1 d1 m2 d2 : Nat) (w : World) (h : SupAt w x a1 l1 a2 l2) (g : SupAt w y b1 m1 b2 m2) :
    Calls Try.prog 18 #[supV x (.slice a1 l1 c1) (.slice a2 l2 c2), supV y (.slice b1 m1 d1) (.slice b2 m2 d2)] w fun e w' => e = .returned (.bool (sameB x y)) ∧ Below w.heap.size w w' := by
  unfold supV
  by_cases g1 : x.gen = y.gen
  rotate_left
  · rw [show sameB x y = false from decide_eq_false fun e => g1 (by rw [e])]
    have t1 : (x.gen == y.gen) = false := by simpa using g1
    clear h g
    go_enter Try.func18, Try.ntmps18
    go_wp2_with fail
    go_ret
    exact ⟨rfl, ((Below.refl _ w).alloc (Nat.le_refl _) _).alloc (by simp) _⟩
  by_cases g2 : x.base = y.base
  rotate_left
  · rw [show sameB x y = false from decide_eq_false fun e => g2 (by rw [e])]
    have t1 : (x.gen == y.gen) = true := by simpa using g1
    have t2 : (x.base == y.base) = false := by simpa using g2
    clear h g
    go_enter Try.func18, Try.ntmps18
    go_wp2_with fail
    go_ret
    exact ⟨rfl, ((Below.refl _ w).alloc (Nat.le_refl _) _).alloc (by simp) _⟩
  by_cases g3 : x.size = y.size
  rotate_left
  · rw [show sameB x y = false from decide_eq_false fun e => g3 (by rw [e])]
    have t1 : (x.gen == y.gen) = true := by simpa using g1
    have t2 : (x.base == y.base) = true := by simpa using g2
    have t3 : (x.size == y.size) = false := by simpa using g3
    clear h g
    go_enter Try.func18, Try.ntmps18
    go_wp2_with fail
    go_ret
    exact ⟨rfl, ((Below.refl _ w).alloc (Nat.le_refl _) _).alloc (by simp) _⟩
  by_cases g4 : x.cg = y.cg
  rotate_left
  · rw [show sameB x y = false from decide_eq_false fun e => g4 (by rw [e])]
    have t1 : (x.gen == y.gen) = true := by simpa using g1
    have t2 : (x.base == y.base) = true := by simpa using g2
    have t3 : (x.size == y.size) = true := by simpa using g3
    have t4 : (x.cg == y.cg) = false := by simpa using g4
    clear h g
    go_enter Try.func18, Try.ntmps18
    go_wp2_with fail
    go_ret
    exact ⟨rfl, ((Below.refl _ w).alloc (Nat.le_refl _) _).alloc (by simp) _⟩
  have t1 : (x.gen == y.gen) = true := by simpa using g1
  have t2 : (x.base == y.base) = true := by simpa using g2
  have t3 : (x.size == y.size) = true := by simpa using g3
  have t4 : (x.cg == y.cg) = true := by simpa using g4
  obtain ⟨R, hR⟩ : ∃ R, sameB x y = R := ⟨_, rfl⟩
  have hRR : R = (decide (x.chk = y.chk) && decide (x.log = y.log)) := by
    rw [← hR]
    unfold sameB
    by_cases e1 : x.chk = y.chk
    · by_cases e2 : x.log = y.log
      · rw [decide_eq_true (sup_ext ⟨g1, g2, g3, g4, e1, e2⟩), decide_eq_true e1, decide_eq_true e2]; rfl
      · rw [decide_eq_false (fun e => e2 (by rw [e])), decide_eq_false e2, Bool.and_false]
    · rw [decide_eq_false (fun e => e1 (by rw [e])), decide_eq_false e1, Bool.false_and]
  rw [hR]
  have H := Lib.hid h; have G := Lib.hid g; have HR := Lib.hid hRR
  clear h g hR hRR g1 g2 g3 g4
  go_enter Try.func18, Try.ntmps18
  go_wp2_with fail
  refine (equal_any a1 b1 l1 c1 m1 d1 x.chk y.chk _ (keep_two H.out.chk _ _) (keep_two G.out.chk _ _) H.out.big1 G.out.big1).mono ?_
  rintro e w1 ⟨rfl, hb1⟩
  obtain ⟨k1, k2, hB⟩ := below_two hb1
  have HB := Lib.hid hB
  obtain ⟨_, _, _, _, _, p5⟩ := six_cells k1
  obtain ⟨_, _, _, _, _, q5⟩ := six_cells k2
  clear hb1 k1 k2 hB
  by_cases e1 : x.chk = y.chk
  · have hRR := HR.out
    rw [decide_eq_true e1, Bool.true_and] at hRR
    have HR2 := Lib.hid hRR
    rw [decide_eq_true e1]
    clear HR hRR e1
    go_wp2_with fail
    refine (equal_any a2 b2 l2 c2 m2 d2 x.log y.log _ (H.out.log.keep HB.out) (G.out.log.keep HB.out) H.out.big2 G.out.big2).mono ?_
    rintro e w2 ⟨rfl, hb2⟩
    have HB2 := Lib.hid (Wire.below_keep HB.out hb2 HB.out.size)
    clear hb2
    rw [← HR2.out]
    cases R
    · go_wp2_with fail
      go_ret
      exact ⟨rfl, HB2.out⟩
    · go_wp2_with fail
      go_ret
      exact ⟨rfl, HB2.out⟩
  · have hRR := HR.out
    rw [decide_eq_false e1, Bool.false_and] at hRR
    subst hRR
    rw [decide_eq_false e1]
    clear e1
    go_wp2_with fail
    go_ret
    exact ⟨rfl, HB.out⟩
set_option maxHeartbeats 2000000 in
theorem rsupsame_any (x y : Sup) (a1 a2 b1 b2 : Option Addr) (l1 c1 l2 c2 m1 d1 m2 d2 : Nat) (w : World) (h : SupAt w x a1 l1 a2 l2) (g : SupAt w y b1 m1 b2 m2) :
    Calls Try.prog 13 #[supV x (.slice a1 l1 c1) (.slice a2 l2 c2), supV y (.slice b1 m1 d1) (.slice b2 m2 d2)] w fun e w' => e = .returned (.bool (sameB x y)) ∧ Below w.heap.size w w' := by
  unfold supV
  by_cases g1 : x.gen = y.gen
  rotate_left
  · rw [show sameB x y = false from decide_eq_false fun e => g1 (by rw [e])]
    have t1 : (x.gen == y.gen) = false := by simpa using g1
    clear h g
    go_enter Try.func13, Try.ntmps13
    go_wp2_with fail
    go_ret
    exact ⟨rfl, ((Below.refl _ w).alloc (Nat.le_refl _) _).alloc (by simp) _⟩
  by_cases g2 : x.base = y.base
  rotate_left
  · rw [show sameB x y = false from decide_eq_false fun e => g2 (by rw [e])]
    have t1 : (x.gen == y.gen) = true := by simpa using g1
    have t2 : (x.base == y.base) = false := by simpa using g2
    clear h g
    go_enter Try.func13, Try.ntmps13
    go_wp2_with fail
    go_ret
    exact ⟨rfl, ((Below.refl _ w).alloc (Nat.le_refl _) _).alloc (by simp) _⟩
  by_cases g3 : x.size = y.size
  rotate_left
  · rw [show sameB x y = false from decide_eq_false fun e => g3 (by rw [e])]
    have t1 : (x.gen == y.gen) = true := by simpa using g1
    have t2 : (x.base == y.base) = true := by simpa using g2
    have t3 : (x.size == y.size) = false := by simpa using g3
    clear h g
    go_enter Try.func13, Try.ntmps13
    go_wp2_with fail
    go_ret
    exact ⟨rfl, ((Below.refl _ w).alloc (Nat.le_refl _) _).alloc (by simp) _⟩
  by_cases g4 : x.cg = y.cg
  rotate_left
  · rw [show sameB x y = false from decide_eq_false fun e => g4 (by rw [e])]
    have t1 : (x.gen == y.gen) = true := by simpa using g1
    have t2 : (x.base == y.base) = true := by simpa using g2
    have t3 : (x.size == y.size) = true := by simpa using g3
    have t4 : (x.cg == y.cg) = false := by simpa using g4
    clear h g
    go_enter Try.func13, Try.ntmps13
    go_wp2_with fail
    go_ret
    exact ⟨rfl, ((Below.refl _ w).alloc (Nat.le_refl _) _).alloc (by simp) _⟩
  have t1 : (x.gen == y.gen) = true := by simpa using g1
  have t2 : (x.base == y.base) = true := by simpa using g2
  have t3 : (x.size == y.size) = true := by simpa using g3
  have t4 : (x.cg == y.cg) = true := by simpa using g4
  obtain ⟨R, hR⟩ : ∃ R, sameB x y = R := ⟨_, rfl⟩
  have hRR : R = (decide (x.chk = y.chk) && decide (x.log = y.log)) := by
    rw [← hR]
    unfold sameB
    by_cases e1 : x.chk = y.chk
    · by_cases e2 : x.log = y.log
      · rw [decide_eq_true (sup_ext ⟨g1, g2, g3, g4, e1, e2⟩), decide_eq_true e1, decide_eq_true e2]; rfl
      · rw [decide_eq_false (fun e => e2 (by rw [e])), decide_eq_false e2, Bool.and_false]
    · rw [decide_eq_false (fun e => e1 (by rw [e])), decide_eq_false e1, Bool.false_and]
  rw [hR]
  have H := Lib.hid h; have G := Lib.hid g; have HR := Lib.hid hRR
  clear h g hR hRR g1 g2 g3 g4
  go_enter Try.func13, Try.ntmps13
  go_wp2_with fail
  refine (rsame_any a1 b1 l1 c1 m1 d1 x.chk y.chk _ (keep_two H.out.chk _ _) (keep_two G.out.chk _ _) H.out.big1 G.out.big1).mono ?_
  rintro e w1 ⟨rfl, hb1⟩
  obtain ⟨k1, k2, hB⟩ := below_two hb1
  have HB := Lib.hid hB
  obtain ⟨_, _, _, _, _, p5⟩ := six_cells k1
  obtain ⟨_, _, _, _, _, q5⟩ := six_cells k2
  clear hb1 k1 k2 hB
  by_cases e1 : x.chk = y.chk
  · have hRR := HR.out
    rw [decide_eq_true e1, Bool.true_and] at hRR
    have HR2 := Lib.hid hRR
    rw [decide_eq_true e1]
    clear HR hRR e1
    go_wp2_with fail
    refine (rsame_any a2 b2 l2 c2 m2 d2 x.log y.log _ (H.out.log.keep HB.out) (G.out.log.keep HB.out) H.out.big2 G.out.big2).mono ?_
    rintro e w2 ⟨rfl, hb2⟩
    have HB2 := Lib.hid (Wire.below_keep HB.out hb2 HB.out.size)
    clear hb2
    rw [← HR2.out]
    cases R
    · go_wp2_with fail
      go_ret
      exact ⟨rfl, HB2.out⟩
    · go_wp2_with fail
      go_ret
      exact ⟨rfl, HB2.out⟩
  · have hRR := HR.out
    rw [decide_eq_false e1, Bool.false_and] at hRR
    subst hRR
    rw [decide_eq_false e1]
    clear e1
    go_wp2_with fail
    go_ret
    exact ⟨rfl, HB.out⟩
end Go.Proofs.Ytigiaiddnbpcmaa
