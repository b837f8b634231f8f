/-
  The contracts of checked, and of the program's Fit.
-/
import Derived.Test.YtigiaiddnbpcmaaSuperD
set_option linter.unusedVariables false
set_option maxRecDepth 4000
namespace Go.Proofs.Ytigiaiddnbpcmaa
open Go.RowKit SuperP
open Wire (IntsAt getD_mem take_snoc)

theorem cells_second {w : World} {A B : Array Value} {t u : TypeId} : ((w.alloc (.cells A t)).alloc (.cells B u)).heap[w.heap.size + 1]? = some (.cells B u (0, 0)) := by
  have h3 := heap_alloc_new (w.alloc (.cells A t)) (.cells B u)
  rw [World.size_alloc] at h3
  exact h3
theorem fit_parts {x : Sup} (h : Fit x) : (1 ≤ x.gen ∧ x.gen ≤ 1099511627776 ∧ 0 ≤ x.base ∧ x.base ≤ 1099511627776 ∧ 0 ≤ x.cg ∧ x.cg ≤ x.gen) ∧ 0 < x.log.length ∧ Segs (x.chk ++ x.log) ∧ x.chk.length ≤ 63 ∧ x.log.length ≤ 63 := by
  unfold Fit most at h
  obtain ⟨c1, c2, ⟨g1, g2, g3, g4, g5, g6, g7, g8⟩, g9⟩ := h
  exact ⟨⟨g1, g2, g3, g4, g5, g6⟩, g7, g8, c1, c2⟩
/-- What is asked of CheckGen and Size. -/
def chkB (x : Sup) : Bool := if x.chk.length = 0 then decide (x.cg = 0) && decide (x.size = 0) else decide (0 < x.cg) && (decide (0 ≤ x.size) && decide (x.size ≤ x.chk.length * 832))
theorem fit_chk {x : Sup} (g : 1 ≤ x.gen ∧ x.gen ≤ 1099511627776 ∧ 0 ≤ x.base ∧ x.base ≤ 1099511627776 ∧ 0 ≤ x.cg ∧ x.cg ≤ x.gen) (hl : 0 < x.log.length) (hs : Segs (x.chk ++ x.log)) : decide (Fit x) = chkB x := by
  have hn := segs_len hs
  rw [List.length_append] at hn
  unfold chkB
  by_cases h0 : x.chk.length = 0
  · rw [if_pos h0]
    by_cases h1 : x.cg = 0 ∧ x.size = 0
    · rw [decide_eq_true (p := x.cg = 0) h1.1, decide_eq_true (p := x.size = 0) h1.2]
      exact decide_eq_true ⟨by omega, by omega, ⟨g.1, g.2.1, g.2.2.1, g.2.2.2.1, g.2.2.2.2.1, g.2.2.2.2.2, hl, hs⟩, by rw [if_pos h0]; exact h1⟩
    · rw [decide_eq_false (p := Fit x)]
      · symm
        rw [Bool.and_eq_false_iff, decide_eq_false_iff_not, decide_eq_false_iff_not]
        omega
      · intro hf
        have := hf.2.2.2
        rw [if_pos h0] at this
        exact h1 this
  · rw [if_neg h0]
    by_cases h1 : 0 < x.cg ∧ 0 ≤ x.size ∧ x.size ≤ x.chk.length * 832
    · rw [decide_eq_true (p := 0 < x.cg) h1.1, decide_eq_true (p := 0 ≤ x.size) h1.2.1, decide_eq_true (p := x.size ≤ x.chk.length * 832) h1.2.2]
      exact decide_eq_true ⟨by omega, by omega, ⟨g.1, g.2.1, g.2.2.1, g.2.2.2.1, g.2.2.2.2.1, g.2.2.2.2.2, hl, hs⟩, by rw [if_neg h0]; exact h1⟩
    · rw [decide_eq_false (p := Fit x)]
      · symm
        rw [Bool.and_eq_false_iff, Bool.and_eq_false_iff, decide_eq_false_iff_not, decide_eq_false_iff_not, decide_eq_false_iff_not]
        omega
      · intro hf
        have := hf.2.2.2
        rw [if_neg h0] at this
        exact h1 this
set_option maxHeartbeats 1000000 in
theorem checked_any (x : Sup) (a1 a2 : Option Addr) (l1 c1 l2 c2 : Nat) (w : World) (h : SupAt w x a1 l1 a2 l2) (hl : l1 ≤ 1000000) (hg : 0 ≤ x.cg) :
    Calls Try.prog 39 #[supV x (.slice a1 l1 c1) (.slice a2 l2 c2)] w fun e w' => e = .returned (.bool (chkB x)) ∧ Below w.heap.size w w' := by
  unfold supV chkB
  rw [h.chk.1]
  have hb : Below w.heap.size w (w.alloc (.cells #[.int .i64 x.gen, .int .i64 x.base, .int .i64 x.size, .int .i64 x.cg, .slice a1 l1 c1, .slice a2 l2 c2] 24)) := (Below.refl _ w).alloc (Nat.le_refl _) _
  have HB := Lib.hid hb
  clear hb h
  by_cases h0 : l1 = 0
  · rw [if_pos h0]
    subst h0
    by_cases h1 : x.cg = 0
    · have t1 : (x.cg == 0) = true := by simpa using h1
      by_cases h2 : x.size = 0
      · have t2 : (x.size == 0) = true := by simpa using h2
        rw [decide_eq_true h1, decide_eq_true h2]
        clear h1 h2
        go_enter Try.func39, Try.ntmps39
        go_wp2_with fail
        go_ret
        exact ⟨rfl, HB.out⟩
      · have t2 : (x.size == 0) = false := by simpa using h2
        rw [decide_eq_true h1, decide_eq_false h2]
        clear h1 h2
        go_enter Try.func39, Try.ntmps39
        go_wp2_with fail
        go_ret
        exact ⟨rfl, HB.out⟩
    · have t1 : (x.cg == 0) = false := by simpa using h1
      rw [decide_eq_false h1, Bool.false_and]
      clear h1
      go_enter Try.func39, Try.ntmps39
      go_wp2_with fail
      go_ret
      exact ⟨rfl, HB.out⟩
  · rw [if_neg h0]
    have t0 : ((l1 : Int) == 0) = false := by simp; omega
    by_cases h1 : 0 < x.cg
    · have t1 : (x.cg != 0) = true := by simp; omega
      rw [decide_eq_true h1, Bool.true_and]
      by_cases h2 : 0 ≤ x.size
      · have t2 : decide (0 ≤ x.size) = true := decide_eq_true h2
        rw [t2, Bool.true_and]
        obtain ⟨R, hR⟩ : ∃ R, decide (x.size ≤ (l1 : Int) * 832) = R := ⟨_, rfl⟩
        rw [hR]
        have hm : (l1 : Int) * 8 * 104 = (l1 : Int) * 832 := by omega
        have hR2 : decide (x.size ≤ (l1 : Int) * 8 * 104) = R := by rw [hm]; exact hR
        clear h1 h2 hR hm
        go_enter Try.func39, Try.ntmps39
        go_wp2_with fail
        go_ret
        exact ⟨rfl, HB.out⟩
      · have t2 : decide (0 ≤ x.size) = false := decide_eq_false h2
        rw [t2, Bool.false_and]
        clear h1 h2
        go_enter Try.func39, Try.ntmps39
        go_wp2_with fail
        go_ret
        exact ⟨rfl, HB.out⟩
    · have t1 : (x.cg != 0) = false := by simp; omega
      rw [decide_eq_false h1, Bool.false_and]
      clear h1
      go_enter Try.func39, Try.ntmps39
      go_wp2_with fail
      go_ret
      exact ⟨rfl, HB.out⟩
set_option maxHeartbeats 4000000 in
theorem supfit_any (x : Sup) (a1 a2 : Option Addr) (l1 c1 l2 c2 : Nat) (w : World) (h : SupAt w x a1 l1 a2 l2) (hl1 : l1 ≤ 1000000) (hl2 : l2 ≤ 1000000) :
    Calls Try.prog 14 #[supV x (.slice a1 l1 c1) (.slice a2 l2 c2)] w fun e w' => e = .returned (.bool (decide (Fit x))) ∧ Below w.heap.size w w' := by
  have hb : Below w.heap.size w (w.alloc (.cells #[.int .i64 x.gen, .int .i64 x.base, .int .i64 x.size, .int .i64 x.cg, .slice a1 l1 c1, .slice a2 l2 c2] 24)) := (Below.refl _ w).alloc (Nat.le_refl _) _
  have HB := Lib.hid hb
  clear hb
  unfold supV
  by_cases g0 : 1 ≤ x.gen
  rotate_left
  · rw [show decide (Fit x) = false from decide_eq_false fun e => g0 (by have := fit_parts e; omega)]
    have t0 : decide (1 ≤ x.gen) = false := decide_eq_false g0
    clear h g0
    go_enter Try.func14, Try.ntmps14
    go_wp2_with fail
    go_ret
    exact ⟨rfl, HB.out⟩
  by_cases g1 : x.gen ≤ 1099511627776
  rotate_left
  · rw [show decide (Fit x) = false from decide_eq_false fun e => g1 (by have := fit_parts e; omega)]
    have t0 : decide (1 ≤ x.gen) = true := decide_eq_true g0
    have t1 : decide (x.gen ≤ 1099511627776) = false := decide_eq_false g1
    clear h g0 g1
    go_enter Try.func14, Try.ntmps14
    go_wp2_with fail
    go_ret
    exact ⟨rfl, HB.out⟩
  by_cases g2 : 0 ≤ x.base
  rotate_left
  · rw [show decide (Fit x) = false from decide_eq_false fun e => g2 (by have := fit_parts e; omega)]
    have t0 : decide (1 ≤ x.gen) = true := decide_eq_true g0
    have t1 : decide (x.gen ≤ 1099511627776) = true := decide_eq_true g1
    have t2 : decide (0 ≤ x.base) = false := decide_eq_false g2
    clear h g0 g1 g2
    go_enter Try.func14, Try.ntmps14
    go_wp2_with fail
    go_ret
    exact ⟨rfl, HB.out⟩
  by_cases g3 : x.base ≤ 1099511627776
  rotate_left
  · rw [show decide (Fit x) = false from decide_eq_false fun e => g3 (by have := fit_parts e; omega)]
    have t0 : decide (1 ≤ x.gen) = true := decide_eq_true g0
    have t1 : decide (x.gen ≤ 1099511627776) = true := decide_eq_true g1
    have t2 : decide (0 ≤ x.base) = true := decide_eq_true g2
    have t3 : decide (x.base ≤ 1099511627776) = false := decide_eq_false g3
    clear h g0 g1 g2 g3
    go_enter Try.func14, Try.ntmps14
    go_wp2_with fail
    go_ret
    exact ⟨rfl, HB.out⟩
  by_cases g4 : 0 ≤ x.cg
  rotate_left
  · rw [show decide (Fit x) = false from decide_eq_false fun e => g4 (by have := fit_parts e; omega)]
    have t0 : decide (1 ≤ x.gen) = true := decide_eq_true g0
    have t1 : decide (x.gen ≤ 1099511627776) = true := decide_eq_true g1
    have t2 : decide (0 ≤ x.base) = true := decide_eq_true g2
    have t3 : decide (x.base ≤ 1099511627776) = true := decide_eq_true g3
    have t4 : decide (0 ≤ x.cg) = false := decide_eq_false g4
    clear h g0 g1 g2 g3 g4
    go_enter Try.func14, Try.ntmps14
    go_wp2_with fail
    go_ret
    exact ⟨rfl, HB.out⟩
  by_cases g5 : x.cg ≤ x.gen
  rotate_left
  · rw [show decide (Fit x) = false from decide_eq_false fun e => g5 (by have := fit_parts e; omega)]
    have t0 : decide (1 ≤ x.gen) = true := decide_eq_true g0
    have t1 : decide (x.gen ≤ 1099511627776) = true := decide_eq_true g1
    have t2 : decide (0 ≤ x.base) = true := decide_eq_true g2
    have t3 : decide (x.base ≤ 1099511627776) = true := decide_eq_true g3
    have t4 : decide (0 ≤ x.cg) = true := decide_eq_true g4
    have t5 : decide (x.cg ≤ x.gen) = false := decide_eq_false g5
    clear h g0 g1 g2 g3 g4 g5
    go_enter Try.func14, Try.ntmps14
    go_wp2_with fail
    go_ret
    exact ⟨rfl, HB.out⟩
  have t0 : decide (1 ≤ x.gen) = true := decide_eq_true g0
  have t1 : decide (x.gen ≤ 1099511627776) = true := decide_eq_true g1
  have t2 : decide (0 ≤ x.base) = true := decide_eq_true g2
  have t3 : decide (x.base ≤ 1099511627776) = true := decide_eq_true g3
  have t4 : decide (0 ≤ x.cg) = true := decide_eq_true g4
  have t5 : decide (x.cg ≤ x.gen) = true := decide_eq_true g5
  have hg : 1 ≤ x.gen ∧ x.gen ≤ 1099511627776 ∧ 0 ≤ x.base ∧ x.base ≤ 1099511627776 ∧ 0 ≤ x.cg ∧ x.cg ≤ x.gen := ⟨g0, g1, g2, g3, g4, g5⟩
  obtain ⟨R, hR⟩ : ∃ R, decide (Fit x) = R := ⟨_, rfl⟩
  rw [hR]
  have H := Lib.hid h; have HR := Lib.hid hR; have HG := Lib.hid hg
  clear h hR hg g0 g1 g2 g3 g4 g5
  go_enter Try.func14, Try.ntmps14
  go_wp2_with fail
  refine (distinct_any (w.heap.size + 1) 0 _ a1 a2 l1 c1 l2 c2 x.chk x.log _ (by simp) ((Wire.cell_of_heap cells_second).trans rfl) ((Wire.cell_of_heap cells_second).trans rfl) (keep_two H.out.chk _ _) (keep_two H.out.log _ _) hl1 hl2).mono ?_
  rintro e w1 ⟨rfl, hb1⟩
  have hB := (HB.out.alloc HB.out.size _).trans (hb1.mono (by simp; omega))
  have k1 := (hb1.block w.heap.size (by simp; omega)).trans ((Below.heap_alloc (w.alloc _) _ w.heap.size (by simp)).trans (heap_alloc_new w _))
  obtain ⟨p0, p1, p2, p3, p4, p5⟩ := six_cells k1
  have HB1 := Lib.hid hB
  clear hb1 k1 hB
  by_cases hs : Segs (x.chk ++ x.log)
  rotate_left
  · have hRf : R = false := by rw [← HR.out]; exact decide_eq_false fun e => hs (fit_parts e).2.2.1
    have HRF := Lib.hid hRf
    rw [decide_eq_false hs]
    clear hs hRf
    go_wp2_with fail
    go_ret
    exact ⟨by rw [HRF.out]; rfl, HB1.out⟩
  rw [decide_eq_true hs]
  have hlen := H.out.log.1
  by_cases h0 : l2 = 0
  · have hRf : R = false := by rw [← HR.out]; exact decide_eq_false fun e => by have := (fit_parts e).2.1; omega
    have HRF := Lib.hid hRf
    clear hs hRf hlen
    subst h0
    go_wp2_with fail
    go_ret
    exact ⟨by rw [HRF.out]; rfl, HB1.out⟩
  have hRc : R = chkB x := by rw [← HR.out]; exact fit_chk HG.out (by omega) hs
  have HRC := Lib.hid hRc
  have t6 : decide ((0 : Int) < (l2 : Int)) = true := by simp; omega
  clear hs hlen hRc
  go_wp2_with fail
  refine (checked_any x a1 a2 l1 c1 l2 c2 _ (H.out.keep HB1.out) hl1 HG.out.2.2.2.2.1).mono ?_
  rintro e w2 ⟨rfl, hb2⟩
  have HB2 := Lib.hid (Wire.below_keep HB1.out hb2 HB1.out.size)
  rw [← HRC.out]
  clear hb2 p0 p1 p2 p3 p4 p5
  cases R
  · go_wp2_with fail
    go_ret
    exact ⟨rfl, HB2.out⟩
  · go_wp2_with fail
    go_ret
    exact ⟨rfl, HB2.out⟩
end Go.Proofs.Ytigiaiddnbpcmaa
