/-
  The contracts of stock.add, Restock, Adjust, New and of the document's.
-/
import Derived.Test.YtjclkiabgemfpaaGreatPdStockA
set_option linter.unusedVariables false
set_option maxRecDepth 4000
set_option maxRecDepth 4000
namespace Go.Proofs.YtjclkiabgemfpaaGreat
open Go.RowKit StockP
theorem sfit_is (s : ByteArray) (a b c d e : Int) (v : Bool) (w : World) (hs : s.size ≤ 4398046511104) (hv : fitS ⟨s, a, b, c, d, e⟩ = v) :
    Calls Tryz.prog 71 #[.agg #[.string s, .int .i64 a, .int .i64 b, .int .i64 c, .int .i64 d, .int .i64 e]] w fun z w' => z = .returned (.bool v) ∧ Below w.heap.size w w' := by
  subst hv; exact sfit_any ⟨s, a, b, c, d, e⟩ w hs
theorem rsfit_is (s : ByteArray) (a b c d e : Int) (v : Bool) (w : World) (hs : s.size ≤ 4398046511104) (hv : fitS ⟨s, a, b, c, d, e⟩ = v) :
    Calls Tryz.prog 40 #[.agg #[.string s, .int .i64 a, .int .i64 b, .int .i64 c, .int .i64 d, .int .i64 e]] w fun z w' => z = .returned (.bool v) ∧ Below w.heap.size w w' := by
  subst hv; exact rsfit_any ⟨s, a, b, c, d, e⟩ w hs
theorem shift_is (a n k er : Int) (w : World) (h : NumP.shiftP a n = (k, er)) : Calls Tryz.prog 111 #[.int .i64 a, .int .i64 n] w fun z w' => z = .returned (.tuple #[.int .i64 k, .int .i64 er]) ∧ w = w' := by
  have h2 := Num.shift_any a n w; rw [h] at h2; exact h2
structure In2 (w w' : World) (v0 v1 v2 v3 v4 v5 r0 r1 r2 r3 r4 r5 : Value) : Prop where
  bel : Below w.heap.size w w'
  box : At6 w' w.heap.size v0 v1 v2 v3 v4 v5
  res : At6 w' (w.heap.size + 1) r0 r1 r2 r3 r4 r5
theorem In2.keep {w w' w2 : World} {v0 v1 v2 v3 v4 v5 r0 r1 r2 r3 r4 r5 : Value} (h : In2 w w' v0 v1 v2 v3 v4 v5 r0 r1 r2 r3 r4 r5) (hB : Below w'.heap.size w' w2) : In2 w w2 v0 v1 v2 v3 v4 v5 r0 r1 r2 r3 r4 r5 :=
  ⟨h.bel.trans (hB.mono (Nat.le_of_lt (heap_lt h.box))), h.box.keep hB, h.res.keep hB⟩
theorem in2_new (w : World) (v0 v1 v2 v3 v4 v5 r0 r1 r2 r3 r4 r5 : Value) : In2 w ((w.alloc (.cells #[v0, v1, v2, v3, v4, v5] 41)).alloc (.cells #[r0, r1, r2, r3, r4, r5] 41)) v0 v1 v2 v3 v4 v5 r0 r1 r2 r3 r4 r5 := by
  refine ⟨((Below.refl _ w).alloc (Nat.le_refl _) _).alloc (by rw [World.size_alloc]; omega) _, (at6_new w _ _ _ _ _ _).alloc _, ?_⟩
  have h := at6_new (w.alloc (.cells #[v0, v1, v2, v3, v4, v5] 41)) r0 r1 r2 r3 r4 r5
  rw [World.size_alloc] at h
  exact h
theorem In2.set {w w' : World} {v0 v1 v2 v3 v4 v5 r0 r1 r2 r3 r4 r5 : Value} (h : In2 w w' v0 v1 v2 v3 v4 v5 r0 r1 r2 r3 r4 r5) (i j : Nat) (x y : Value) : At6 ((w'.setCell ⟨w.heap.size, i, none⟩ x).setCell ⟨w.heap.size, j, none⟩ y) (w.heap.size + 1) r0 r1 r2 r3 r4 r5 := by
  unfold At6
  rw [heap_setCell_other _ _ _ _ (by simp), heap_setCell_other _ _ _ _ (by simp)]
  exact h.res
theorem In2.setB {w w' : World} {v0 v1 v2 v3 v4 v5 r0 r1 r2 r3 r4 r5 : Value} (h : In2 w w' v0 v1 v2 v3 v4 v5 r0 r1 r2 r3 r4 r5) (i j : Nat) (x y : Value) : Below w.heap.size w ((w'.setCell ⟨w.heap.size, i, none⟩ x).setCell ⟨w.heap.size, j, none⟩ y) :=
  (h.bel.setCell (p := ⟨w.heap.size, i, none⟩) (Nat.le_refl _) _).setCell (p := ⟨w.heap.size, j, none⟩) (Nat.le_refl _) _
theorem add_err1 (s : ByteArray) (a b c d e : Int) (n : Int) (w : World) (k er : Int) (h1 : NumP.shiftP a n = (k, er)) (hne : er ≠ 0) :
    Calls Tryz.prog 89 #[.agg #[.string s, .int .i64 a, .int .i64 b, .int .i64 c, .int .i64 d, .int .i64 e], .int .i64 n] w fun z w' => z = .returned (.tuple #[.agg #[.string ⟨#[]⟩, .int .i64 0, .int .i64 0, .int .i64 0, .int .i64 0, .int .i64 0], .int .i64 er]) ∧ Below w.heap.size w w' := by
  have H1 := Lib.hid (fun w => shift_is a n k er w h1)
  have hne2 : (er != 0) = true := bne_iff_ne.2 hne
  clear h1 hne
  have HB := Lib.hid (in2_new w (.string s) (.int .i64 a) (.int .i64 b) (.int .i64 c) (.int .i64 d) (.int .i64 e) (.string ⟨#[]⟩) (.int .i64 0) (.int .i64 0) (.int .i64 0) (.int .i64 0) (.int .i64 0))
  go_enter Tryz.func89, Tryz.ntmps89
  go_wp2_with fail
  refine (H1.out _).mono ?_
  rintro z w' ⟨rfl, rfl⟩
  generalize (w.alloc (.cells #[.string s, .int .i64 a, .int .i64 b, .int .i64 c, .int .i64 d, .int .i64 e] 41)).alloc (.cells #[.string ⟨#[]⟩, .int .i64 0, .int .i64 0, .int .i64 0, .int .i64 0, .int .i64 0] 41) = w1 at *
  obtain ⟨q0, q1, q2, q3, q4, q5⟩ := cells6 HB.out.box
  obtain ⟨z0, z1, z2, z3, z4, z5⟩ := cells6 HB.out.res
  obtain ⟨f0, f1, f2, f3, f4, f5⟩ := free6 HB.out.res
  obtain ⟨k0, k1, k2, k3, k4, k5⟩ := free6 HB.out.box
  go_wp2_with fail
  have HRS := Lib.hid (heap_put6 HB.out.res (.string ⟨#[]⟩) (.int .i64 0) (.int .i64 0) (.int .i64 0) (.int .i64 0) (.int .i64 0))
  have HW := Lib.hid (below_put6 HB.out.bel (Nat.le_succ _) (.string ⟨#[]⟩) (.int .i64 0) (.int .i64 0) (.int .i64 0) (.int .i64 0) (.int .i64 0))
  exact bodyPost_ret (results_sku rfl _ _ (w.heap.size + 1) _ _ _ _ _ _ rfl HRS.out) rfl ⟨rfl, HW.out⟩
theorem add_err2 (s : ByteArray) (a b c d e : Int) (n : Int) (w : World) (k k2 er : Int) (h1 : NumP.shiftP a n = (k, 0)) (h2 : NumP.shiftP e n = (k2, er)) (hne : er ≠ 0) :
    Calls Tryz.prog 89 #[.agg #[.string s, .int .i64 a, .int .i64 b, .int .i64 c, .int .i64 d, .int .i64 e], .int .i64 n] w fun z w' => z = .returned (.tuple #[.agg #[.string ⟨#[]⟩, .int .i64 0, .int .i64 0, .int .i64 0, .int .i64 0, .int .i64 0], .int .i64 er]) ∧ Below w.heap.size w w' := by
  have H1 := Lib.hid (fun w => shift_is a n k 0 w h1)
  have H2 := Lib.hid (fun w => shift_is e n k2 er w h2)
  have hne2 : (er != 0) = true := bne_iff_ne.2 hne
  clear h1 h2 hne
  have HB := Lib.hid (in2_new w (.string s) (.int .i64 a) (.int .i64 b) (.int .i64 c) (.int .i64 d) (.int .i64 e) (.string ⟨#[]⟩) (.int .i64 0) (.int .i64 0) (.int .i64 0) (.int .i64 0) (.int .i64 0))
  go_enter Tryz.func89, Tryz.ntmps89
  go_wp2_with fail
  refine (H1.out _).mono ?_
  rintro z w' ⟨rfl, rfl⟩
  generalize (w.alloc (.cells #[.string s, .int .i64 a, .int .i64 b, .int .i64 c, .int .i64 d, .int .i64 e] 41)).alloc (.cells #[.string ⟨#[]⟩, .int .i64 0, .int .i64 0, .int .i64 0, .int .i64 0, .int .i64 0] 41) = w1 at *
  obtain ⟨q0, q1, q2, q3, q4, q5⟩ := cells6 HB.out.box
  obtain ⟨z0, z1, z2, z3, z4, z5⟩ := cells6 HB.out.res
  obtain ⟨f0, f1, f2, f3, f4, f5⟩ := free6 HB.out.res
  obtain ⟨k0, k1, k2, k3, k4, k5⟩ := free6 HB.out.box
  go_wp2_with fail
  refine (H2.out _).mono ?_
  rintro z w' ⟨rfl, rfl⟩
  go_wp2_with fail
  have HRS := Lib.hid (heap_put6 HB.out.res (.string ⟨#[]⟩) (.int .i64 0) (.int .i64 0) (.int .i64 0) (.int .i64 0) (.int .i64 0))
  have HW := Lib.hid (below_put6 HB.out.bel (Nat.le_succ _) (.string ⟨#[]⟩) (.int .i64 0) (.int .i64 0) (.int .i64 0) (.int .i64 0) (.int .i64 0))
  exact bodyPost_ret (results_sku rfl _ _ (w.heap.size + 1) _ _ _ _ _ _ rfl HRS.out) rfl ⟨rfl, HW.out⟩
theorem add_yes (s : ByteArray) (a b c d e : Int) (n : Int) (w : World) (h g : Int) (h1 : NumP.shiftP a n = (h, 0)) (h2 : NumP.shiftP e n = (g, 0)) :
    Calls Tryz.prog 89 #[.agg #[.string s, .int .i64 a, .int .i64 b, .int .i64 c, .int .i64 d, .int .i64 e], .int .i64 n] w fun z w' => z = .returned (.tuple #[.agg #[.string s, .int .i64 (h), .int .i64 (b), .int .i64 (c), .int .i64 (d), .int .i64 (g)], .int .i64 0]) ∧ Below w.heap.size w w' := by
  have H1 := Lib.hid (fun w => shift_is a n h 0 w h1)
  have H2 := Lib.hid (fun w => shift_is e n g 0 w h2)
  clear h1 h2
  have HB := Lib.hid (in2_new w (.string s) (.int .i64 a) (.int .i64 b) (.int .i64 c) (.int .i64 d) (.int .i64 e) (.string ⟨#[]⟩) (.int .i64 0) (.int .i64 0) (.int .i64 0) (.int .i64 0) (.int .i64 0))
  go_enter Tryz.func89, Tryz.ntmps89
  go_wp2_with fail
  refine (H1.out _).mono ?_
  rintro z w' ⟨rfl, rfl⟩
  generalize (w.alloc (.cells #[.string s, .int .i64 a, .int .i64 b, .int .i64 c, .int .i64 d, .int .i64 e] 41)).alloc (.cells #[.string ⟨#[]⟩, .int .i64 0, .int .i64 0, .int .i64 0, .int .i64 0, .int .i64 0] 41) = w1 at *
  obtain ⟨q0, q1, q2, q3, q4, q5⟩ := cells6 HB.out.box
  obtain ⟨z0, z1, z2, z3, z4, z5⟩ := cells6 HB.out.res
  obtain ⟨f0, f1, f2, f3, f4, f5⟩ := free6 HB.out.res
  obtain ⟨k0, k1, k2, k3, k4, k5⟩ := free6 HB.out.box
  go_wp2_with fail
  refine (H2.out _).mono ?_
  rintro z w' ⟨rfl, rfl⟩
  go_wp2_with fail
  have HRS := Lib.hid (heap_put6 (HB.out.set 1 5 (.int .i64 h) (.int .i64 g)) (.string s) (.int .i64 (h)) (.int .i64 (b)) (.int .i64 (c)) (.int .i64 (d)) (.int .i64 (g)))
  have HW := Lib.hid (below_put6 (HB.out.setB 1 5 (.int .i64 h) (.int .i64 g)) (Nat.le_succ _) (.string s) (.int .i64 (h)) (.int .i64 (b)) (.int .i64 (c)) (.int .i64 (d)) (.int .i64 (g)))
  exact bodyPost_ret (results_sku rfl _ _ (w.heap.size + 1) _ _ _ _ _ _ rfl HRS.out) rfl ⟨rfl, HW.out⟩
def addV (x : Sk) (n : Int) : Sk × Int :=
  if -1099511627776 ≤ n ∧ n ≤ 1099511627776 then if x.hand + n < 0 then (sk0, 6) else if 1099511627776 < x.inn + n then (sk0, 5) else ({ x with hand := x.hand + n, inn := x.inn + n }, 0) else (sk0, 11)
theorem shift_out {a n : Int} (h : ¬ (-1099511627776 ≤ n ∧ n ≤ 1099511627776)) : NumP.shiftP a n = (0, 11) := NumP.shiftP_no (.inr (by omega))
theorem shift_to {a n : Int} (h0 : 0 ≤ a) (h1 : a ≤ 1099511627776) (h : -1099511627776 ≤ n ∧ n ≤ 1099511627776) : NumP.shiftP a n = if a + n < 0 then (0, 6) else if 1099511627776 < a + n then (0, 5) else (a + n, 0) := NumP.shiftP_in (NumP.amt_yes h0 h1) h.1 h.2
theorem add_any (x : Sk) (n : Int) (w : World) (hf : Fit x) :
    Calls Tryz.prog 89 #[skV x, .int .i64 n] w fun z w' => z = .returned (.tuple #[skV (addV x n).1, .int .i64 (addV x n).2]) ∧ Below w.heap.size w w' := by
  obtain ⟨s, a, b, c, d, e⟩ := x
  obtain ⟨_, g1, g2, g3, g4, g5, g6⟩ := hf
  dsimp only at g1 g2 g3 g4 g5 g6
  by_cases h : -1099511627776 ≤ n ∧ n ≤ 1099511627776
  · have s1 := shift_to g1 (by omega) h
    have s2 := shift_to (a := e) (by omega) g5 h
    by_cases h1 : a + n < 0
    · rw [show addV ⟨s, a, b, c, d, e⟩ n = (sk0, 6) from by unfold addV; rw [if_pos h, if_pos h1]]
      rw [if_pos h1] at s1
      exact add_err1 s a b c d e n w 0 6 s1 (by decide)
    · rw [if_neg h1] at s1
      by_cases h2 : 1099511627776 < e + n
      · rw [show addV ⟨s, a, b, c, d, e⟩ n = (sk0, 5) from by unfold addV; rw [if_pos h, if_neg h1, if_pos h2]]
        rw [if_neg (by omega), if_pos h2] at s2
        by_cases h3 : 1099511627776 < a + n
        · rw [if_pos h3] at s1
          exact add_err1 s a b c d e n w 0 5 s1 (by decide)
        · rw [if_neg h3] at s1
          exact add_err2 s a b c d e n w (a + n) 0 5 s1 s2 (by decide)
      · rw [show addV ⟨s, a, b, c, d, e⟩ n = (⟨s, a + n, b, c, d, e + n⟩, 0) from by unfold addV; rw [if_pos h, if_neg h1, if_neg h2]]
        rw [if_neg (by omega), if_neg h2] at s2
        rw [if_neg (by omega)] at s1
        exact add_yes s a b c d e n w (a + n) (e + n) s1 s2
  · rw [show addV ⟨s, a, b, c, d, e⟩ n = (sk0, 11) from by unfold addV; rw [if_neg h]]
    exact add_err1 s a b c d e n w 0 11 (shift_out h) (by decide)
theorem add_is (x y : Sk) (n er : Int) (w : World) (hf : Fit x) (h : addV x n = (y, er)) :
    Calls Tryz.prog 89 #[skV x, .int .i64 n] w fun z w' => z = .returned (.tuple #[.agg #[.string y.nm, .int .i64 y.hand, .int .i64 y.held, .int .i64 y.kept, .int .i64 y.sent, .int .i64 y.inn], .int .i64 er]) ∧ Below w.heap.size w w' := by
  have h2 := add_any x n w hf; rw [h] at h2; exact h2
theorem srestock_bad (s : ByteArray) (a b c d e : Int) (n : Int) (w : World)  (hs : s.size ≤ 4398046511104) (hf : fitS ⟨s, a, b, c, d, e⟩ = false) :
    Calls Tryz.prog 50 #[.agg #[.string s, .int .i64 a, .int .i64 b, .int .i64 c, .int .i64 d, .int .i64 e], .int .i64 n] w fun z w' => z = .returned (.tuple #[.agg #[.string ⟨#[]⟩, .int .i64 0, .int .i64 0, .int .i64 0, .int .i64 0, .int .i64 0], .int .i64 12]) ∧ Below w.heap.size w w' := by
  have HF := Lib.hid (fun w => sfit_is s a b c d e false w hs hf)
  clear hf
  have HB := Lib.hid (in2_new w (.string s) (.int .i64 a) (.int .i64 b) (.int .i64 c) (.int .i64 d) (.int .i64 e) (.string ⟨#[]⟩) (.int .i64 0) (.int .i64 0) (.int .i64 0) (.int .i64 0) (.int .i64 0))
  go_enter Tryz.func50, Tryz.ntmps50
  go_wp2_with fail
  refine (HF.out _).mono ?_
  rintro z w1 ⟨rfl, hb⟩
  have HB1 := Lib.hid (HB.out.keep hb)
  clear hb HB
  have HB := HB1; clear HB1
  obtain ⟨q0, q1, q2, q3, q4, q5⟩ := cells6 HB.out.box
  obtain ⟨z0, z1, z2, z3, z4, z5⟩ := cells6 HB.out.res
  obtain ⟨f0, f1, f2, f3, f4, f5⟩ := free6 HB.out.res
  obtain ⟨k0, k1, k2, k3, k4, k5⟩ := free6 HB.out.box
  go_wp2_with fail
  have HRS := Lib.hid (heap_put6 HB.out.res (.string ⟨#[]⟩) (.int .i64 0) (.int .i64 0) (.int .i64 0) (.int .i64 0) (.int .i64 0))
  have HW := Lib.hid (below_put6 HB.out.bel (Nat.le_succ _) (.string ⟨#[]⟩) (.int .i64 0) (.int .i64 0) (.int .i64 0) (.int .i64 0) (.int .i64 0))
  exact bodyPost_ret (results_sku rfl _ _ (w.heap.size + 1) _ _ _ _ _ _ rfl HRS.out) rfl ⟨rfl, HW.out⟩
theorem srestock_range (s : ByteArray) (a b c d e : Int) (n : Int) (w : World)  (hs : s.size ≤ 4398046511104) (hf : fitS ⟨s, a, b, c, d, e⟩ = true) (hn : n < 1) :
    Calls Tryz.prog 50 #[.agg #[.string s, .int .i64 a, .int .i64 b, .int .i64 c, .int .i64 d, .int .i64 e], .int .i64 n] w fun z w' => z = .returned (.tuple #[.agg #[.string ⟨#[]⟩, .int .i64 0, .int .i64 0, .int .i64 0, .int .i64 0, .int .i64 0], .int .i64 11]) ∧ Below w.heap.size w w' := by
  have HF := Lib.hid (fun w => sfit_is s a b c d e true w hs hf)
  clear hf
  have HB := Lib.hid (in2_new w (.string s) (.int .i64 a) (.int .i64 b) (.int .i64 c) (.int .i64 d) (.int .i64 e) (.string ⟨#[]⟩) (.int .i64 0) (.int .i64 0) (.int .i64 0) (.int .i64 0) (.int .i64 0))
  go_enter Tryz.func50, Tryz.ntmps50
  go_wp2_with fail
  refine (HF.out _).mono ?_
  rintro z w1 ⟨rfl, hb⟩
  have HB1 := Lib.hid (HB.out.keep hb)
  clear hb HB
  have HB := HB1; clear HB1
  obtain ⟨q0, q1, q2, q3, q4, q5⟩ := cells6 HB.out.box
  obtain ⟨z0, z1, z2, z3, z4, z5⟩ := cells6 HB.out.res
  obtain ⟨f0, f1, f2, f3, f4, f5⟩ := free6 HB.out.res
  obtain ⟨k0, k1, k2, k3, k4, k5⟩ := free6 HB.out.box
  go_wp2_with fail
  have HRS := Lib.hid (heap_put6 HB.out.res (.string ⟨#[]⟩) (.int .i64 0) (.int .i64 0) (.int .i64 0) (.int .i64 0) (.int .i64 0))
  have HW := Lib.hid (below_put6 HB.out.bel (Nat.le_succ _) (.string ⟨#[]⟩) (.int .i64 0) (.int .i64 0) (.int .i64 0) (.int .i64 0) (.int .i64 0))
  exact bodyPost_ret (results_sku rfl _ _ (w.heap.size + 1) _ _ _ _ _ _ rfl HRS.out) rfl ⟨rfl, HW.out⟩
theorem srestock_add (s : ByteArray) (a b c d e : Int) (n : Int) (w : World)  (hs : s.size ≤ 4398046511104) (hf : fitS ⟨s, a, b, c, d, e⟩ = true) (hn : ¬ n < 1) (y : Sk) (er : Int) (ha : addV ⟨s, a, b, c, d, e⟩ n = (y, er)) :
    Calls Tryz.prog 50 #[.agg #[.string s, .int .i64 a, .int .i64 b, .int .i64 c, .int .i64 d, .int .i64 e], .int .i64 n] w fun z w' => z = .returned (.tuple #[.agg #[.string y.nm, .int .i64 (y.hand), .int .i64 (y.held), .int .i64 (y.kept), .int .i64 (y.sent), .int .i64 (y.inn)], .int .i64 er]) ∧ Below w.heap.size w w' := by
  have HA := Lib.hid (fun w => add_is ⟨s, a, b, c, d, e⟩ y n er w (fitS_iff.1 hf) ha)
  unfold skV at HA
  dsimp only at HA
  have HF := Lib.hid (fun w => sfit_is s a b c d e true w hs hf)
  clear hf
  clear ha
  have HB := Lib.hid (in2_new w (.string s) (.int .i64 a) (.int .i64 b) (.int .i64 c) (.int .i64 d) (.int .i64 e) (.string ⟨#[]⟩) (.int .i64 0) (.int .i64 0) (.int .i64 0) (.int .i64 0) (.int .i64 0))
  go_enter Tryz.func50, Tryz.ntmps50
  go_wp2_with fail
  refine (HF.out _).mono ?_
  rintro z w1 ⟨rfl, hb⟩
  have HB1 := Lib.hid (HB.out.keep hb)
  clear hb HB
  have HB := HB1; clear HB1
  obtain ⟨q0, q1, q2, q3, q4, q5⟩ := cells6 HB.out.box
  obtain ⟨z0, z1, z2, z3, z4, z5⟩ := cells6 HB.out.res
  obtain ⟨f0, f1, f2, f3, f4, f5⟩ := free6 HB.out.res
  obtain ⟨k0, k1, k2, k3, k4, k5⟩ := free6 HB.out.box
  go_wp2_with fail
  refine (HA.out _).mono ?_
  rintro z w3 ⟨rfl, hb⟩
  clear q0 q1 q2 q3 q4 q5 z0 z1 z2 z3 z4 z5 f0 f1 f2 f3 f4 f5 k0 k1 k2 k3 k4 k5
  have HB3 := Lib.hid (HB.out.keep hb)
  clear hb HB
  have HB := HB3; clear HB3
  obtain ⟨q0, q1, q2, q3, q4, q5⟩ := cells6 HB.out.box
  obtain ⟨z0, z1, z2, z3, z4, z5⟩ := cells6 HB.out.res
  obtain ⟨f0, f1, f2, f3, f4, f5⟩ := free6 HB.out.res
  obtain ⟨k0, k1, k2, k3, k4, k5⟩ := free6 HB.out.box
  go_wp2_with fail
  have HRS := Lib.hid (heap_put6 HB.out.res (.string y.nm) (.int .i64 (y.hand)) (.int .i64 (y.held)) (.int .i64 (y.kept)) (.int .i64 (y.sent)) (.int .i64 (y.inn)))
  have HW := Lib.hid (below_put6 HB.out.bel (Nat.le_succ _) (.string y.nm) (.int .i64 (y.hand)) (.int .i64 (y.held)) (.int .i64 (y.kept)) (.int .i64 (y.sent)) (.int .i64 (y.inn)))
  exact bodyPost_ret (results_sku rfl _ _ (w.heap.size + 1) _ _ _ _ _ _ rfl HRS.out) rfl ⟨rfl, HW.out⟩
theorem sadjust_bad (s : ByteArray) (a b c d e : Int) (n : Int) (w : World)  (hs : s.size ≤ 4398046511104) (hf : fitS ⟨s, a, b, c, d, e⟩ = false) :
    Calls Tryz.prog 59 #[.agg #[.string s, .int .i64 a, .int .i64 b, .int .i64 c, .int .i64 d, .int .i64 e], .int .i64 n] w fun z w' => z = .returned (.tuple #[.agg #[.string ⟨#[]⟩, .int .i64 0, .int .i64 0, .int .i64 0, .int .i64 0, .int .i64 0], .int .i64 12]) ∧ Below w.heap.size w w' := by
  have HF := Lib.hid (fun w => sfit_is s a b c d e false w hs hf)
  clear hf
  have HB := Lib.hid (in2_new w (.string s) (.int .i64 a) (.int .i64 b) (.int .i64 c) (.int .i64 d) (.int .i64 e) (.string ⟨#[]⟩) (.int .i64 0) (.int .i64 0) (.int .i64 0) (.int .i64 0) (.int .i64 0))
  go_enter Tryz.func59, Tryz.ntmps59
  go_wp2_with fail
  refine (HF.out _).mono ?_
  rintro z w1 ⟨rfl, hb⟩
  have HB1 := Lib.hid (HB.out.keep hb)
  clear hb HB
  have HB := HB1; clear HB1
  obtain ⟨q0, q1, q2, q3, q4, q5⟩ := cells6 HB.out.box
  obtain ⟨z0, z1, z2, z3, z4, z5⟩ := cells6 HB.out.res
  obtain ⟨f0, f1, f2, f3, f4, f5⟩ := free6 HB.out.res
  obtain ⟨k0, k1, k2, k3, k4, k5⟩ := free6 HB.out.box
  go_wp2_with fail
  have HRS := Lib.hid (heap_put6 HB.out.res (.string ⟨#[]⟩) (.int .i64 0) (.int .i64 0) (.int .i64 0) (.int .i64 0) (.int .i64 0))
  have HW := Lib.hid (below_put6 HB.out.bel (Nat.le_succ _) (.string ⟨#[]⟩) (.int .i64 0) (.int .i64 0) (.int .i64 0) (.int .i64 0) (.int .i64 0))
  exact bodyPost_ret (results_sku rfl _ _ (w.heap.size + 1) _ _ _ _ _ _ rfl HRS.out) rfl ⟨rfl, HW.out⟩
theorem sadjust_range (s : ByteArray) (a b c d e : Int) (n : Int) (w : World)  (hs : s.size ≤ 4398046511104) (hf : fitS ⟨s, a, b, c, d, e⟩ = true) (hn : n = 0) :
    Calls Tryz.prog 59 #[.agg #[.string s, .int .i64 a, .int .i64 b, .int .i64 c, .int .i64 d, .int .i64 e], .int .i64 n] w fun z w' => z = .returned (.tuple #[.agg #[.string ⟨#[]⟩, .int .i64 0, .int .i64 0, .int .i64 0, .int .i64 0, .int .i64 0], .int .i64 11]) ∧ Below w.heap.size w w' := by
  have HF := Lib.hid (fun w => sfit_is s a b c d e true w hs hf)
  clear hf
  subst hn
  have HB := Lib.hid (in2_new w (.string s) (.int .i64 a) (.int .i64 b) (.int .i64 c) (.int .i64 d) (.int .i64 e) (.string ⟨#[]⟩) (.int .i64 0) (.int .i64 0) (.int .i64 0) (.int .i64 0) (.int .i64 0))
  go_enter Tryz.func59, Tryz.ntmps59
  go_wp2_with fail
  refine (HF.out _).mono ?_
  rintro z w1 ⟨rfl, hb⟩
  have HB1 := Lib.hid (HB.out.keep hb)
  clear hb HB
  have HB := HB1; clear HB1
  obtain ⟨q0, q1, q2, q3, q4, q5⟩ := cells6 HB.out.box
  obtain ⟨z0, z1, z2, z3, z4, z5⟩ := cells6 HB.out.res
  obtain ⟨f0, f1, f2, f3, f4, f5⟩ := free6 HB.out.res
  obtain ⟨k0, k1, k2, k3, k4, k5⟩ := free6 HB.out.box
  go_wp2_with fail
  have HRS := Lib.hid (heap_put6 HB.out.res (.string ⟨#[]⟩) (.int .i64 0) (.int .i64 0) (.int .i64 0) (.int .i64 0) (.int .i64 0))
  have HW := Lib.hid (below_put6 HB.out.bel (Nat.le_succ _) (.string ⟨#[]⟩) (.int .i64 0) (.int .i64 0) (.int .i64 0) (.int .i64 0) (.int .i64 0))
  exact bodyPost_ret (results_sku rfl _ _ (w.heap.size + 1) _ _ _ _ _ _ rfl HRS.out) rfl ⟨rfl, HW.out⟩
theorem sadjust_add (s : ByteArray) (a b c d e : Int) (n : Int) (w : World)  (hs : s.size ≤ 4398046511104) (hf : fitS ⟨s, a, b, c, d, e⟩ = true) (hn : ¬ n = 0) (y : Sk) (er : Int) (ha : addV ⟨s, a, b, c, d, e⟩ n = (y, er)) :
    Calls Tryz.prog 59 #[.agg #[.string s, .int .i64 a, .int .i64 b, .int .i64 c, .int .i64 d, .int .i64 e], .int .i64 n] w fun z w' => z = .returned (.tuple #[.agg #[.string y.nm, .int .i64 (y.hand), .int .i64 (y.held), .int .i64 (y.kept), .int .i64 (y.sent), .int .i64 (y.inn)], .int .i64 er]) ∧ Below w.heap.size w w' := by
  have HA := Lib.hid (fun w => add_is ⟨s, a, b, c, d, e⟩ y n er w (fitS_iff.1 hf) ha)
  unfold skV at HA
  dsimp only at HA
  have hn2 : (n == 0) = false := beq_eq_false_iff_ne.2 hn
  clear hn
  have HF := Lib.hid (fun w => sfit_is s a b c d e true w hs hf)
  clear hf
  clear ha
  have HB := Lib.hid (in2_new w (.string s) (.int .i64 a) (.int .i64 b) (.int .i64 c) (.int .i64 d) (.int .i64 e) (.string ⟨#[]⟩) (.int .i64 0) (.int .i64 0) (.int .i64 0) (.int .i64 0) (.int .i64 0))
  go_enter Tryz.func59, Tryz.ntmps59
  go_wp2_with fail
  refine (HF.out _).mono ?_
  rintro z w1 ⟨rfl, hb⟩
  have HB1 := Lib.hid (HB.out.keep hb)
  clear hb HB
  have HB := HB1; clear HB1
  obtain ⟨q0, q1, q2, q3, q4, q5⟩ := cells6 HB.out.box
  obtain ⟨z0, z1, z2, z3, z4, z5⟩ := cells6 HB.out.res
  obtain ⟨f0, f1, f2, f3, f4, f5⟩ := free6 HB.out.res
  obtain ⟨k0, k1, k2, k3, k4, k5⟩ := free6 HB.out.box
  go_wp2_with fail
  refine (HA.out _).mono ?_
  rintro z w3 ⟨rfl, hb⟩
  clear q0 q1 q2 q3 q4 q5 z0 z1 z2 z3 z4 z5 f0 f1 f2 f3 f4 f5 k0 k1 k2 k3 k4 k5
  have HB3 := Lib.hid (HB.out.keep hb)
  clear hb HB
  have HB := HB3; clear HB3
  obtain ⟨q0, q1, q2, q3, q4, q5⟩ := cells6 HB.out.box
  obtain ⟨z0, z1, z2, z3, z4, z5⟩ := cells6 HB.out.res
  obtain ⟨f0, f1, f2, f3, f4, f5⟩ := free6 HB.out.res
  obtain ⟨k0, k1, k2, k3, k4, k5⟩ := free6 HB.out.box
  go_wp2_with fail
  have HRS := Lib.hid (heap_put6 HB.out.res (.string y.nm) (.int .i64 (y.hand)) (.int .i64 (y.held)) (.int .i64 (y.kept)) (.int .i64 (y.sent)) (.int .i64 (y.inn)))
  have HW := Lib.hid (below_put6 HB.out.bel (Nat.le_succ _) (.string y.nm) (.int .i64 (y.hand)) (.int .i64 (y.held)) (.int .i64 (y.kept)) (.int .i64 (y.sent)) (.int .i64 (y.inn)))
  exact bodyPost_ret (results_sku rfl _ _ (w.heap.size + 1) _ _ _ _ _ _ rfl HRS.out) rfl ⟨rfl, HW.out⟩
theorem srestock_any (x : Sk) (n : Int) (w : World) (hs : x.nm.size ≤ 4398046511104) :
    Calls Tryz.prog 50 #[skV x, .int .i64 n] w fun z w' => z = .returned (.tuple #[skV (restockV x n).1, .int .i64 (restockV x n).2]) ∧ Below w.heap.size w w' := by
  obtain ⟨s, a, b, c, d, e⟩ := x
  cases hf : fitS ⟨s, a, b, c, d, e⟩ with
  | false =>
    rw [show restockV ⟨s, a, b, c, d, e⟩ n = (sk0, 12) from by unfold restockV; rw [if_neg (by simp [hf])]]
    exact srestock_bad s a b c d e n w hs hf
  | true =>
    by_cases hn : n < 1
    · rw [show restockV ⟨s, a, b, c, d, e⟩ n = (sk0, 11) from by unfold restockV; rw [if_pos hf, if_neg (by omega)]]
      exact srestock_range s a b c d e n w hs hf hn
    · have g := fitS_iff.1 hf
      rw [show restockV ⟨s, a, b, c, d, e⟩ n = addV ⟨s, a, b, c, d, e⟩ n from by
        have g1 := g.hand
        dsimp only at g1
        unfold restockV addV
        rw [if_pos hf]
        dsimp only
        by_cases h : n ≤ 1099511627776
        · rw [if_pos (show 1 ≤ n ∧ n ≤ 1099511627776 from ⟨by omega, h⟩), if_pos (show -1099511627776 ≤ n ∧ n ≤ 1099511627776 from ⟨by omega, h⟩), if_neg (show ¬ a + n < 0 by omega)]
          by_cases h2 : 1099511627776 < e + n
          · rw [if_pos h2, if_pos (show 1099511627776 - e < n by omega)]
          · rw [if_neg h2, if_neg (show ¬ 1099511627776 - e < n by omega)]
        · rw [if_neg (show ¬ (1 ≤ n ∧ n ≤ 1099511627776) by omega), if_neg (show ¬ (-1099511627776 ≤ n ∧ n ≤ 1099511627776) by omega)]]
      exact srestock_add s a b c d e n w hs hf hn _ _ rfl
theorem sadjust_any (x : Sk) (n : Int) (w : World) (hs : x.nm.size ≤ 4398046511104) :
    Calls Tryz.prog 59 #[skV x, .int .i64 n] w fun z w' => z = .returned (.tuple #[skV (adjustV x n).1, .int .i64 (adjustV x n).2]) ∧ Below w.heap.size w w' := by
  obtain ⟨s, a, b, c, d, e⟩ := x
  cases hf : fitS ⟨s, a, b, c, d, e⟩ with
  | false =>
    rw [show adjustV ⟨s, a, b, c, d, e⟩ n = (sk0, 12) from by unfold adjustV; rw [if_neg (by simp [hf])]]
    exact sadjust_bad s a b c d e n w hs hf
  | true =>
    by_cases hn : n = 0
    · rw [show adjustV ⟨s, a, b, c, d, e⟩ n = (sk0, 11) from by unfold adjustV; rw [if_pos hf, if_neg (by omega)]]
      exact sadjust_range s a b c d e n w hs hf hn
    · rw [show adjustV ⟨s, a, b, c, d, e⟩ n = addV ⟨s, a, b, c, d, e⟩ n from by
        unfold adjustV addV
        rw [if_pos hf]
        by_cases h : -1099511627776 ≤ n ∧ n ≤ 1099511627776
        · rw [if_pos ⟨hn, h⟩, if_pos h]
        · rw [if_neg (fun k => h k.2), if_neg h]]
      exact sadjust_add s a b c d e n w hs hf hn _ _ rfl
theorem rrestock_bad (s : ByteArray) (a b c d e : Int) (n : Int) (w : World)  (hs : s.size ≤ 4398046511104) (hf : fitS ⟨s, a, b, c, d, e⟩ = false) :
    Calls Tryz.prog 63 #[.agg #[.string s, .int .i64 a, .int .i64 b, .int .i64 c, .int .i64 d, .int .i64 e], .int .i64 n] w fun z w' => z = .returned (.tuple #[.agg #[.string ⟨#[]⟩, .int .i64 0, .int .i64 0, .int .i64 0, .int .i64 0, .int .i64 0], .int .i64 12]) ∧ Below w.heap.size w w' := by
  have HF := Lib.hid (fun w => rsfit_is s a b c d e false w hs hf)
  clear hf
  have HB := Lib.hid (in2_new w (.string s) (.int .i64 a) (.int .i64 b) (.int .i64 c) (.int .i64 d) (.int .i64 e) (.string ⟨#[]⟩) (.int .i64 0) (.int .i64 0) (.int .i64 0) (.int .i64 0) (.int .i64 0))
  go_enter Tryz.func63, Tryz.ntmps63
  go_wp2_with fail
  refine (HF.out _).mono ?_
  rintro z w1 ⟨rfl, hb⟩
  have HB1 := Lib.hid (HB.out.keep hb)
  clear hb HB
  have HB := HB1; clear HB1
  obtain ⟨q0, q1, q2, q3, q4, q5⟩ := cells6 HB.out.box
  obtain ⟨z0, z1, z2, z3, z4, z5⟩ := cells6 HB.out.res
  obtain ⟨f0, f1, f2, f3, f4, f5⟩ := free6 HB.out.res
  obtain ⟨k0, k1, k2, k3, k4, k5⟩ := free6 HB.out.box
  go_wp2_with fail
  have HRS := Lib.hid (heap_put6 HB.out.res (.string ⟨#[]⟩) (.int .i64 0) (.int .i64 0) (.int .i64 0) (.int .i64 0) (.int .i64 0))
  have HW := Lib.hid (below_put6 HB.out.bel (Nat.le_succ _) (.string ⟨#[]⟩) (.int .i64 0) (.int .i64 0) (.int .i64 0) (.int .i64 0) (.int .i64 0))
  exact bodyPost_ret (results_sku rfl _ _ (w.heap.size + 1) _ _ _ _ _ _ rfl HRS.out) rfl ⟨rfl, HW.out⟩
theorem rrestock_less (s : ByteArray) (a b c d e : Int) (n : Int) (w : World)  (hs : s.size ≤ 4398046511104) (hf : fitS ⟨s, a, b, c, d, e⟩ = true) (hn : n < 1) :
    Calls Tryz.prog 63 #[.agg #[.string s, .int .i64 a, .int .i64 b, .int .i64 c, .int .i64 d, .int .i64 e], .int .i64 n] w fun z w' => z = .returned (.tuple #[.agg #[.string ⟨#[]⟩, .int .i64 0, .int .i64 0, .int .i64 0, .int .i64 0, .int .i64 0], .int .i64 11]) ∧ Below w.heap.size w w' := by
  have HF := Lib.hid (fun w => rsfit_is s a b c d e true w hs hf)
  clear hf
  have HB := Lib.hid (in2_new w (.string s) (.int .i64 a) (.int .i64 b) (.int .i64 c) (.int .i64 d) (.int .i64 e) (.string ⟨#[]⟩) (.int .i64 0) (.int .i64 0) (.int .i64 0) (.int .i64 0) (.int .i64 0))
  go_enter Tryz.func63, Tryz.ntmps63
  go_wp2_with fail
  refine (HF.out _).mono ?_
  rintro z w1 ⟨rfl, hb⟩
  have HB1 := Lib.hid (HB.out.keep hb)
  clear hb HB
  have HB := HB1; clear HB1
  obtain ⟨q0, q1, q2, q3, q4, q5⟩ := cells6 HB.out.box
  obtain ⟨z0, z1, z2, z3, z4, z5⟩ := cells6 HB.out.res
  obtain ⟨f0, f1, f2, f3, f4, f5⟩ := free6 HB.out.res
  obtain ⟨k0, k1, k2, k3, k4, k5⟩ := free6 HB.out.box
  go_wp2_with fail
  have HRS := Lib.hid (heap_put6 HB.out.res (.string ⟨#[]⟩) (.int .i64 0) (.int .i64 0) (.int .i64 0) (.int .i64 0) (.int .i64 0))
  have HW := Lib.hid (below_put6 HB.out.bel (Nat.le_succ _) (.string ⟨#[]⟩) (.int .i64 0) (.int .i64 0) (.int .i64 0) (.int .i64 0) (.int .i64 0))
  exact bodyPost_ret (results_sku rfl _ _ (w.heap.size + 1) _ _ _ _ _ _ rfl HRS.out) rfl ⟨rfl, HW.out⟩
theorem rrestock_more (s : ByteArray) (a b c d e : Int) (n : Int) (w : World)  (hs : s.size ≤ 4398046511104) (hf : fitS ⟨s, a, b, c, d, e⟩ = true) (hn : ¬ n < 1) (hm : 1099511627776 < n) :
    Calls Tryz.prog 63 #[.agg #[.string s, .int .i64 a, .int .i64 b, .int .i64 c, .int .i64 d, .int .i64 e], .int .i64 n] w fun z w' => z = .returned (.tuple #[.agg #[.string ⟨#[]⟩, .int .i64 0, .int .i64 0, .int .i64 0, .int .i64 0, .int .i64 0], .int .i64 11]) ∧ Below w.heap.size w w' := by
  have HF := Lib.hid (fun w => rsfit_is s a b c d e true w hs hf)
  clear hf
  have HB := Lib.hid (in2_new w (.string s) (.int .i64 a) (.int .i64 b) (.int .i64 c) (.int .i64 d) (.int .i64 e) (.string ⟨#[]⟩) (.int .i64 0) (.int .i64 0) (.int .i64 0) (.int .i64 0) (.int .i64 0))
  go_enter Tryz.func63, Tryz.ntmps63
  go_wp2_with fail
  refine (HF.out _).mono ?_
  rintro z w1 ⟨rfl, hb⟩
  have HB1 := Lib.hid (HB.out.keep hb)
  clear hb HB
  have HB := HB1; clear HB1
  obtain ⟨q0, q1, q2, q3, q4, q5⟩ := cells6 HB.out.box
  obtain ⟨z0, z1, z2, z3, z4, z5⟩ := cells6 HB.out.res
  obtain ⟨f0, f1, f2, f3, f4, f5⟩ := free6 HB.out.res
  obtain ⟨k0, k1, k2, k3, k4, k5⟩ := free6 HB.out.box
  go_wp2_with fail
  have HRS := Lib.hid (heap_put6 HB.out.res (.string ⟨#[]⟩) (.int .i64 0) (.int .i64 0) (.int .i64 0) (.int .i64 0) (.int .i64 0))
  have HW := Lib.hid (below_put6 HB.out.bel (Nat.le_succ _) (.string ⟨#[]⟩) (.int .i64 0) (.int .i64 0) (.int .i64 0) (.int .i64 0) (.int .i64 0))
  exact bodyPost_ret (results_sku rfl _ _ (w.heap.size + 1) _ _ _ _ _ _ rfl HRS.out) rfl ⟨rfl, HW.out⟩
theorem rrestock_over (s : ByteArray) (a b c d e : Int) (n : Int) (w : World)  (hs : s.size ≤ 4398046511104) (hf : fitS ⟨s, a, b, c, d, e⟩ = true) (hn : ¬ n < 1) (hm : n ≤ 1099511627776) (g0 : 0 ≤ e) (g1 : e ≤ 1099511627776) (ho : 1099511627776 - e < n) :
    Calls Tryz.prog 63 #[.agg #[.string s, .int .i64 a, .int .i64 b, .int .i64 c, .int .i64 d, .int .i64 e], .int .i64 n] w fun z w' => z = .returned (.tuple #[.agg #[.string ⟨#[]⟩, .int .i64 0, .int .i64 0, .int .i64 0, .int .i64 0, .int .i64 0], .int .i64 5]) ∧ Below w.heap.size w w' := by
  have HF := Lib.hid (fun w => rsfit_is s a b c d e true w hs hf)
  clear hf
  have HB := Lib.hid (in2_new w (.string s) (.int .i64 a) (.int .i64 b) (.int .i64 c) (.int .i64 d) (.int .i64 e) (.string ⟨#[]⟩) (.int .i64 0) (.int .i64 0) (.int .i64 0) (.int .i64 0) (.int .i64 0))
  go_enter Tryz.func63, Tryz.ntmps63
  go_wp2_with fail
  refine (HF.out _).mono ?_
  rintro z w1 ⟨rfl, hb⟩
  have HB1 := Lib.hid (HB.out.keep hb)
  clear hb HB
  have HB := HB1; clear HB1
  obtain ⟨q0, q1, q2, q3, q4, q5⟩ := cells6 HB.out.box
  obtain ⟨z0, z1, z2, z3, z4, z5⟩ := cells6 HB.out.res
  obtain ⟨f0, f1, f2, f3, f4, f5⟩ := free6 HB.out.res
  obtain ⟨k0, k1, k2, k3, k4, k5⟩ := free6 HB.out.box
  go_wp2_with fail
  have HRS := Lib.hid (heap_put6 HB.out.res (.string ⟨#[]⟩) (.int .i64 0) (.int .i64 0) (.int .i64 0) (.int .i64 0) (.int .i64 0))
  have HW := Lib.hid (below_put6 HB.out.bel (Nat.le_succ _) (.string ⟨#[]⟩) (.int .i64 0) (.int .i64 0) (.int .i64 0) (.int .i64 0) (.int .i64 0))
  exact bodyPost_ret (results_sku rfl _ _ (w.heap.size + 1) _ _ _ _ _ _ rfl HRS.out) rfl ⟨rfl, HW.out⟩
theorem rrestock_yes (s : ByteArray) (a b c d e : Int) (n : Int) (w : World)  (hs : s.size ≤ 4398046511104) (hf : fitS ⟨s, a, b, c, d, e⟩ = true) (hn : ¬ n < 1) (hm : n ≤ 1099511627776) (g0 : 0 ≤ e) (g1 : e ≤ 1099511627776) (g2 : 0 ≤ a) (g3 : a ≤ e) (ho : ¬ 1099511627776 - e < n) :
    Calls Tryz.prog 63 #[.agg #[.string s, .int .i64 a, .int .i64 b, .int .i64 c, .int .i64 d, .int .i64 e], .int .i64 n] w fun z w' => z = .returned (.tuple #[.agg #[.string s, .int .i64 (a + n), .int .i64 (b), .int .i64 (c), .int .i64 (d), .int .i64 (e + n)], .int .i64 0]) ∧ Below w.heap.size w w' := by
  have HF := Lib.hid (fun w => rsfit_is s a b c d e true w hs hf)
  clear hf
  have HB := Lib.hid (in2_new w (.string s) (.int .i64 a) (.int .i64 b) (.int .i64 c) (.int .i64 d) (.int .i64 e) (.string ⟨#[]⟩) (.int .i64 0) (.int .i64 0) (.int .i64 0) (.int .i64 0) (.int .i64 0))
  go_enter Tryz.func63, Tryz.ntmps63
  go_wp2_with fail
  refine (HF.out _).mono ?_
  rintro z w1 ⟨rfl, hb⟩
  have HB1 := Lib.hid (HB.out.keep hb)
  clear hb HB
  have HB := HB1; clear HB1
  obtain ⟨q0, q1, q2, q3, q4, q5⟩ := cells6 HB.out.box
  obtain ⟨z0, z1, z2, z3, z4, z5⟩ := cells6 HB.out.res
  obtain ⟨f0, f1, f2, f3, f4, f5⟩ := free6 HB.out.res
  obtain ⟨k0, k1, k2, k3, k4, k5⟩ := free6 HB.out.box
  go_wp2_with fail
  have HRS := Lib.hid (heap_put6 (HB.out.set 1 5 (.int .i64 (a + n)) (.int .i64 (e + n))) (.string s) (.int .i64 (a + n)) (.int .i64 (b)) (.int .i64 (c)) (.int .i64 (d)) (.int .i64 (e + n)))
  have HW := Lib.hid (below_put6 (HB.out.setB 1 5 (.int .i64 (a + n)) (.int .i64 (e + n))) (Nat.le_succ _) (.string s) (.int .i64 (a + n)) (.int .i64 (b)) (.int .i64 (c)) (.int .i64 (d)) (.int .i64 (e + n)))
  exact bodyPost_ret (results_sku rfl _ _ (w.heap.size + 1) _ _ _ _ _ _ rfl HRS.out) rfl ⟨rfl, HW.out⟩
theorem radjust_bad (s : ByteArray) (a b c d e : Int) (n : Int) (w : World)  (hs : s.size ≤ 4398046511104) (hf : fitS ⟨s, a, b, c, d, e⟩ = false) :
    Calls Tryz.prog 65 #[.agg #[.string s, .int .i64 a, .int .i64 b, .int .i64 c, .int .i64 d, .int .i64 e], .int .i64 n] w fun z w' => z = .returned (.tuple #[.agg #[.string ⟨#[]⟩, .int .i64 0, .int .i64 0, .int .i64 0, .int .i64 0, .int .i64 0], .int .i64 12]) ∧ Below w.heap.size w w' := by
  have HF := Lib.hid (fun w => rsfit_is s a b c d e false w hs hf)
  clear hf
  have HB := Lib.hid (in2_new w (.string s) (.int .i64 a) (.int .i64 b) (.int .i64 c) (.int .i64 d) (.int .i64 e) (.string ⟨#[]⟩) (.int .i64 0) (.int .i64 0) (.int .i64 0) (.int .i64 0) (.int .i64 0))
  go_enter Tryz.func65, Tryz.ntmps65
  go_wp2_with fail
  refine (HF.out _).mono ?_
  rintro z w1 ⟨rfl, hb⟩
  have HB1 := Lib.hid (HB.out.keep hb)
  clear hb HB
  have HB := HB1; clear HB1
  obtain ⟨q0, q1, q2, q3, q4, q5⟩ := cells6 HB.out.box
  obtain ⟨z0, z1, z2, z3, z4, z5⟩ := cells6 HB.out.res
  obtain ⟨f0, f1, f2, f3, f4, f5⟩ := free6 HB.out.res
  obtain ⟨k0, k1, k2, k3, k4, k5⟩ := free6 HB.out.box
  go_wp2_with fail
  have HRS := Lib.hid (heap_put6 HB.out.res (.string ⟨#[]⟩) (.int .i64 0) (.int .i64 0) (.int .i64 0) (.int .i64 0) (.int .i64 0))
  have HW := Lib.hid (below_put6 HB.out.bel (Nat.le_succ _) (.string ⟨#[]⟩) (.int .i64 0) (.int .i64 0) (.int .i64 0) (.int .i64 0) (.int .i64 0))
  exact bodyPost_ret (results_sku rfl _ _ (w.heap.size + 1) _ _ _ _ _ _ rfl HRS.out) rfl ⟨rfl, HW.out⟩
theorem radjust_zero (s : ByteArray) (a b c d e : Int) (n : Int) (w : World)  (hs : s.size ≤ 4398046511104) (hf : fitS ⟨s, a, b, c, d, e⟩ = true) :
    Calls Tryz.prog 65 #[.agg #[.string s, .int .i64 a, .int .i64 b, .int .i64 c, .int .i64 d, .int .i64 e], .int .i64 0] w fun z w' => z = .returned (.tuple #[.agg #[.string ⟨#[]⟩, .int .i64 0, .int .i64 0, .int .i64 0, .int .i64 0, .int .i64 0], .int .i64 11]) ∧ Below w.heap.size w w' := by
  have HF := Lib.hid (fun w => rsfit_is s a b c d e true w hs hf)
  clear hf
  have HB := Lib.hid (in2_new w (.string s) (.int .i64 a) (.int .i64 b) (.int .i64 c) (.int .i64 d) (.int .i64 e) (.string ⟨#[]⟩) (.int .i64 0) (.int .i64 0) (.int .i64 0) (.int .i64 0) (.int .i64 0))
  go_enter Tryz.func65, Tryz.ntmps65
  go_wp2_with fail
  refine (HF.out _).mono ?_
  rintro z w1 ⟨rfl, hb⟩
  have HB1 := Lib.hid (HB.out.keep hb)
  clear hb HB
  have HB := HB1; clear HB1
  obtain ⟨q0, q1, q2, q3, q4, q5⟩ := cells6 HB.out.box
  obtain ⟨z0, z1, z2, z3, z4, z5⟩ := cells6 HB.out.res
  obtain ⟨f0, f1, f2, f3, f4, f5⟩ := free6 HB.out.res
  obtain ⟨k0, k1, k2, k3, k4, k5⟩ := free6 HB.out.box
  go_wp2_with fail
  have HRS := Lib.hid (heap_put6 HB.out.res (.string ⟨#[]⟩) (.int .i64 0) (.int .i64 0) (.int .i64 0) (.int .i64 0) (.int .i64 0))
  have HW := Lib.hid (below_put6 HB.out.bel (Nat.le_succ _) (.string ⟨#[]⟩) (.int .i64 0) (.int .i64 0) (.int .i64 0) (.int .i64 0) (.int .i64 0))
  exact bodyPost_ret (results_sku rfl _ _ (w.heap.size + 1) _ _ _ _ _ _ rfl HRS.out) rfl ⟨rfl, HW.out⟩
theorem radjust_less (s : ByteArray) (a b c d e : Int) (n : Int) (w : World)  (hs : s.size ≤ 4398046511104) (hf : fitS ⟨s, a, b, c, d, e⟩ = true) (hn : n ≠ 0) (hm : n < -1099511627776) :
    Calls Tryz.prog 65 #[.agg #[.string s, .int .i64 a, .int .i64 b, .int .i64 c, .int .i64 d, .int .i64 e], .int .i64 n] w fun z w' => z = .returned (.tuple #[.agg #[.string ⟨#[]⟩, .int .i64 0, .int .i64 0, .int .i64 0, .int .i64 0, .int .i64 0], .int .i64 11]) ∧ Below w.heap.size w w' := by
  have hn2 : (n == 0) = false := beq_eq_false_iff_ne.2 hn
  clear hn
  have HF := Lib.hid (fun w => rsfit_is s a b c d e true w hs hf)
  clear hf
  have HB := Lib.hid (in2_new w (.string s) (.int .i64 a) (.int .i64 b) (.int .i64 c) (.int .i64 d) (.int .i64 e) (.string ⟨#[]⟩) (.int .i64 0) (.int .i64 0) (.int .i64 0) (.int .i64 0) (.int .i64 0))
  go_enter Tryz.func65, Tryz.ntmps65
  go_wp2_with fail
  refine (HF.out _).mono ?_
  rintro z w1 ⟨rfl, hb⟩
  have HB1 := Lib.hid (HB.out.keep hb)
  clear hb HB
  have HB := HB1; clear HB1
  obtain ⟨q0, q1, q2, q3, q4, q5⟩ := cells6 HB.out.box
  obtain ⟨z0, z1, z2, z3, z4, z5⟩ := cells6 HB.out.res
  obtain ⟨f0, f1, f2, f3, f4, f5⟩ := free6 HB.out.res
  obtain ⟨k0, k1, k2, k3, k4, k5⟩ := free6 HB.out.box
  go_wp2_with fail
  have HRS := Lib.hid (heap_put6 HB.out.res (.string ⟨#[]⟩) (.int .i64 0) (.int .i64 0) (.int .i64 0) (.int .i64 0) (.int .i64 0))
  have HW := Lib.hid (below_put6 HB.out.bel (Nat.le_succ _) (.string ⟨#[]⟩) (.int .i64 0) (.int .i64 0) (.int .i64 0) (.int .i64 0) (.int .i64 0))
  exact bodyPost_ret (results_sku rfl _ _ (w.heap.size + 1) _ _ _ _ _ _ rfl HRS.out) rfl ⟨rfl, HW.out⟩
theorem radjust_more (s : ByteArray) (a b c d e : Int) (n : Int) (w : World)  (hs : s.size ≤ 4398046511104) (hf : fitS ⟨s, a, b, c, d, e⟩ = true) (hn : n ≠ 0) (hl : ¬ n < -1099511627776) (hm : 1099511627776 < n) :
    Calls Tryz.prog 65 #[.agg #[.string s, .int .i64 a, .int .i64 b, .int .i64 c, .int .i64 d, .int .i64 e], .int .i64 n] w fun z w' => z = .returned (.tuple #[.agg #[.string ⟨#[]⟩, .int .i64 0, .int .i64 0, .int .i64 0, .int .i64 0, .int .i64 0], .int .i64 11]) ∧ Below w.heap.size w w' := by
  have hn2 : (n == 0) = false := beq_eq_false_iff_ne.2 hn
  clear hn
  have HF := Lib.hid (fun w => rsfit_is s a b c d e true w hs hf)
  clear hf
  have HB := Lib.hid (in2_new w (.string s) (.int .i64 a) (.int .i64 b) (.int .i64 c) (.int .i64 d) (.int .i64 e) (.string ⟨#[]⟩) (.int .i64 0) (.int .i64 0) (.int .i64 0) (.int .i64 0) (.int .i64 0))
  go_enter Tryz.func65, Tryz.ntmps65
  go_wp2_with fail
  refine (HF.out _).mono ?_
  rintro z w1 ⟨rfl, hb⟩
  have HB1 := Lib.hid (HB.out.keep hb)
  clear hb HB
  have HB := HB1; clear HB1
  obtain ⟨q0, q1, q2, q3, q4, q5⟩ := cells6 HB.out.box
  obtain ⟨z0, z1, z2, z3, z4, z5⟩ := cells6 HB.out.res
  obtain ⟨f0, f1, f2, f3, f4, f5⟩ := free6 HB.out.res
  obtain ⟨k0, k1, k2, k3, k4, k5⟩ := free6 HB.out.box
  go_wp2_with fail
  have HRS := Lib.hid (heap_put6 HB.out.res (.string ⟨#[]⟩) (.int .i64 0) (.int .i64 0) (.int .i64 0) (.int .i64 0) (.int .i64 0))
  have HW := Lib.hid (below_put6 HB.out.bel (Nat.le_succ _) (.string ⟨#[]⟩) (.int .i64 0) (.int .i64 0) (.int .i64 0) (.int .i64 0) (.int .i64 0))
  exact bodyPost_ret (results_sku rfl _ _ (w.heap.size + 1) _ _ _ _ _ _ rfl HRS.out) rfl ⟨rfl, HW.out⟩
theorem radjust_short (s : ByteArray) (a b c d e : Int) (n : Int) (w : World)  (hs : s.size ≤ 4398046511104) (hf : fitS ⟨s, a, b, c, d, e⟩ = true) (hn : n ≠ 0) (hl : ¬ n < -1099511627776) (hm : n ≤ 1099511627776) (g0 : 0 ≤ e) (g1 : e ≤ 1099511627776) (g2 : 0 ≤ a) (g3 : a ≤ e) (ho : a + n < 0) :
    Calls Tryz.prog 65 #[.agg #[.string s, .int .i64 a, .int .i64 b, .int .i64 c, .int .i64 d, .int .i64 e], .int .i64 n] w fun z w' => z = .returned (.tuple #[.agg #[.string ⟨#[]⟩, .int .i64 0, .int .i64 0, .int .i64 0, .int .i64 0, .int .i64 0], .int .i64 6]) ∧ Below w.heap.size w w' := by
  have hn2 : (n == 0) = false := beq_eq_false_iff_ne.2 hn
  clear hn
  have HF := Lib.hid (fun w => rsfit_is s a b c d e true w hs hf)
  clear hf
  have HB := Lib.hid (in2_new w (.string s) (.int .i64 a) (.int .i64 b) (.int .i64 c) (.int .i64 d) (.int .i64 e) (.string ⟨#[]⟩) (.int .i64 0) (.int .i64 0) (.int .i64 0) (.int .i64 0) (.int .i64 0))
  go_enter Tryz.func65, Tryz.ntmps65
  go_wp2_with fail
  refine (HF.out _).mono ?_
  rintro z w1 ⟨rfl, hb⟩
  have HB1 := Lib.hid (HB.out.keep hb)
  clear hb HB
  have HB := HB1; clear HB1
  obtain ⟨q0, q1, q2, q3, q4, q5⟩ := cells6 HB.out.box
  obtain ⟨z0, z1, z2, z3, z4, z5⟩ := cells6 HB.out.res
  obtain ⟨f0, f1, f2, f3, f4, f5⟩ := free6 HB.out.res
  obtain ⟨k0, k1, k2, k3, k4, k5⟩ := free6 HB.out.box
  go_wp2_with fail
  have HRS := Lib.hid (heap_put6 HB.out.res (.string ⟨#[]⟩) (.int .i64 0) (.int .i64 0) (.int .i64 0) (.int .i64 0) (.int .i64 0))
  have HW := Lib.hid (below_put6 HB.out.bel (Nat.le_succ _) (.string ⟨#[]⟩) (.int .i64 0) (.int .i64 0) (.int .i64 0) (.int .i64 0) (.int .i64 0))
  exact bodyPost_ret (results_sku rfl _ _ (w.heap.size + 1) _ _ _ _ _ _ rfl HRS.out) rfl ⟨rfl, HW.out⟩
theorem radjust_over (s : ByteArray) (a b c d e : Int) (n : Int) (w : World)  (hs : s.size ≤ 4398046511104) (hf : fitS ⟨s, a, b, c, d, e⟩ = true) (hn : n ≠ 0) (hl : ¬ n < -1099511627776) (hm : n ≤ 1099511627776) (g0 : 0 ≤ e) (g1 : e ≤ 1099511627776) (g2 : 0 ≤ a) (g3 : a ≤ e) (ho : ¬ a + n < 0) (hv : 1099511627776 < e + n) :
    Calls Tryz.prog 65 #[.agg #[.string s, .int .i64 a, .int .i64 b, .int .i64 c, .int .i64 d, .int .i64 e], .int .i64 n] w fun z w' => z = .returned (.tuple #[.agg #[.string ⟨#[]⟩, .int .i64 0, .int .i64 0, .int .i64 0, .int .i64 0, .int .i64 0], .int .i64 5]) ∧ Below w.heap.size w w' := by
  have hn2 : (n == 0) = false := beq_eq_false_iff_ne.2 hn
  clear hn
  have HF := Lib.hid (fun w => rsfit_is s a b c d e true w hs hf)
  clear hf
  have HB := Lib.hid (in2_new w (.string s) (.int .i64 a) (.int .i64 b) (.int .i64 c) (.int .i64 d) (.int .i64 e) (.string ⟨#[]⟩) (.int .i64 0) (.int .i64 0) (.int .i64 0) (.int .i64 0) (.int .i64 0))
  go_enter Tryz.func65, Tryz.ntmps65
  go_wp2_with fail
  refine (HF.out _).mono ?_
  rintro z w1 ⟨rfl, hb⟩
  have HB1 := Lib.hid (HB.out.keep hb)
  clear hb HB
  have HB := HB1; clear HB1
  obtain ⟨q0, q1, q2, q3, q4, q5⟩ := cells6 HB.out.box
  obtain ⟨z0, z1, z2, z3, z4, z5⟩ := cells6 HB.out.res
  obtain ⟨f0, f1, f2, f3, f4, f5⟩ := free6 HB.out.res
  obtain ⟨k0, k1, k2, k3, k4, k5⟩ := free6 HB.out.box
  go_wp2_with fail
  have HRS := Lib.hid (heap_put6 HB.out.res (.string ⟨#[]⟩) (.int .i64 0) (.int .i64 0) (.int .i64 0) (.int .i64 0) (.int .i64 0))
  have HW := Lib.hid (below_put6 HB.out.bel (Nat.le_succ _) (.string ⟨#[]⟩) (.int .i64 0) (.int .i64 0) (.int .i64 0) (.int .i64 0) (.int .i64 0))
  exact bodyPost_ret (results_sku rfl _ _ (w.heap.size + 1) _ _ _ _ _ _ rfl HRS.out) rfl ⟨rfl, HW.out⟩
theorem radjust_yes (s : ByteArray) (a b c d e : Int) (n : Int) (w : World)  (hs : s.size ≤ 4398046511104) (hf : fitS ⟨s, a, b, c, d, e⟩ = true) (hn : n ≠ 0) (hl : ¬ n < -1099511627776) (hm : n ≤ 1099511627776) (g0 : 0 ≤ e) (g1 : e ≤ 1099511627776) (g2 : 0 ≤ a) (g3 : a ≤ e) (ho : ¬ a + n < 0) (hv : ¬ 1099511627776 < e + n) :
    Calls Tryz.prog 65 #[.agg #[.string s, .int .i64 a, .int .i64 b, .int .i64 c, .int .i64 d, .int .i64 e], .int .i64 n] w fun z w' => z = .returned (.tuple #[.agg #[.string s, .int .i64 (a + n), .int .i64 (b), .int .i64 (c), .int .i64 (d), .int .i64 (e + n)], .int .i64 0]) ∧ Below w.heap.size w w' := by
  have hn2 : (n == 0) = false := beq_eq_false_iff_ne.2 hn
  clear hn
  have HF := Lib.hid (fun w => rsfit_is s a b c d e true w hs hf)
  clear hf
  have HB := Lib.hid (in2_new w (.string s) (.int .i64 a) (.int .i64 b) (.int .i64 c) (.int .i64 d) (.int .i64 e) (.string ⟨#[]⟩) (.int .i64 0) (.int .i64 0) (.int .i64 0) (.int .i64 0) (.int .i64 0))
  go_enter Tryz.func65, Tryz.ntmps65
  go_wp2_with fail
  refine (HF.out _).mono ?_
  rintro z w1 ⟨rfl, hb⟩
  have HB1 := Lib.hid (HB.out.keep hb)
  clear hb HB
  have HB := HB1; clear HB1
  obtain ⟨q0, q1, q2, q3, q4, q5⟩ := cells6 HB.out.box
  obtain ⟨z0, z1, z2, z3, z4, z5⟩ := cells6 HB.out.res
  obtain ⟨f0, f1, f2, f3, f4, f5⟩ := free6 HB.out.res
  obtain ⟨k0, k1, k2, k3, k4, k5⟩ := free6 HB.out.box
  go_wp2_with fail
  have HRS := Lib.hid (heap_put6 (HB.out.set 1 5 (.int .i64 (a + n)) (.int .i64 (e + n))) (.string s) (.int .i64 (a + n)) (.int .i64 (b)) (.int .i64 (c)) (.int .i64 (d)) (.int .i64 (e + n)))
  have HW := Lib.hid (below_put6 (HB.out.setB 1 5 (.int .i64 (a + n)) (.int .i64 (e + n))) (Nat.le_succ _) (.string s) (.int .i64 (a + n)) (.int .i64 (b)) (.int .i64 (c)) (.int .i64 (d)) (.int .i64 (e + n)))
  exact bodyPost_ret (results_sku rfl _ _ (w.heap.size + 1) _ _ _ _ _ _ rfl HRS.out) rfl ⟨rfl, HW.out⟩
theorem rrestock_any (x : Sk) (n : Int) (w : World) (hs : x.nm.size ≤ 4398046511104) :
    Calls Tryz.prog 63 #[skV x, .int .i64 n] w fun z w' => z = .returned (.tuple #[skV (restockV x n).1, .int .i64 (restockV x n).2]) ∧ Below w.heap.size w w' := by
  obtain ⟨s, a, b, c, d, e⟩ := x
  unfold restockV
  cases hf : fitS ⟨s, a, b, c, d, e⟩ with
  | false =>
    rw [if_neg (by decide)]
    exact rrestock_bad s a b c d e n w hs hf
  | true =>
    have g := fitS_iff.1 hf
    have u := g.up; have g1 := g.hand; have g2 := g.held; have g3 := g.kept; have g4 := g.sent; have g5 := g.most; have g6 := g.sum
    dsimp only at u g1 g2 g3 g4 g5 g6
    rw [if_pos rfl]
    by_cases hn : n < 1
    · rw [if_neg (by omega)]
      exact rrestock_less s a b c d e n w hs hf hn
    · by_cases hm : n ≤ 1099511627776
      · rw [if_pos ⟨by omega, hm⟩]
        dsimp only
        by_cases ho : 1099511627776 - e < n
        · rw [if_pos ho]
          exact rrestock_over s a b c d e n w hs hf hn hm u.2.2.2.2 g5 ho
        · rw [if_neg ho]
          exact rrestock_yes s a b c d e n w hs hf hn hm u.2.2.2.2 g5 g1 (by omega) ho
      · rw [if_neg (by omega)]
        exact rrestock_more s a b c d e n w hs hf hn (by omega)
theorem radjust_any (x : Sk) (n : Int) (w : World) (hs : x.nm.size ≤ 4398046511104) :
    Calls Tryz.prog 65 #[skV x, .int .i64 n] w fun z w' => z = .returned (.tuple #[skV (adjustV x n).1, .int .i64 (adjustV x n).2]) ∧ Below w.heap.size w w' := by
  obtain ⟨s, a, b, c, d, e⟩ := x
  unfold adjustV
  cases hf : fitS ⟨s, a, b, c, d, e⟩ with
  | false =>
    rw [if_neg (by decide)]
    exact radjust_bad s a b c d e n w hs hf
  | true =>
    have g := fitS_iff.1 hf
    have u := g.up; have g1 := g.hand; have g2 := g.held; have g3 := g.kept; have g4 := g.sent; have g5 := g.most; have g6 := g.sum
    dsimp only at u g1 g2 g3 g4 g5 g6
    rw [if_pos rfl]
    by_cases hn : n = 0
    · subst hn
      rw [if_neg (by omega)]
      exact radjust_zero s a b c d e 0 w hs hf
    · by_cases hl : n < -1099511627776
      · rw [if_neg (by omega)]
        exact radjust_less s a b c d e n w hs hf hn hl
      · by_cases hm : n ≤ 1099511627776
        · rw [if_pos ⟨hn, by omega, hm⟩]
          dsimp only
          by_cases ho : a + n < 0
          · rw [if_pos ho]
            exact radjust_short s a b c d e n w hs hf hn hl hm u.2.2.2.2 g5 g1 (by omega) ho
          · rw [if_neg ho]
            by_cases hv : 1099511627776 < e + n
            · rw [if_pos hv]
              exact radjust_over s a b c d e n w hs hf hn hl hm u.2.2.2.2 g5 g1 (by omega) ho hv
            · rw [if_neg hv]
              exact radjust_yes s a b c d e n w hs hf hn hl hm u.2.2.2.2 g5 g1 (by omega) ho hv
        · rw [if_neg (by omega)]
          exact radjust_more s a b c d e n w hs hf hn hl (by omega)
end Go.Proofs.YtjclkiabgemfpaaGreat
