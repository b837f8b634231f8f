/-
  The contract of the document's Fit: any envelope; what was there stays as it was.
-/
import Derived.Test.YtamcidlkbhanfaaMsgA
import Derived.Lib.QuietBelow
set_option linter.unusedVariables false
set_option linter.unusedSimpArgs false
set_option maxRecDepth 4000
namespace Go.Proofs.Ytamcidlkbhanfaa.Msg
open Go.RowKit MsgP
open Go.Proofs.Ytamcidlkbhanfaa.Kt

open OutP (oneE en0 serviceV)
open Go.Sort
theorem rservice_below (n s : Int) (hs : serviceV n = s) (w : World) : Calls Try.prog 36 #[.int .i64 n] w fun e w' => e = .returned (.int .i64 s) ∧ Below w.heap.size w w' :=
  (Outbox.rservice_is n s hs w).mono fun e w' ⟨h, hw⟩ => ⟨h, by subst hw; exact Below.refl _ _⟩

set_option maxHeartbeats 4000000 in
theorem rfit_low (n0 : Int) (n1 : Bool) (n2 : Int) (x0 : Int) (x1 : Int) (x2 : Int) (x3 : Bool) (x4 : Int) (x5 : Int) (x6 : Bool) (r0 : Int) (r1 : Int) (r2 : Int) (r3 : Int) (r4 : Bool) (r5 : Int) (r6 : Int) (v : Bool) (h0 : ¬ 1 ≤ n0) (HR : Hid (v = false)) (w : World) : Calls Try.prog 9 #[vv n0 n1 n2 x0 x1 x2 x3 x4 x5 x6 r0 r1 r2 r3 r4 r5 r6] w fun e w' => e = .returned (.bool v) ∧ Below w.heap.size w w' := by
  have h1 : n0 < 1 := by omega
  clear h0
  have HB0 := Lib.hid (bx17_new 27 w (.int .i64 n0) (.bool n1) (.int .i64 n2) (.int .i64 x0) (.int .i64 x1) (.int .i64 x2) (.bool x3) (.int .i64 x4) (.int .i64 x5) (.bool x6) (.int .i64 r0) (.int .i64 r1) (.int .i64 r2) (.int .i64 r3) (.bool r4) (.int .i64 r5) (.int .i64 r6))
  go_enter Try.func9, Try.ntmps9
  go_wp2_with fail
  go_ret
  exact ⟨ret_bool HR.out, HB0.out.bel⟩

set_option maxHeartbeats 4000000 in
theorem rfit_high (n0 : Int) (n1 : Bool) (n2 : Int) (x0 : Int) (x1 : Int) (x2 : Int) (x3 : Bool) (x4 : Int) (x5 : Int) (x6 : Bool) (r0 : Int) (r1 : Int) (r2 : Int) (r3 : Int) (r4 : Bool) (r5 : Int) (r6 : Int) (v : Bool) (h0 : 1 ≤ n0) (h1 : ¬ n0 ≤ 1099511627776) (HR : Hid (v = false)) (w : World) : Calls Try.prog 9 #[vv n0 n1 n2 x0 x1 x2 x3 x4 x5 x6 r0 r1 r2 r3 r4 r5 r6] w fun e w' => e = .returned (.bool v) ∧ Below w.heap.size w w' := by
  have h2 : ¬ n0 < 1 := by omega
  have h3 : 1099511627776 < n0 := by omega
  clear h0 h1
  have HB0 := Lib.hid (bx17_new 27 w (.int .i64 n0) (.bool n1) (.int .i64 n2) (.int .i64 x0) (.int .i64 x1) (.int .i64 x2) (.bool x3) (.int .i64 x4) (.int .i64 x5) (.bool x6) (.int .i64 r0) (.int .i64 r1) (.int .i64 r2) (.int .i64 r3) (.bool r4) (.int .i64 r5) (.int .i64 r6))
  go_enter Try.func9, Try.ntmps9
  go_wp2_with fail
  go_ret
  exact ⟨ret_bool HR.out, HB0.out.bel⟩

set_option maxHeartbeats 4000000 in
theorem rask_no (n0 : Int) (n2 : Int) (x0 : Int) (x1 : Int) (x2 : Int) (x3 : Bool) (x4 : Int) (x5 : Int) (x6 : Bool) (r0 : Int) (r1 : Int) (r2 : Int) (r3 : Int) (r4 : Bool) (r5 : Int) (r6 : Int) (v : Bool) (s : Int) (hs : serviceV x4 = s) (h0 : 1 ≤ n0) (h1 : n0 ≤ 1099511627776) (hf : oneE ⟨x0, x1, x2, x3, x4, x5, x6⟩ = false) (HR : Hid (v = false)) (w : World) : Calls Try.prog 9 #[vv n0 true n2 x0 x1 x2 x3 x4 x5 x6 r0 r1 r2 r3 r4 r5 r6] w fun e w' => e = .returned (.bool v) ∧ Below w.heap.size w w' := by
  have h2 : ¬ n0 < 1 := by omega
  have h3 : ¬ 1099511627776 < n0 := by omega
  clear h0 h1
  have eq := fun W => eql_r r0 r1 r2 r3 r4 r5 r6 0 0 0 0 false 0 0 W
  have gd := fun x y u v W => guard_r .eql x y u v W
  have HB0 := Lib.hid (bx17_new 27 w (.int .i64 n0) (.bool true) (.int .i64 n2) (.int .i64 x0) (.int .i64 x1) (.int .i64 x2) (.bool x3) (.int .i64 x4) (.int .i64 x5) (.bool x6) (.int .i64 r0) (.int .i64 r1) (.int .i64 r2) (.int .i64 r3) (.bool r4) (.int .i64 r5) (.int .i64 r6))
  obtain ⟨w1, hw1⟩ : ∃ w1, w.alloc (.cells #[.int .i64 n0, .bool true, .int .i64 n2, .int .i64 x0, .int .i64 x1, .int .i64 x2, .bool x3, .int .i64 x4, .int .i64 x5, .bool x6, .int .i64 r0, .int .i64 r1, .int .i64 r2, .int .i64 r3, .bool r4, .int .i64 r5, .int .i64 r6] 27) = w1 := ⟨_, rfl⟩
  rw [hw1] at HB0
  have HW := Lib.hid hw1
  clear hw1
  obtain ⟨q0, q1, q2, q3, q4, q5, q6, q7, q8, q9, q10, q11, q12, q13, q14, q15, q16⟩ := cells17 HB0.out.box
  have c0 := fun d os => cell_regrown q0 d os
  have c1 := fun d os => cell_regrown q1 d os
  have c2 := fun d os => cell_regrown q2 d os
  have c3 := fun d os => cell_regrown q3 d os
  have c4 := fun d os => cell_regrown q4 d os
  have c5 := fun d os => cell_regrown q5 d os
  have c6 := fun d os => cell_regrown q6 d os
  have c7 := fun d os => cell_regrown q7 d os
  have c8 := fun d os => cell_regrown q8 d os
  have c9 := fun d os => cell_regrown q9 d os
  have c10 := fun d os => cell_regrown q10 d os
  have c11 := fun d os => cell_regrown q11 d os
  have c12 := fun d os => cell_regrown q12 d os
  have c13 := fun d os => cell_regrown q13 d os
  have c14 := fun d os => cell_regrown q14 d os
  have c15 := fun d os => cell_regrown q15 d os
  have c16 := fun d os => cell_regrown q16 d os
  have C0 := Lib.hid (fun d os => Calls.regrown_of (Outbox.rone_is x0 x1 x2 x3 x4 x5 x6 false hf (Sort.grow (redrawn w1 d) os)))
  have C1 := Lib.hid (fun d os => Calls.regrown_of (rservice_below x4 s hs (Sort.grow (redrawn w1 d) os)))
  clear q0 q1 q2 q3 q4 q5 q6 q7 q8 q9 q10 q11 q12 q13 q14 q15 q16
  go_enter Try.func9, Try.ntmps9
  go_wp2_with fail
  rw [show w.alloc (.cells #[.int .i64 n0, .bool true, .int .i64 n2, .int .i64 x0, .int .i64 x1, .int .i64 x2, .bool x3, .int .i64 x4, .int .i64 x5, .bool x6, .int .i64 r0, .int .i64 r1, .int .i64 r2, .int .i64 r3, .bool r4, .int .i64 r5, .int .i64 r6] 27) = w1 from HW.out]
  refine wp_region_qw (by kernel_rfl) (by kernel_rfl) ?_
  iterate 4 (refine qw_take (by kernel_rfl) (fun K hK => ?_); go_simp; first | (refine hK _ ?_; clear hK K) | (apply Exists.intro; refine ⟨fun _ => ?_, hK _ ?_⟩; (first | with_reducible exact C0.out _ _ | with_reducible exact C1.out _ _); clear hK K))
  iterate 7 (refine qw_skip (by kernel_rfl) ?_; simp only [Act.put, List.setIfInBounds_toArray, List.set_cons_succ, List.set_cons_zero])
  iterate 2 (refine qw_take (by kernel_rfl) (fun K hK => ?_); go_simp; first | (refine hK _ ?_; clear hK K) | (apply Exists.intro; refine ⟨fun _ => ?_, hK _ ?_⟩; (first | with_reducible exact C0.out _ _ | with_reducible exact C1.out _ _); clear hK K))
  iterate 4 (refine qw_skip (by kernel_rfl) ?_; simp only [Act.put, List.setIfInBounds_toArray, List.set_cons_succ, List.set_cons_zero])
  iterate 2 (refine qw_take (by kernel_rfl) (fun K hK => ?_); go_simp; first | (refine hK _ ?_; clear hK K) | (apply Exists.intro; refine ⟨fun _ => ?_, hK _ ?_⟩; (first | with_reducible exact C0.out _ _ | with_reducible exact C1.out _ _); clear hK K))
  refine qw_nil ?_
  intro _ hw'
  obtain ⟨⟨dq, osq⟩, hw''⟩ := hw'
  subst hw''
  clear c0 c1 c2 c3 c4 c5 c6 c7 c8 c9 c10 c11 c12 c13 c14 c15 c16
  have HB1 := Lib.hid (HB0.out.keep (below_regrown w1 dq osq))
  generalize Sort.grow (redrawn w1 dq) osq = w2 at *
  go_wp2_with fail
  go_ret
  exact ⟨ret_bool HR.out, HB1.out.bel⟩

set_option maxHeartbeats 4000000 in
theorem rask_svc (n0 : Int) (n2 : Int) (x0 : Int) (x1 : Int) (x2 : Int) (x3 : Bool) (x4 : Int) (x5 : Int) (x6 : Bool) (r0 : Int) (r1 : Int) (r2 : Int) (r3 : Int) (r4 : Bool) (r5 : Int) (r6 : Int) (v : Bool) (s : Int) (hs : serviceV x4 = s) (h0 : 1 ≤ n0) (h1 : n0 ≤ 1099511627776) (hf : oneE ⟨x0, x1, x2, x3, x4, x5, x6⟩ = true) (he : (n2 == s) = false) (HR : Hid (v = false)) (w : World) : Calls Try.prog 9 #[vv n0 true n2 x0 x1 x2 x3 x4 x5 x6 r0 r1 r2 r3 r4 r5 r6] w fun e w' => e = .returned (.bool v) ∧ Below w.heap.size w w' := by
  have h2 : ¬ n0 < 1 := by omega
  have h3 : ¬ 1099511627776 < n0 := by omega
  clear h0 h1
  have eq := fun W => eql_r r0 r1 r2 r3 r4 r5 r6 0 0 0 0 false 0 0 W
  have gd := fun x y u v W => guard_r .eql x y u v W
  have HB0 := Lib.hid (bx17_new 27 w (.int .i64 n0) (.bool true) (.int .i64 n2) (.int .i64 x0) (.int .i64 x1) (.int .i64 x2) (.bool x3) (.int .i64 x4) (.int .i64 x5) (.bool x6) (.int .i64 r0) (.int .i64 r1) (.int .i64 r2) (.int .i64 r3) (.bool r4) (.int .i64 r5) (.int .i64 r6))
  obtain ⟨w1, hw1⟩ : ∃ w1, w.alloc (.cells #[.int .i64 n0, .bool true, .int .i64 n2, .int .i64 x0, .int .i64 x1, .int .i64 x2, .bool x3, .int .i64 x4, .int .i64 x5, .bool x6, .int .i64 r0, .int .i64 r1, .int .i64 r2, .int .i64 r3, .bool r4, .int .i64 r5, .int .i64 r6] 27) = w1 := ⟨_, rfl⟩
  rw [hw1] at HB0
  have HW := Lib.hid hw1
  clear hw1
  obtain ⟨q0, q1, q2, q3, q4, q5, q6, q7, q8, q9, q10, q11, q12, q13, q14, q15, q16⟩ := cells17 HB0.out.box
  have c0 := fun d os => cell_regrown q0 d os
  have c1 := fun d os => cell_regrown q1 d os
  have c2 := fun d os => cell_regrown q2 d os
  have c3 := fun d os => cell_regrown q3 d os
  have c4 := fun d os => cell_regrown q4 d os
  have c5 := fun d os => cell_regrown q5 d os
  have c6 := fun d os => cell_regrown q6 d os
  have c7 := fun d os => cell_regrown q7 d os
  have c8 := fun d os => cell_regrown q8 d os
  have c9 := fun d os => cell_regrown q9 d os
  have c10 := fun d os => cell_regrown q10 d os
  have c11 := fun d os => cell_regrown q11 d os
  have c12 := fun d os => cell_regrown q12 d os
  have c13 := fun d os => cell_regrown q13 d os
  have c14 := fun d os => cell_regrown q14 d os
  have c15 := fun d os => cell_regrown q15 d os
  have c16 := fun d os => cell_regrown q16 d os
  have C0 := Lib.hid (fun d os => Calls.regrown_of (Outbox.rone_is x0 x1 x2 x3 x4 x5 x6 true hf (Sort.grow (redrawn w1 d) os)))
  have C1 := Lib.hid (fun d os => Calls.regrown_of (rservice_below x4 s hs (Sort.grow (redrawn w1 d) os)))
  clear q0 q1 q2 q3 q4 q5 q6 q7 q8 q9 q10 q11 q12 q13 q14 q15 q16
  go_enter Try.func9, Try.ntmps9
  go_wp2_with fail
  rw [show w.alloc (.cells #[.int .i64 n0, .bool true, .int .i64 n2, .int .i64 x0, .int .i64 x1, .int .i64 x2, .bool x3, .int .i64 x4, .int .i64 x5, .bool x6, .int .i64 r0, .int .i64 r1, .int .i64 r2, .int .i64 r3, .bool r4, .int .i64 r5, .int .i64 r6] 27) = w1 from HW.out]
  refine wp_region_qw (by kernel_rfl) (by kernel_rfl) ?_
  iterate 13 (refine qw_take (by kernel_rfl) (fun K hK => ?_); go_simp; first | (refine hK _ ?_; clear hK K) | (apply Exists.intro; refine ⟨fun _ => ?_, hK _ ?_⟩; (first | with_reducible exact C0.out _ _ | with_reducible exact C1.out _ _); clear hK K))
  iterate 4 (refine qw_skip (by kernel_rfl) ?_; simp only [Act.put, List.setIfInBounds_toArray, List.set_cons_succ, List.set_cons_zero])
  iterate 2 (refine qw_take (by kernel_rfl) (fun K hK => ?_); go_simp; first | (refine hK _ ?_; clear hK K) | (apply Exists.intro; refine ⟨fun _ => ?_, hK _ ?_⟩; (first | with_reducible exact C0.out _ _ | with_reducible exact C1.out _ _); clear hK K))
  refine qw_nil ?_
  intro _ hw'
  obtain ⟨⟨dq, osq⟩, hw''⟩ := hw'
  subst hw''
  clear c0 c1 c2 c3 c4 c5 c6 c7 c8 c9 c10 c11 c12 c13 c14 c15 c16
  have HB1 := Lib.hid (HB0.out.keep (below_regrown w1 dq osq))
  generalize Sort.grow (redrawn w1 dq) osq = w2 at *
  go_wp2_with fail
  go_ret
  exact ⟨ret_bool HR.out, HB1.out.bel⟩

set_option maxHeartbeats 4000000 in
theorem rask_yes (n0 : Int) (n2 : Int) (x0 : Int) (x1 : Int) (x2 : Int) (x3 : Bool) (x4 : Int) (x5 : Int) (x6 : Bool) (r0 : Int) (r1 : Int) (r2 : Int) (r3 : Int) (r4 : Bool) (r5 : Int) (r6 : Int) (v : Bool) (s : Int) (hs : serviceV x4 = s) (h0 : 1 ≤ n0) (h1 : n0 ≤ 1099511627776) (hf : oneE ⟨x0, x1, x2, x3, x4, x5, x6⟩ = true) (he : (n2 == s) = true) (HR : Hid (v = eqR ⟨r0, r1, r2, r3, r4, r5, r6⟩ rp0)) (w : World) : Calls Try.prog 9 #[vv n0 true n2 x0 x1 x2 x3 x4 x5 x6 r0 r1 r2 r3 r4 r5 r6] w fun e w' => e = .returned (.bool v) ∧ Below w.heap.size w w' := by
  have h2 : ¬ n0 < 1 := by omega
  have h3 : ¬ 1099511627776 < n0 := by omega
  clear h0 h1
  have eq := fun W => eql_r r0 r1 r2 r3 r4 r5 r6 0 0 0 0 false 0 0 W
  have gd := fun x y u v W => guard_r .eql x y u v W
  have HB0 := Lib.hid (bx17_new 27 w (.int .i64 n0) (.bool true) (.int .i64 n2) (.int .i64 x0) (.int .i64 x1) (.int .i64 x2) (.bool x3) (.int .i64 x4) (.int .i64 x5) (.bool x6) (.int .i64 r0) (.int .i64 r1) (.int .i64 r2) (.int .i64 r3) (.bool r4) (.int .i64 r5) (.int .i64 r6))
  obtain ⟨w1, hw1⟩ : ∃ w1, w.alloc (.cells #[.int .i64 n0, .bool true, .int .i64 n2, .int .i64 x0, .int .i64 x1, .int .i64 x2, .bool x3, .int .i64 x4, .int .i64 x5, .bool x6, .int .i64 r0, .int .i64 r1, .int .i64 r2, .int .i64 r3, .bool r4, .int .i64 r5, .int .i64 r6] 27) = w1 := ⟨_, rfl⟩
  rw [hw1] at HB0
  have HW := Lib.hid hw1
  clear hw1
  obtain ⟨q0, q1, q2, q3, q4, q5, q6, q7, q8, q9, q10, q11, q12, q13, q14, q15, q16⟩ := cells17 HB0.out.box
  have c0 := fun d os => cell_regrown q0 d os
  have c1 := fun d os => cell_regrown q1 d os
  have c2 := fun d os => cell_regrown q2 d os
  have c3 := fun d os => cell_regrown q3 d os
  have c4 := fun d os => cell_regrown q4 d os
  have c5 := fun d os => cell_regrown q5 d os
  have c6 := fun d os => cell_regrown q6 d os
  have c7 := fun d os => cell_regrown q7 d os
  have c8 := fun d os => cell_regrown q8 d os
  have c9 := fun d os => cell_regrown q9 d os
  have c10 := fun d os => cell_regrown q10 d os
  have c11 := fun d os => cell_regrown q11 d os
  have c12 := fun d os => cell_regrown q12 d os
  have c13 := fun d os => cell_regrown q13 d os
  have c14 := fun d os => cell_regrown q14 d os
  have c15 := fun d os => cell_regrown q15 d os
  have c16 := fun d os => cell_regrown q16 d os
  have C0 := Lib.hid (fun d os => Calls.regrown_of (Outbox.rone_is x0 x1 x2 x3 x4 x5 x6 true hf (Sort.grow (redrawn w1 d) os)))
  have C1 := Lib.hid (fun d os => Calls.regrown_of (rservice_below x4 s hs (Sort.grow (redrawn w1 d) os)))
  clear q0 q1 q2 q3 q4 q5 q6 q7 q8 q9 q10 q11 q12 q13 q14 q15 q16
  go_enter Try.func9, Try.ntmps9
  go_wp2_with fail
  rw [show w.alloc (.cells #[.int .i64 n0, .bool true, .int .i64 n2, .int .i64 x0, .int .i64 x1, .int .i64 x2, .bool x3, .int .i64 x4, .int .i64 x5, .bool x6, .int .i64 r0, .int .i64 r1, .int .i64 r2, .int .i64 r3, .bool r4, .int .i64 r5, .int .i64 r6] 27) = w1 from HW.out]
  refine wp_region_qw (by kernel_rfl) (by kernel_rfl) ?_
  iterate 19 (refine qw_take (by kernel_rfl) (fun K hK => ?_); go_simp; first | (refine hK _ ?_; clear hK K) | (apply Exists.intro; refine ⟨fun _ => ?_, hK _ ?_⟩; (first | with_reducible exact C0.out _ _ | with_reducible exact C1.out _ _); clear hK K))
  refine qw_nil ?_
  intro _ hw'
  obtain ⟨⟨dq, osq⟩, hw''⟩ := hw'
  subst hw''
  clear c0 c1 c2 c3 c4 c5 c6 c7 c8 c9 c10 c11 c12 c13 c14 c15 c16
  have HB1 := Lib.hid (HB0.out.keep (below_regrown w1 dq osq))
  generalize Sort.grow (redrawn w1 dq) osq = w2 at *
  go_wp2_with fail
  go_ret
  exact ⟨ret_bool HR.out, HB1.out.bel⟩

set_option maxHeartbeats 4000000 in
theorem rtold_no (n0 : Int) (n2 : Int) (x0 : Int) (x1 : Int) (x2 : Int) (x3 : Bool) (x4 : Int) (x5 : Int) (x6 : Bool) (r0 : Int) (r1 : Int) (r2 : Int) (r3 : Int) (r4 : Bool) (r5 : Int) (r6 : Int) (v : Bool) (h0 : 1 ≤ n0) (h1 : n0 ≤ 1099511627776) (hf : fitR ⟨r0, r1, r2, r3, r4, r5, r6⟩ = false) (HR : Hid (v = false)) (w : World) : Calls Try.prog 9 #[vv n0 false n2 x0 x1 x2 x3 x4 x5 x6 r0 r1 r2 r3 r4 r5 r6] w fun e w' => e = .returned (.bool v) ∧ Below w.heap.size w w' := by
  have h2 : ¬ n0 < 1 := by omega
  have h3 : ¬ 1099511627776 < n0 := by omega
  clear h0 h1
  have eq := fun W => Outbox.eql_en x0 x1 x2 x3 x4 x5 x6 0 0 0 false 0 0 false W
  have gd := fun x y u v W => guard_e .eql x y u v W
  have HB0 := Lib.hid (bx17_new 27 w (.int .i64 n0) (.bool false) (.int .i64 n2) (.int .i64 x0) (.int .i64 x1) (.int .i64 x2) (.bool x3) (.int .i64 x4) (.int .i64 x5) (.bool x6) (.int .i64 r0) (.int .i64 r1) (.int .i64 r2) (.int .i64 r3) (.bool r4) (.int .i64 r5) (.int .i64 r6))
  obtain ⟨w1, hw1⟩ : ∃ w1, w.alloc (.cells #[.int .i64 n0, .bool false, .int .i64 n2, .int .i64 x0, .int .i64 x1, .int .i64 x2, .bool x3, .int .i64 x4, .int .i64 x5, .bool x6, .int .i64 r0, .int .i64 r1, .int .i64 r2, .int .i64 r3, .bool r4, .int .i64 r5, .int .i64 r6] 27) = w1 := ⟨_, rfl⟩
  rw [hw1] at HB0
  have HW := Lib.hid hw1
  clear hw1
  obtain ⟨q0, q1, q2, q3, q4, q5, q6, q7, q8, q9, q10, q11, q12, q13, q14, q15, q16⟩ := cells17 HB0.out.box
  have c0 := fun d os => cell_regrown q0 d os
  have c1 := fun d os => cell_regrown q1 d os
  have c2 := fun d os => cell_regrown q2 d os
  have c3 := fun d os => cell_regrown q3 d os
  have c4 := fun d os => cell_regrown q4 d os
  have c5 := fun d os => cell_regrown q5 d os
  have c6 := fun d os => cell_regrown q6 d os
  have c7 := fun d os => cell_regrown q7 d os
  have c8 := fun d os => cell_regrown q8 d os
  have c9 := fun d os => cell_regrown q9 d os
  have c10 := fun d os => cell_regrown q10 d os
  have c11 := fun d os => cell_regrown q11 d os
  have c12 := fun d os => cell_regrown q12 d os
  have c13 := fun d os => cell_regrown q13 d os
  have c14 := fun d os => cell_regrown q14 d os
  have c15 := fun d os => cell_regrown q15 d os
  have c16 := fun d os => cell_regrown q16 d os
  have CF := Lib.hid (rfitr_is r0 r1 r2 r3 r4 r5 r6 false hf w1)
  clear hf
  go_enter Try.func9, Try.ntmps9
  go_wp2_with fail
  rw [show w.alloc (.cells #[.int .i64 n0, .bool false, .int .i64 n2, .int .i64 x0, .int .i64 x1, .int .i64 x2, .bool x3, .int .i64 x4, .int .i64 x5, .bool x6, .int .i64 r0, .int .i64 r1, .int .i64 r2, .int .i64 r3, .bool r4, .int .i64 r5, .int .i64 r6] 27) = w1 from HW.out]
  refine CF.out.mono ?_
  rintro e w2 ⟨rfl, hb⟩
  have HB1 := Lib.hid (HB0.out.keep hb)
  clear hb q0 q1 q2 q3 q4 q5 q6 q7 q8 q9 q10 q11 q12 q13 q14 q15 q16 c0 c1 c2 c3 c4 c5 c6 c7 c8 c9 c10 c11 c12 c13 c14 c15 c16
  obtain ⟨q0, q1, q2, q3, q4, q5, q6, q7, q8, q9, q10, q11, q12, q13, q14, q15, q16⟩ := cells17 HB1.out.box
  go_wp2_with fail
  go_ret
  exact ⟨ret_bool HR.out, HB1.out.bel⟩

set_option maxHeartbeats 4000000 in
theorem rtold_svc (n0 : Int) (n2 : Int) (x0 : Int) (x1 : Int) (x2 : Int) (x3 : Bool) (x4 : Int) (x5 : Int) (x6 : Bool) (r0 : Int) (r1 : Int) (r2 : Int) (r3 : Int) (r4 : Bool) (r5 : Int) (r6 : Int) (v : Bool) (h0 : 1 ≤ n0) (h1 : n0 ≤ 1099511627776) (hf : fitR ⟨r0, r1, r2, r3, r4, r5, r6⟩ = true) (he : (n2 == r0) = false) (HR : Hid (v = false)) (w : World) : Calls Try.prog 9 #[vv n0 false n2 x0 x1 x2 x3 x4 x5 x6 r0 r1 r2 r3 r4 r5 r6] w fun e w' => e = .returned (.bool v) ∧ Below w.heap.size w w' := by
  have h2 : ¬ n0 < 1 := by omega
  have h3 : ¬ 1099511627776 < n0 := by omega
  clear h0 h1
  have eq := fun W => Outbox.eql_en x0 x1 x2 x3 x4 x5 x6 0 0 0 false 0 0 false W
  have gd := fun x y u v W => guard_e .eql x y u v W
  have HB0 := Lib.hid (bx17_new 27 w (.int .i64 n0) (.bool false) (.int .i64 n2) (.int .i64 x0) (.int .i64 x1) (.int .i64 x2) (.bool x3) (.int .i64 x4) (.int .i64 x5) (.bool x6) (.int .i64 r0) (.int .i64 r1) (.int .i64 r2) (.int .i64 r3) (.bool r4) (.int .i64 r5) (.int .i64 r6))
  obtain ⟨w1, hw1⟩ : ∃ w1, w.alloc (.cells #[.int .i64 n0, .bool false, .int .i64 n2, .int .i64 x0, .int .i64 x1, .int .i64 x2, .bool x3, .int .i64 x4, .int .i64 x5, .bool x6, .int .i64 r0, .int .i64 r1, .int .i64 r2, .int .i64 r3, .bool r4, .int .i64 r5, .int .i64 r6] 27) = w1 := ⟨_, rfl⟩
  rw [hw1] at HB0
  have HW := Lib.hid hw1
  clear hw1
  obtain ⟨q0, q1, q2, q3, q4, q5, q6, q7, q8, q9, q10, q11, q12, q13, q14, q15, q16⟩ := cells17 HB0.out.box
  have c0 := fun d os => cell_regrown q0 d os
  have c1 := fun d os => cell_regrown q1 d os
  have c2 := fun d os => cell_regrown q2 d os
  have c3 := fun d os => cell_regrown q3 d os
  have c4 := fun d os => cell_regrown q4 d os
  have c5 := fun d os => cell_regrown q5 d os
  have c6 := fun d os => cell_regrown q6 d os
  have c7 := fun d os => cell_regrown q7 d os
  have c8 := fun d os => cell_regrown q8 d os
  have c9 := fun d os => cell_regrown q9 d os
  have c10 := fun d os => cell_regrown q10 d os
  have c11 := fun d os => cell_regrown q11 d os
  have c12 := fun d os => cell_regrown q12 d os
  have c13 := fun d os => cell_regrown q13 d os
  have c14 := fun d os => cell_regrown q14 d os
  have c15 := fun d os => cell_regrown q15 d os
  have c16 := fun d os => cell_regrown q16 d os
  have CF := Lib.hid (rfitr_is r0 r1 r2 r3 r4 r5 r6 true hf w1)
  clear hf
  go_enter Try.func9, Try.ntmps9
  go_wp2_with fail
  rw [show w.alloc (.cells #[.int .i64 n0, .bool false, .int .i64 n2, .int .i64 x0, .int .i64 x1, .int .i64 x2, .bool x3, .int .i64 x4, .int .i64 x5, .bool x6, .int .i64 r0, .int .i64 r1, .int .i64 r2, .int .i64 r3, .bool r4, .int .i64 r5, .int .i64 r6] 27) = w1 from HW.out]
  refine CF.out.mono ?_
  rintro e w2 ⟨rfl, hb⟩
  have HB1 := Lib.hid (HB0.out.keep hb)
  clear hb q0 q1 q2 q3 q4 q5 q6 q7 q8 q9 q10 q11 q12 q13 q14 q15 q16 c0 c1 c2 c3 c4 c5 c6 c7 c8 c9 c10 c11 c12 c13 c14 c15 c16
  obtain ⟨q0, q1, q2, q3, q4, q5, q6, q7, q8, q9, q10, q11, q12, q13, q14, q15, q16⟩ := cells17 HB1.out.box
  go_wp2_with fail
  go_ret
  exact ⟨ret_bool HR.out, HB1.out.bel⟩

set_option maxHeartbeats 4000000 in
theorem rtold_yes (n0 : Int) (n2 : Int) (x0 : Int) (x1 : Int) (x2 : Int) (x3 : Bool) (x4 : Int) (x5 : Int) (x6 : Bool) (r0 : Int) (r1 : Int) (r2 : Int) (r3 : Int) (r4 : Bool) (r5 : Int) (r6 : Int) (v : Bool) (h0 : 1 ≤ n0) (h1 : n0 ≤ 1099511627776) (hf : fitR ⟨r0, r1, r2, r3, r4, r5, r6⟩ = true) (he : (n2 == r0) = true) (HR : Hid (v = MsgP.eqE ⟨x0, x1, x2, x3, x4, x5, x6⟩ en0)) (w : World) : Calls Try.prog 9 #[vv n0 false n2 x0 x1 x2 x3 x4 x5 x6 r0 r1 r2 r3 r4 r5 r6] w fun e w' => e = .returned (.bool v) ∧ Below w.heap.size w w' := by
  have h2 : ¬ n0 < 1 := by omega
  have h3 : ¬ 1099511627776 < n0 := by omega
  clear h0 h1
  have eq := fun W => Outbox.eql_en x0 x1 x2 x3 x4 x5 x6 0 0 0 false 0 0 false W
  have gd := fun x y u v W => guard_e .eql x y u v W
  have HB0 := Lib.hid (bx17_new 27 w (.int .i64 n0) (.bool false) (.int .i64 n2) (.int .i64 x0) (.int .i64 x1) (.int .i64 x2) (.bool x3) (.int .i64 x4) (.int .i64 x5) (.bool x6) (.int .i64 r0) (.int .i64 r1) (.int .i64 r2) (.int .i64 r3) (.bool r4) (.int .i64 r5) (.int .i64 r6))
  obtain ⟨w1, hw1⟩ : ∃ w1, w.alloc (.cells #[.int .i64 n0, .bool false, .int .i64 n2, .int .i64 x0, .int .i64 x1, .int .i64 x2, .bool x3, .int .i64 x4, .int .i64 x5, .bool x6, .int .i64 r0, .int .i64 r1, .int .i64 r2, .int .i64 r3, .bool r4, .int .i64 r5, .int .i64 r6] 27) = w1 := ⟨_, rfl⟩
  rw [hw1] at HB0
  have HW := Lib.hid hw1
  clear hw1
  obtain ⟨q0, q1, q2, q3, q4, q5, q6, q7, q8, q9, q10, q11, q12, q13, q14, q15, q16⟩ := cells17 HB0.out.box
  have c0 := fun d os => cell_regrown q0 d os
  have c1 := fun d os => cell_regrown q1 d os
  have c2 := fun d os => cell_regrown q2 d os
  have c3 := fun d os => cell_regrown q3 d os
  have c4 := fun d os => cell_regrown q4 d os
  have c5 := fun d os => cell_regrown q5 d os
  have c6 := fun d os => cell_regrown q6 d os
  have c7 := fun d os => cell_regrown q7 d os
  have c8 := fun d os => cell_regrown q8 d os
  have c9 := fun d os => cell_regrown q9 d os
  have c10 := fun d os => cell_regrown q10 d os
  have c11 := fun d os => cell_regrown q11 d os
  have c12 := fun d os => cell_regrown q12 d os
  have c13 := fun d os => cell_regrown q13 d os
  have c14 := fun d os => cell_regrown q14 d os
  have c15 := fun d os => cell_regrown q15 d os
  have c16 := fun d os => cell_regrown q16 d os
  have CF := Lib.hid (rfitr_is r0 r1 r2 r3 r4 r5 r6 true hf w1)
  clear hf
  go_enter Try.func9, Try.ntmps9
  go_wp2_with fail
  rw [show w.alloc (.cells #[.int .i64 n0, .bool false, .int .i64 n2, .int .i64 x0, .int .i64 x1, .int .i64 x2, .bool x3, .int .i64 x4, .int .i64 x5, .bool x6, .int .i64 r0, .int .i64 r1, .int .i64 r2, .int .i64 r3, .bool r4, .int .i64 r5, .int .i64 r6] 27) = w1 from HW.out]
  refine CF.out.mono ?_
  rintro e w2 ⟨rfl, hb⟩
  have HB1 := Lib.hid (HB0.out.keep hb)
  clear hb q0 q1 q2 q3 q4 q5 q6 q7 q8 q9 q10 q11 q12 q13 q14 q15 q16 c0 c1 c2 c3 c4 c5 c6 c7 c8 c9 c10 c11 c12 c13 c14 c15 c16
  obtain ⟨q0, q1, q2, q3, q4, q5, q6, q7, q8, q9, q10, q11, q12, q13, q14, q15, q16⟩ := cells17 HB1.out.box
  go_wp2_with fail
  go_ret
  exact ⟨ret_bool HR.out, HB1.out.bel⟩

theorem rfit_is (n0 : Int) (n1 : Bool) (n2 : Int) (x0 : Int) (x1 : Int) (x2 : Int) (x3 : Bool) (x4 : Int) (x5 : Int) (x6 : Bool) (r0 : Int) (r1 : Int) (r2 : Int) (r3 : Int) (r4 : Bool) (r5 : Int) (r6 : Int) (v : Bool) (hv : fitV ⟨n0, n1, n2, ⟨x0, x1, x2, x3, x4, x5, x6⟩, ⟨r0, r1, r2, r3, r4, r5, r6⟩⟩ = v) (w : World) : Calls Try.prog 9 #[vv n0 n1 n2 x0 x1 x2 x3 x4 x5 x6 r0 r1 r2 r3 r4 r5 r6] w fun e w' => e = .returned (.bool v) ∧ Below w.heap.size w w' := by
  unfold fitV at hv
  dsimp only at hv
  by_cases h0 : 1 ≤ n0
  rotate_left
  · exact rfit_low n0 n1 n2 x0 x1 x2 x3 x4 x5 x6 r0 r1 r2 r3 r4 r5 r6 v h0 (by rw [decide_eq_false h0] at hv; exact Lib.hid hv.symm) w
  by_cases h1 : n0 ≤ 1099511627776
  rotate_left
  · exact rfit_high n0 n1 n2 x0 x1 x2 x3 x4 x5 x6 r0 r1 r2 r3 r4 r5 r6 v h0 h1 (by rw [decide_eq_false h1, Bool.false_and, Bool.and_false] at hv; exact Lib.hid hv.symm) w
  rw [decide_eq_true h0, decide_eq_true h1, Bool.true_and, Bool.true_and] at hv
  cases n1 with
  | true =>
    rw [if_pos rfl] at hv
    cases hf : oneE ⟨x0, x1, x2, x3, x4, x5, x6⟩ with
    | false => exact rask_no n0  n2 x0 x1 x2 x3 x4 x5 x6 r0 r1 r2 r3 r4 r5 r6 v _ rfl h0 h1 hf (by rw [hf] at hv; exact Lib.hid hv.symm) w
    | true =>
      rw [hf, Bool.true_and] at hv
      by_cases h : n2 = serviceV x4
      · exact rask_yes n0  n2 x0 x1 x2 x3 x4 x5 x6 r0 r1 r2 r3 r4 r5 r6 v _ rfl h0 h1 hf (beq_iff_eq.2 h) (by rw [decide_eq_true h, Bool.true_and] at hv; exact Lib.hid hv.symm) w
      · exact rask_svc n0  n2 x0 x1 x2 x3 x4 x5 x6 r0 r1 r2 r3 r4 r5 r6 v _ rfl h0 h1 hf (beq_eq_false_iff_ne.2 h) (by rw [decide_eq_false h, Bool.false_and] at hv; exact Lib.hid hv.symm) w
  | false =>
    rw [if_neg (by decide)] at hv
    cases hf : fitR ⟨r0, r1, r2, r3, r4, r5, r6⟩ with
    | false => exact rtold_no n0  n2 x0 x1 x2 x3 x4 x5 x6 r0 r1 r2 r3 r4 r5 r6 v h0 h1 hf (by rw [hf] at hv; exact Lib.hid hv.symm) w
    | true =>
      rw [hf, Bool.true_and] at hv
      by_cases h : n2 = r0
      · exact rtold_yes n0  n2 x0 x1 x2 x3 x4 x5 x6 r0 r1 r2 r3 r4 r5 r6 v h0 h1 hf (beq_iff_eq.2 h) (by rw [decide_eq_true h, Bool.true_and] at hv; exact Lib.hid hv.symm) w
      · exact rtold_svc n0  n2 x0 x1 x2 x3 x4 x5 x6 r0 r1 r2 r3 r4 r5 r6 v h0 h1 hf (beq_eq_false_iff_ne.2 h) (by rw [decide_eq_false h, Bool.false_and] at hv; exact Lib.hid hv.symm) w
end Go.Proofs.Ytamcidlkbhanfaa.Msg
