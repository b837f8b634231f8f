/-
  The contracts of both Fits: any envelope; what was there stays as it was.
-/
import Derived.Test.YtamcidlkbhanfaaMsgA
import Derived.Test.YtamcidlkbhanfaaOutboxG
import Derived.Test.YtamcidlkbhanfaaMsgL
import Derived.Lib.QuietBelow
set_option linter.unusedVariables false
set_option linter.unusedSimpArgs false
set_option maxRecDepth 4000
namespace Go.Proofs.Ytamcidlkbhanfaa.Msg
open Go.RowKit MsgP
open Go.Proofs.Ytamcidlkbhanfaa.Kt

open Outbox (ev EnAt enS)
open OutP (oneE en0 fitB serviceV)
open Go.Sort Go.Shelf
theorem fitB_one (x : OutP.En) : fitB [x] = oneE x := by
  rw [Bool.eq_iff_iff, OutP.fitB_iff]
  constructor
  · intro h; exact h.one x (List.mem_singleton.2 rfl)
  · intro h
    exact ⟨by simp, fun t ht => by rw [List.mem_singleton.1 ht]; exact h, List.pairwise_singleton _ _, List.pairwise_singleton _ _⟩
theorem fitV_split (n0 : Int) (n1 : Bool) (n2 : Int) (x0 : Int) (x1 : Int) (x2 : Int) (x3 : Bool) (x4 : Int) (x5 : Int) (x6 : Bool) (r0 : Int) (r1 : Int) (r2 : Int) (r3 : Int) (r4 : Bool) (r5 : Int) (r6 : Int) : fitV ⟨n0, n1, n2, ⟨x0, x1, x2, x3, x4, x5, x6⟩, ⟨r0, r1, r2, r3, r4, r5, r6⟩⟩ = (numV n0 && (decide (n2 = svcV ⟨n0, n1, n2, ⟨x0, x1, x2, x3, x4, x5, x6⟩, ⟨r0, r1, r2, r3, r4, r5, r6⟩⟩) && (if n1 then oneE ⟨x0, x1, x2, x3, x4, x5, x6⟩ && eqR ⟨r0, r1, r2, r3, r4, r5, r6⟩ rp0 else fitR ⟨r0, r1, r2, r3, r4, r5, r6⟩ && MsgP.eqE ⟨x0, x1, x2, x3, x4, x5, x6⟩ en0))) := by
  unfold fitV numV svcV
  dsimp only
  cases n1 with
  | true =>
    rw [Bool.eq_iff_iff]
    simp only [if_true, Bool.and_eq_true, decide_eq_true_eq]
    constructor <;> (rintro h; simp only [h, and_self, true_and, and_true])
  | false =>
    rw [Bool.eq_iff_iff]
    simp only [Bool.false_eq_true, if_false, Bool.and_eq_true, decide_eq_true_eq]
    constructor <;> (rintro h; simp only [h, and_self, true_and, and_true])
theorem number_below (n : Int) (v : Bool) (hv : numV n = v) (w : World) : Calls Try.prog 32 #[.int .i64 n] w fun e w' => e = .returned (.bool v) ∧ Below w.heap.size w w' :=
  (number_is n v hv w).mono fun e w' ⟨h, hw⟩ => ⟨h, by subst hw; exact Below.refl _ _⟩
theorem Bx17.regrown {T : TypeId} {w w' : World} {v0 v1 v2 v3 v4 v5 v6 v7 v8 v9 v10 v11 v12 v13 v14 v15 v16 : Value} (h : Bx17 T w w' v0 v1 v2 v3 v4 v5 v6 v7 v8 v9 v10 v11 v12 v13 v14 v15 v16) (d : Nat) (os : Array Obj) : Bx17 T w (Sort.grow (redrawn w' d) os) v0 v1 v2 v3 v4 v5 v6 v7 v8 v9 v10 v11 v12 v13 v14 v15 v16 := h.keep (below_regrown w' d os)

set_option maxHeartbeats 4000000 in
theorem fit_num (n0 : Int) (n1 : Bool) (n2 : Int) (x0 : Int) (x1 : Int) (x2 : Int) (x3 : Bool) (x4 : Int) (x5 : Int) (x6 : Bool) (r0 : Int) (r1 : Int) (r2 : Int) (r3 : Int) (r4 : Bool) (r5 : Int) (r6 : Int) (v : Bool) (h0 : numV n0 = false) (HR : Hid (v = false)) (w : World) : Calls Try.prog 8 #[vv n0 n1 n2 x0 x1 x2 x3 x4 x5 x6 r0 r1 r2 r3 r4 r5 r6] w fun e w' => e = .returned (.bool v) ∧ Below w.heap.size w w' := by
  have HB0 := Lib.hid (bx17_new 27 w (.int .i64 n0) (.bool n1) (.int .i64 n2) (.int .i64 x0) (.int .i64 x1) (.int .i64 x2) (.bool x3) (.int .i64 x4) (.int .i64 x5) (.bool x6) (.int .i64 r0) (.int .i64 r1) (.int .i64 r2) (.int .i64 r3) (.bool r4) (.int .i64 r5) (.int .i64 r6))
  obtain ⟨w1, hw1⟩ : ∃ w1, w.alloc (.cells #[.int .i64 n0, .bool n1, .int .i64 n2, .int .i64 x0, .int .i64 x1, .int .i64 x2, .bool x3, .int .i64 x4, .int .i64 x5, .bool x6, .int .i64 r0, .int .i64 r1, .int .i64 r2, .int .i64 r3, .bool r4, .int .i64 r5, .int .i64 r6] 27) = w1 := ⟨_, rfl⟩
  rw [hw1] at HB0
  have HW := Lib.hid hw1
  clear hw1
  obtain ⟨q0, q1, q2, q3, q4, q5, q6, q7, q8, q9, q10, q11, q12, q13, q14, q15, q16⟩ := cells17 HB0.out.box
  have LQ := Lib.hid (fun (W : World) (hW : ∃ p : Regrown, W = Sort.grow (redrawn w1 p.d) p.os) => (by obtain ⟨p, rfl⟩ := hW; exact (HB0.out.keep (below_regrown w1 p.d p.os)).box : At17 27 W w.heap.size (.int .i64 n0) (.bool n1) (.int .i64 n2) (.int .i64 x0) (.int .i64 x1) (.int .i64 x2) (.bool x3) (.int .i64 x4) (.int .i64 x5) (.bool x6) (.int .i64 r0) (.int .i64 r1) (.int .i64 r2) (.int .i64 r3) (.bool r4) (.int .i64 r5) (.int .i64 r6)))
  have c0 := fun d os => cell_regrown q0 d os
  have c2 := fun d os => cell_regrown q2 d os
  have C0 := Lib.hid (fun d os => Calls.regrown_of (number_below n0 false h0 (Sort.grow (redrawn w1 d) os)))
  clear q0 q1 q2 q3 q4 q5 q6 q7 q8 q9 q10 q11 q12 q13 q14 q15 q16
  go_enter Try.func8, Try.ntmps8
  go_wp2_with fail
  rw [show w.alloc (.cells #[.int .i64 n0, .bool n1, .int .i64 n2, .int .i64 x0, .int .i64 x1, .int .i64 x2, .bool x3, .int .i64 x4, .int .i64 x5, .bool x6, .int .i64 r0, .int .i64 r1, .int .i64 r2, .int .i64 r3, .bool r4, .int .i64 r5, .int .i64 r6] 27) = w1 from HW.out]
  refine wp_region_qw (by kernel_rfl) (by kernel_rfl) ?_
  iterate 5 (refine qw_take (by kernel_rfl) (fun K hK => ?_); go_simp; first | (refine hK _ ?_; clear hK K) | (apply Exists.intro; refine ⟨fun _ => ?_, hK _ ?_⟩; (first | with_reducible exact C0.out _ _); clear hK K))
  iterate 5 (refine qw_skip (by kernel_rfl) ?_; simp only [Act.put, List.setIfInBounds_toArray, List.set_cons_succ, List.set_cons_zero])
  refine qw_take (by kernel_rfl) (fun K hK => ?_); go_simp; first | (refine hK _ ?_; clear hK K) | (apply Exists.intro; refine ⟨fun _ => ?_, hK _ ?_⟩; (first | with_reducible exact C0.out _ _); clear hK K)
  refine qw_nil ?_
  intro _ hw'
  obtain ⟨⟨dq, osq⟩, hw''⟩ := hw'
  subst hw''
  clear c0 c2 LQ
  have HB1 := Lib.hid (Bx17.regrown HB0.out dq osq)
  generalize Sort.grow (redrawn w1 dq) osq = w2 at *
  go_wp2_with fail
  go_ret
  exact ⟨ret_bool HR.out, HB1.out.bel⟩

set_option maxHeartbeats 4000000 in
theorem fit_svc (n0 : Int) (n1 : Bool) (n2 : Int) (x0 : Int) (x1 : Int) (x2 : Int) (x3 : Bool) (x4 : Int) (x5 : Int) (x6 : Bool) (r0 : Int) (r1 : Int) (r2 : Int) (r3 : Int) (r4 : Bool) (r5 : Int) (r6 : Int) (v : Bool) (s : Int) (hs : svcV ⟨n0, n1, n2, ⟨x0, x1, x2, x3, x4, x5, x6⟩, ⟨r0, r1, r2, r3, r4, r5, r6⟩⟩ = s) (h0 : numV n0 = true) (hne : (n2 != s) = true) (HR : Hid (v = false)) (w : World) : Calls Try.prog 8 #[vv n0 n1 n2 x0 x1 x2 x3 x4 x5 x6 r0 r1 r2 r3 r4 r5 r6] w fun e w' => e = .returned (.bool v) ∧ Below w.heap.size w w' := by
  have HB0 := Lib.hid (bx17_new 27 w (.int .i64 n0) (.bool n1) (.int .i64 n2) (.int .i64 x0) (.int .i64 x1) (.int .i64 x2) (.bool x3) (.int .i64 x4) (.int .i64 x5) (.bool x6) (.int .i64 r0) (.int .i64 r1) (.int .i64 r2) (.int .i64 r3) (.bool r4) (.int .i64 r5) (.int .i64 r6))
  obtain ⟨w1, hw1⟩ : ∃ w1, w.alloc (.cells #[.int .i64 n0, .bool n1, .int .i64 n2, .int .i64 x0, .int .i64 x1, .int .i64 x2, .bool x3, .int .i64 x4, .int .i64 x5, .bool x6, .int .i64 r0, .int .i64 r1, .int .i64 r2, .int .i64 r3, .bool r4, .int .i64 r5, .int .i64 r6] 27) = w1 := ⟨_, rfl⟩
  rw [hw1] at HB0
  have HW := Lib.hid hw1
  clear hw1
  obtain ⟨q0, q1, q2, q3, q4, q5, q6, q7, q8, q9, q10, q11, q12, q13, q14, q15, q16⟩ := cells17 HB0.out.box
  have LQ := Lib.hid (fun (W : World) (hW : ∃ p : Regrown, W = Sort.grow (redrawn w1 p.d) p.os) => (by obtain ⟨p, rfl⟩ := hW; exact (HB0.out.keep (below_regrown w1 p.d p.os)).box : At17 27 W w.heap.size (.int .i64 n0) (.bool n1) (.int .i64 n2) (.int .i64 x0) (.int .i64 x1) (.int .i64 x2) (.bool x3) (.int .i64 x4) (.int .i64 x5) (.bool x6) (.int .i64 r0) (.int .i64 r1) (.int .i64 r2) (.int .i64 r3) (.bool r4) (.int .i64 r5) (.int .i64 r6)))
  have c0 := fun d os => cell_regrown q0 d os
  have c2 := fun d os => cell_regrown q2 d os
  have C0 := Lib.hid (fun d os => Calls.regrown_of (number_below n0 true h0 (Sort.grow (redrawn w1 d) os)))
  have C1 := Lib.hid (fun d os => Calls.regrown_of (service_is n0 n1 n2 x0 x1 x2 x3 x4 x5 x6 r0 r1 r2 r3 r4 r5 r6 s hs (Sort.grow (redrawn w1 d) os)))
  clear q0 q1 q2 q3 q4 q5 q6 q7 q8 q9 q10 q11 q12 q13 q14 q15 q16
  go_enter Try.func8, Try.ntmps8
  go_wp2_with fail
  rw [show w.alloc (.cells #[.int .i64 n0, .bool n1, .int .i64 n2, .int .i64 x0, .int .i64 x1, .int .i64 x2, .bool x3, .int .i64 x4, .int .i64 x5, .bool x6, .int .i64 r0, .int .i64 r1, .int .i64 r2, .int .i64 r3, .bool r4, .int .i64 r5, .int .i64 r6] 27) = w1 from HW.out]
  refine wp_region_qw (by kernel_rfl) (by kernel_rfl) ?_
  iterate 7 (refine qw_take (by kernel_rfl) (fun K hK => ?_); go_simp; first | (refine hK _ ?_; clear hK K) | (apply Exists.intro; refine ⟨fun _ => ?_, hK _ ?_⟩; (first | with_reducible exact C0.out _ _ | with_reducible exact C1.out _ _); clear hK K))
  refine qw17 LQ.out (.tmp 1) (by kernel_rfl) rfl rfl ?_
  simp only [Act.put, List.setIfInBounds_toArray, List.set_cons_succ, List.set_cons_zero]
  iterate 3 (refine qw_take (by kernel_rfl) (fun K hK => ?_); go_simp; first | (refine hK _ ?_; clear hK K) | (apply Exists.intro; refine ⟨fun _ => ?_, hK _ ?_⟩; (first | with_reducible exact C0.out _ _ | with_reducible exact C1.out _ _); clear hK K))
  refine qw_nil ?_
  intro _ hw'
  obtain ⟨⟨dq, osq⟩, hw''⟩ := hw'
  subst hw''
  clear c0 c2 LQ
  have HB1 := Lib.hid (Bx17.regrown HB0.out dq osq)
  generalize Sort.grow (redrawn w1 dq) osq = w2 at *
  go_wp2_with fail
  go_ret
  exact ⟨ret_bool HR.out, HB1.out.bel⟩

set_option maxHeartbeats 4000000 in
theorem fit_asked (n0 : Int) (n2 : Int) (x0 : Int) (x1 : Int) (x2 : Int) (x3 : Bool) (x4 : Int) (x5 : Int) (x6 : Bool) (r0 : Int) (r1 : Int) (r2 : Int) (r3 : Int) (r4 : Bool) (r5 : Int) (r6 : Int) (v : Bool) (s : Int) (hs : svcV ⟨n0, true, n2, ⟨x0, x1, x2, x3, x4, x5, x6⟩, ⟨r0, r1, r2, r3, r4, r5, r6⟩⟩ = s) (h0 : numV n0 = true) (hne : (n2 != s) = false) (f : Bool) (hf : oneE ⟨x0, x1, x2, x3, x4, x5, x6⟩ = f) (HR : Hid (v = (f && eqR ⟨r0, r1, r2, r3, r4, r5, r6⟩ rp0))) (w : World) : Calls Try.prog 8 #[vv n0 true n2 x0 x1 x2 x3 x4 x5 x6 r0 r1 r2 r3 r4 r5 r6] w fun e w' => e = .returned (.bool v) ∧ Below w.heap.size w w' := by
  have HB0 := Lib.hid (bx17_new 27 w (.int .i64 n0) (.bool true) (.int .i64 n2) (.int .i64 x0) (.int .i64 x1) (.int .i64 x2) (.bool x3) (.int .i64 x4) (.int .i64 x5) (.bool x6) (.int .i64 r0) (.int .i64 r1) (.int .i64 r2) (.int .i64 r3) (.bool r4) (.int .i64 r5) (.int .i64 r6))
  obtain ⟨w1, hw1⟩ : ∃ w1, w.alloc (.cells #[.int .i64 n0, .bool true, .int .i64 n2, .int .i64 x0, .int .i64 x1, .int .i64 x2, .bool x3, .int .i64 x4, .int .i64 x5, .bool x6, .int .i64 r0, .int .i64 r1, .int .i64 r2, .int .i64 r3, .bool r4, .int .i64 r5, .int .i64 r6] 27) = w1 := ⟨_, rfl⟩
  rw [hw1] at HB0
  have HW := Lib.hid hw1
  clear hw1
  obtain ⟨q0, q1, q2, q3, q4, q5, q6, q7, q8, q9, q10, q11, q12, q13, q14, q15, q16⟩ := cells17 HB0.out.box
  have LQ := Lib.hid (fun (W : World) (hW : ∃ p : Regrown, W = Sort.grow (redrawn w1 p.d) p.os) => (by obtain ⟨p, rfl⟩ := hW; exact (HB0.out.keep (below_regrown w1 p.d p.os)).box : At17 27 W w.heap.size (.int .i64 n0) (.bool true) (.int .i64 n2) (.int .i64 x0) (.int .i64 x1) (.int .i64 x2) (.bool x3) (.int .i64 x4) (.int .i64 x5) (.bool x6) (.int .i64 r0) (.int .i64 r1) (.int .i64 r2) (.int .i64 r3) (.bool r4) (.int .i64 r5) (.int .i64 r6)))
  have c0 := fun d os => cell_regrown q0 d os
  have c2 := fun d os => cell_regrown q2 d os
  have C0 := Lib.hid (fun d os => Calls.regrown_of (number_below n0 true h0 (Sort.grow (redrawn w1 d) os)))
  have C1 := Lib.hid (fun d os => Calls.regrown_of (service_is n0 true n2 x0 x1 x2 x3 x4 x5 x6 r0 r1 r2 r3 r4 r5 r6 s hs (Sort.grow (redrawn w1 d) os)))
  clear q0 q1 q2 q3 q4 q5 q6 q7 q8 q9 q10 q11 q12 q13 q14 q15 q16
  go_enter Try.func8, Try.ntmps8
  go_wp2_with fail
  rw [show w.alloc (.cells #[.int .i64 n0, .bool true, .int .i64 n2, .int .i64 x0, .int .i64 x1, .int .i64 x2, .bool x3, .int .i64 x4, .int .i64 x5, .bool x6, .int .i64 r0, .int .i64 r1, .int .i64 r2, .int .i64 r3, .bool r4, .int .i64 r5, .int .i64 r6] 27) = w1 from HW.out]
  refine wp_region_qw (by kernel_rfl) (by kernel_rfl) ?_
  iterate 7 (refine qw_take (by kernel_rfl) (fun K hK => ?_); go_simp; first | (refine hK _ ?_; clear hK K) | (apply Exists.intro; refine ⟨fun _ => ?_, hK _ ?_⟩; (first | with_reducible exact C0.out _ _ | with_reducible exact C1.out _ _); clear hK K))
  refine qw17 LQ.out (.tmp 1) (by kernel_rfl) rfl rfl ?_
  simp only [Act.put, List.setIfInBounds_toArray, List.set_cons_succ, List.set_cons_zero]
  iterate 3 (refine qw_take (by kernel_rfl) (fun K hK => ?_); go_simp; first | (refine hK _ ?_; clear hK K) | (apply Exists.intro; refine ⟨fun _ => ?_, hK _ ?_⟩; (first | with_reducible exact C0.out _ _ | with_reducible exact C1.out _ _); clear hK K))
  refine qw_nil ?_
  intro _ hw'
  obtain ⟨⟨dq, osq⟩, hw''⟩ := hw'
  subst hw''
  clear c0 c2 LQ
  have HB1 := Lib.hid (Bx17.regrown HB0.out dq osq)
  generalize Sort.grow (redrawn w1 dq) osq = w2 at *
  obtain ⟨q0, q1, q2, q3, q4, q5, q6, q7, q8, q9, q10, q11, q12, q13, q14, q15, q16⟩ := cells17 HB1.out.box
  have HB2 := Lib.hid (HB1.out.alloc (.cells #[.int .i64 x0, .int .i64 x1, .int .i64 x2, .bool x3, .int .i64 x4, .int .i64 x5, .bool x6] 23))
  have CF := Lib.hid (Outbox.fit_any _ 1 1 [⟨x0, x1, x2, x3, x4, x5, x6⟩] (by omega) f (by rw [fitB_one]; exact hf) (w2.alloc (.cells #[.int .i64 x0, .int .i64 x1, .int .i64 x2, .bool x3, .int .i64 x4, .int .i64 x5, .bool x6] 23)) (Rw.one_at enS w2 ⟨x0, x1, x2, x3, x4, x5, x6⟩))
  clear hf
  have HW2 : Hid (w2.heap.size < (w2.alloc (.cells #[.int .i64 x0, .int .i64 x1, .int .i64 x2, .bool x3, .int .i64 x4, .int .i64 x5, .bool x6] 23)).heap.size) := by show _ < _; rw [World.size_alloc]; omega
  obtain ⟨u, hu⟩ : ∃ u, w2.alloc (.cells #[.int .i64 x0, .int .i64 x1, .int .i64 x2, .bool x3, .int .i64 x4, .int .i64 x5, .bool x6] 23) = u := ⟨_, rfl⟩
  rw [hu] at HB2 CF HW2
  have HU := Lib.hid hu
  clear hu
  go_wp2_with fail
  rw [show w2.alloc (.cells #[.int .i64 x0, .int .i64 x1, .int .i64 x2, .bool x3, .int .i64 x4, .int .i64 x5, .bool x6] 23) = u from HU.out]
  refine CF.out.mono ?_
  rintro e w3 ⟨rfl, hb⟩
  have HB3 := Lib.hid (HB2.out.keep hb)
  clear hb q0 q1 q2 q3 q4 q5 q6 q7 q8 q9 q10 q11 q12 q13 q14 q15 q16
  obtain ⟨q0, q1, q2, q3, q4, q5, q6, q7, q8, q9, q10, q11, q12, q13, q14, q15, q16⟩ := cells17 HB3.out.box
  have eq := fun W => eql_r r0 r1 r2 r3 r4 r5 r6 0 0 0 0 false 0 0 W
  have gd := fun x y u v W => guard_r .eql x y u v W
  cases f with
  | true =>
    go_wp2_with fail
    go_ret
    exact ⟨ret_bool HR.out, HB3.out.bel⟩
  | false =>
    go_wp2_with fail
    go_ret
    exact ⟨ret_bool HR.out, HB3.out.bel⟩

set_option maxHeartbeats 4000000 in
theorem fit_told (n0 : Int) (n2 : Int) (x0 : Int) (x1 : Int) (x2 : Int) (x3 : Bool) (x4 : Int) (x5 : Int) (x6 : Bool) (r0 : Int) (r1 : Int) (r2 : Int) (r3 : Int) (r4 : Bool) (r5 : Int) (r6 : Int) (v : Bool) (s : Int) (hs : svcV ⟨n0, false, n2, ⟨x0, x1, x2, x3, x4, x5, x6⟩, ⟨r0, r1, r2, r3, r4, r5, r6⟩⟩ = s) (h0 : numV n0 = true) (hne : (n2 != s) = false) (f : Bool) (hf : fitR ⟨r0, r1, r2, r3, r4, r5, r6⟩ = f) (HR : Hid (v = (f && MsgP.eqE ⟨x0, x1, x2, x3, x4, x5, x6⟩ en0))) (w : World) : Calls Try.prog 8 #[vv n0 false n2 x0 x1 x2 x3 x4 x5 x6 r0 r1 r2 r3 r4 r5 r6] w fun e w' => e = .returned (.bool v) ∧ Below w.heap.size w w' := by
  have HB0 := Lib.hid (bx17_new 27 w (.int .i64 n0) (.bool false) (.int .i64 n2) (.int .i64 x0) (.int .i64 x1) (.int .i64 x2) (.bool x3) (.int .i64 x4) (.int .i64 x5) (.bool x6) (.int .i64 r0) (.int .i64 r1) (.int .i64 r2) (.int .i64 r3) (.bool r4) (.int .i64 r5) (.int .i64 r6))
  obtain ⟨w1, hw1⟩ : ∃ w1, w.alloc (.cells #[.int .i64 n0, .bool false, .int .i64 n2, .int .i64 x0, .int .i64 x1, .int .i64 x2, .bool x3, .int .i64 x4, .int .i64 x5, .bool x6, .int .i64 r0, .int .i64 r1, .int .i64 r2, .int .i64 r3, .bool r4, .int .i64 r5, .int .i64 r6] 27) = w1 := ⟨_, rfl⟩
  rw [hw1] at HB0
  have HW := Lib.hid hw1
  clear hw1
  obtain ⟨q0, q1, q2, q3, q4, q5, q6, q7, q8, q9, q10, q11, q12, q13, q14, q15, q16⟩ := cells17 HB0.out.box
  have LQ := Lib.hid (fun (W : World) (hW : ∃ p : Regrown, W = Sort.grow (redrawn w1 p.d) p.os) => (by obtain ⟨p, rfl⟩ := hW; exact (HB0.out.keep (below_regrown w1 p.d p.os)).box : At17 27 W w.heap.size (.int .i64 n0) (.bool false) (.int .i64 n2) (.int .i64 x0) (.int .i64 x1) (.int .i64 x2) (.bool x3) (.int .i64 x4) (.int .i64 x5) (.bool x6) (.int .i64 r0) (.int .i64 r1) (.int .i64 r2) (.int .i64 r3) (.bool r4) (.int .i64 r5) (.int .i64 r6)))
  have c0 := fun d os => cell_regrown q0 d os
  have c2 := fun d os => cell_regrown q2 d os
  have C0 := Lib.hid (fun d os => Calls.regrown_of (number_below n0 true h0 (Sort.grow (redrawn w1 d) os)))
  have C1 := Lib.hid (fun d os => Calls.regrown_of (service_is n0 false n2 x0 x1 x2 x3 x4 x5 x6 r0 r1 r2 r3 r4 r5 r6 s hs (Sort.grow (redrawn w1 d) os)))
  clear q0 q1 q2 q3 q4 q5 q6 q7 q8 q9 q10 q11 q12 q13 q14 q15 q16
  go_enter Try.func8, Try.ntmps8
  go_wp2_with fail
  rw [show w.alloc (.cells #[.int .i64 n0, .bool false, .int .i64 n2, .int .i64 x0, .int .i64 x1, .int .i64 x2, .bool x3, .int .i64 x4, .int .i64 x5, .bool x6, .int .i64 r0, .int .i64 r1, .int .i64 r2, .int .i64 r3, .bool r4, .int .i64 r5, .int .i64 r6] 27) = w1 from HW.out]
  refine wp_region_qw (by kernel_rfl) (by kernel_rfl) ?_
  iterate 7 (refine qw_take (by kernel_rfl) (fun K hK => ?_); go_simp; first | (refine hK _ ?_; clear hK K) | (apply Exists.intro; refine ⟨fun _ => ?_, hK _ ?_⟩; (first | with_reducible exact C0.out _ _ | with_reducible exact C1.out _ _); clear hK K))
  refine qw17 LQ.out (.tmp 1) (by kernel_rfl) rfl rfl ?_
  simp only [Act.put, List.setIfInBounds_toArray, List.set_cons_succ, List.set_cons_zero]
  iterate 3 (refine qw_take (by kernel_rfl) (fun K hK => ?_); go_simp; first | (refine hK _ ?_; clear hK K) | (apply Exists.intro; refine ⟨fun _ => ?_, hK _ ?_⟩; (first | with_reducible exact C0.out _ _ | with_reducible exact C1.out _ _); clear hK K))
  refine qw_nil ?_
  intro _ hw'
  obtain ⟨⟨dq, osq⟩, hw''⟩ := hw'
  subst hw''
  clear c0 c2 LQ
  have HB1 := Lib.hid (Bx17.regrown HB0.out dq osq)
  generalize Sort.grow (redrawn w1 dq) osq = w2 at *
  obtain ⟨q0, q1, q2, q3, q4, q5, q6, q7, q8, q9, q10, q11, q12, q13, q14, q15, q16⟩ := cells17 HB1.out.box
  have CF := Lib.hid (fitr_is r0 r1 r2 r3 r4 r5 r6 f hf w2)
  clear hf
  go_wp2_with fail
  refine CF.out.mono ?_
  rintro e w3 ⟨rfl, hb⟩
  have HB3 := Lib.hid (HB1.out.keep hb)
  clear hb q0 q1 q2 q3 q4 q5 q6 q7 q8 q9 q10 q11 q12 q13 q14 q15 q16
  obtain ⟨q0, q1, q2, q3, q4, q5, q6, q7, q8, q9, q10, q11, q12, q13, q14, q15, q16⟩ := cells17 HB3.out.box
  have eq := fun W => Outbox.eql_en x0 x1 x2 x3 x4 x5 x6 0 0 0 false 0 0 false W
  have gd := fun x y u v W => guard_e .eql x y u v W
  cases f with
  | true =>
    go_wp2_with fail
    go_ret
    exact ⟨ret_bool HR.out, HB3.out.bel⟩
  | false =>
    go_wp2_with fail
    go_ret
    exact ⟨ret_bool HR.out, HB3.out.bel⟩

theorem fit_is (n0 : Int) (n1 : Bool) (n2 : Int) (x0 : Int) (x1 : Int) (x2 : Int) (x3 : Bool) (x4 : Int) (x5 : Int) (x6 : Bool) (r0 : Int) (r1 : Int) (r2 : Int) (r3 : Int) (r4 : Bool) (r5 : Int) (r6 : Int) (v : Bool) (hv : fitV ⟨n0, n1, n2, ⟨x0, x1, x2, x3, x4, x5, x6⟩, ⟨r0, r1, r2, r3, r4, r5, r6⟩⟩ = v) (w : World) : Calls Try.prog 8 #[vv n0 n1 n2 x0 x1 x2 x3 x4 x5 x6 r0 r1 r2 r3 r4 r5 r6] w fun e w' => e = .returned (.bool v) ∧ Below w.heap.size w w' := by
  rw [fitV_split] at hv
  obtain ⟨s, hs⟩ : ∃ s, svcV ⟨n0, n1, n2, ⟨x0, x1, x2, x3, x4, x5, x6⟩, ⟨r0, r1, r2, r3, r4, r5, r6⟩⟩ = s := ⟨_, rfl⟩
  rw [hs] at hv
  cases h0 : numV n0 with
  | false => exact fit_num n0 n1 n2 x0 x1 x2 x3 x4 x5 x6 r0 r1 r2 r3 r4 r5 r6 v h0 (by rw [h0] at hv; exact Lib.hid hv.symm) w
  | true =>
  by_cases h1 : n2 = s
  · have hne : (n2 != s) = false := by simp [h1]
    rw [h0, decide_eq_true h1, Bool.true_and, Bool.true_and] at hv
    cases n1 with
    | true => exact fit_asked n0  n2 x0 x1 x2 x3 x4 x5 x6 r0 r1 r2 r3 r4 r5 r6 v s hs h0 hne _ rfl (Lib.hid hv.symm) w
    | false => exact fit_told n0  n2 x0 x1 x2 x3 x4 x5 x6 r0 r1 r2 r3 r4 r5 r6 v s hs h0 hne _ rfl (Lib.hid hv.symm) w
  · rw [h0, decide_eq_false h1] at hv
    exact fit_svc n0 n1 n2 x0 x1 x2 x3 x4 x5 x6 r0 r1 r2 r3 r4 r5 r6 v s hs h0 (bne_iff_ne.2 h1) (Lib.hid hv.symm) w
end Go.Proofs.Ytamcidlkbhanfaa.Msg
