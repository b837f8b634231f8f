/-
  StepTells; what was there stays as it was.
-/
import Derived.Test.YtaffjecnpclliaaDoorStepJ
set_option linter.unusedVariables false
set_option linter.unusedSimpArgs false
set_option maxRecDepth 4000
namespace Go.Proofs.YtaffjecnpclliaaDoor.Step
open Go.RowKit StP
open Go.Proofs.YtaffjecnpclliaaDoor.Kt

set_option maxHeartbeats 8000000 in
theorem tells_any (x0 x1 x2 x3 x4 x5 : Int) (k : Int) (hk : k ≤ 9223372036854775807) (w : World) (hv : Vars w) : Calls Tryd.prog 3 #[.agg #[.int .i64 x0, .int .i64 x1, .int .i64 x2, .int .i64 x3, .int .i64 x4, .int .i64 x5], .int .i64 k] w fun e w' => e = .returned (.bool true) ∧ Below w.heap.size w w' := by
  have hB0 := bx6_new 23 w (.int .i64 x0) (.int .i64 x1) (.int .i64 x2) (.int .i64 x3) (.int .i64 x4) (.int .i64 x5)
  obtain ⟨w0, hw0⟩ : ∃ w0, w.alloc (.cells #[.int .i64 x0, .int .i64 x1, .int .i64 x2, .int .i64 x3, .int .i64 x4, .int .i64 x5] 23) = w0 := ⟨_, rfl⟩
  rw [hw0] at hB0
  have HW := Lib.hid hw0
  have HB0 := Lib.hid hB0
  have HV := Lib.hid (fun W (hb : Below w.heap.size w W) => hv.keep hb)
  obtain ⟨f, hf⟩ : ∃ f, fitS ⟨x0, x1, x2, x3, x4, x5⟩ = f := ⟨_, rfl⟩
  obtain ⟨u, hu⟩ : ∃ u, (!(serviceV x0 == 0)) = u := ⟨_, rfl⟩
  obtain ⟨m, hm⟩ : ∃ m, (x1 == 3) = m := ⟨_, rfl⟩
  obtain ⟨t, ht⟩ : ∃ t, bs (textS ⟨x0, x1, x2, x3, x4, x5⟩) = t := ⟨_, rfl⟩
  obtain ⟨q, hq⟩ : ∃ q, BackP.delayV x3 x4 k = q := ⟨_, rfl⟩
  have C0 := Lib.hid (fun d os => Calls.regrown_of (fit_is x0 x1 x2 x3 x4 x5 f hf (Sort.grow (redrawn w0 d) os)))
  have C1 := Lib.hid (fun d os => Calls.regrown_of (rfit_is x0 x1 x2 x3 x4 x5 f hf (Sort.grow (redrawn w0 d) os)))
  have C2 := Lib.hid (fun d os => Calls.regrown_of (outside_is x0 x1 x2 x3 x4 x5 u hu (Sort.grow (redrawn w0 d) os)))
  have C3 := Lib.hid (fun d os => Calls.regrown_of (routside_is x0 x1 x2 x3 x4 x5 u hu (Sort.grow (redrawn w0 d) os)))
  have C4 := Lib.hid (fun d os => Calls.regrown_of (must_is x0 x1 x2 x3 x4 x5 m hm (Sort.grow (redrawn w0 d) os)))
  have C5 := Lib.hid (fun d os => Calls.regrown_of (text_is x0 x1 x2 x3 x4 x5 t ht (Sort.grow (redrawn w0 d) os) (HV.out (Sort.grow (redrawn w0 d) os) (below_keep HB0.out.bel (below_regrown w0 d os) HB0.out.bel.size))))
  have C6 := Lib.hid (fun d os => Calls.regrown_of (rtext_is x0 x1 x2 x3 x4 x5 t ht (Sort.grow (redrawn w0 d) os)))
  have C7 := Lib.hid (fun d os => Calls.regrown_of (delay_is x0 x1 x2 x3 x4 x5 k hk q hq (Sort.grow (redrawn w0 d) os)))
  have C8 := Lib.hid (fun d os => Calls.regrown_of (rdelay_is x0 x1 x2 x3 x4 x5 k hk q hq (Sort.grow (redrawn w0 d) os)))
  have C9 := Lib.hid (fun d os => Calls.regrown_of (awake_any (Sort.grow (redrawn w0 d) os) (HV.out (Sort.grow (redrawn w0 d) os) (below_keep HB0.out.bel (below_regrown w0 d os) HB0.out.bel.size))))
  obtain ⟨k0, k1, k2, k3, k4, k5⟩ := cells6 HB0.out.box
  have c0 := fun d os => cell_regrown k0 d os
  have c1 := fun d os => cell_regrown k1 d os
  have c2 := fun d os => cell_regrown k2 d os
  have c3 := fun d os => cell_regrown k3 d os
  have c4 := fun d os => cell_regrown k4 d os
  have c5 := fun d os => cell_regrown k5 d os
  have hff : (f == f) = true := by simp
  have huu : (u == u) = true := by simp
  have hmm : (m == m) = true := by simp
  have htt : (t.toList == t.toList) = true := by simp
  have hqq : (q == q) = true := by simp
  clear hw0 hB0 hv hf hu ht hq k0 k1 k2 k3 k4 k5
  go_enter Tryd.func3, Tryd.ntmps3
  go_wp2_with fail
  rw [show w.alloc (.cells #[.int .i64 x0, .int .i64 x1, .int .i64 x2, .int .i64 x3, .int .i64 x4, .int .i64 x5] 23) = w0 from HW.out]
  go_wp2_with fail
  refine wp_region_qw (by kernel_rfl) (by kernel_rfl) ?_
  iterate 40 (refine qw_take (by kernel_rfl) (fun K hK => ?_); go_simp; first | (refine hK _ ?_; clear hK K) | (apply Exists.intro; refine ⟨fun _ => ?_, hK _ ?_⟩; (first | with_reducible exact C0.out _ _ | with_reducible exact C1.out _ _ | with_reducible exact C2.out _ _ | with_reducible exact C3.out _ _ | with_reducible exact C4.out _ _ | with_reducible exact C5.out _ _ | with_reducible exact C6.out _ _ | with_reducible exact C7.out _ _ | with_reducible exact C8.out _ _ | with_reducible exact C9.out _ _); clear hK K))
  refine qw_nil ?_
  intro _ hw'
  obtain ⟨⟨dq, osq⟩, hw''⟩ := hw'
  subst hw''
  have HBL := Lib.hid (below_keep HB0.out.bel (below_regrown w0 dq osq) HB0.out.bel.size)
  clear C0 C1 C2 C3 C4 C5 C6 C7 C8 C9 c0 c1 c2 c3 c4 c5
  go_wp2_with fail
  go_ret
  exact ⟨rfl, HBL.out⟩
end Go.Proofs.YtaffjecnpclliaaDoor.Step
namespace Go.Proofs.YtaffjecnpclliaaDoor
open Go.RowKit
theorem Contract.stepTells (x0 x1 x2 x3 x4 x5 : Int) (k : Int) (W : World) (hk : (Lit.int .i64 k).wf = true) (ht : Laid W) :
    Calls Tryd.prog 3 #[.agg #[.int .i64 x0, .int .i64 x1, .int .i64 x2, .int .i64 x3, .int .i64 x4, .int .i64 x5], .int .i64 k] W fun e W' => e = .returned (.bool true) ∧ Below W.heap.size W W' :=
  Go.Proofs.YtaffjecnpclliaaDoor.Step.tells_any x0 x1 x2 x3 x4 x5 k (bounds_i64 hk).2 W ht
end Go.Proofs.YtaffjecnpclliaaDoor
