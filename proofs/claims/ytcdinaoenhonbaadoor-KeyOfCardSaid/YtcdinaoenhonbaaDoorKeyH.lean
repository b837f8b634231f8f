/-
  KeyOf; what was there stays as it was.
-/
import Derived.Test.YtcdinaoenhonbaaDoorKeyG
import Derived.Test.YtcdinaoenhonbaaDoorKeyF
set_option linter.unusedVariables false
set_option linter.unusedSimpArgs false
set_option maxRecDepth 4000
namespace Go.Proofs.YtcdinaoenhonbaaDoor.Key
open Go.RowKit KeyP
open Go.Proofs.YtcdinaoenhonbaaDoor.Kt

set_option maxHeartbeats 16000000 in
theorem of_law (x0 : Int) (x1 : Int) (x2 : Int) (x3 : Bool) (x4 : Int) (x5 : Int) (x6 : Bool) (y0 : Int) (y1 : Int) (y2 : Int) (y3 : Int) (y4 : Bool) (y5 : Int) (y6 : Int) (w : World) (hv : Laid w) : Calls Tryd.prog 4 #[.agg #[.int .i64 x0, .int .i64 x1, .int .i64 x2, .bool x3, .int .i64 x4, .int .i64 x5, .bool x6], .agg #[.int .i64 y0, .int .i64 y1, .int .i64 y2, .int .i64 y3, .bool y4, .int .i64 y5, .int .i64 y6]] w fun e w' => e = .returned (.bool true) ∧ Below w.heap.size w w' := by
  have HV := Lib.hid (fun W (hb : Below w.heap.size w W) => hv.keep hb)
  have hB0 : Below w.heap.size w ((w.alloc (.cells #[.int .i64 x0, .int .i64 x1, .int .i64 x2, .bool x3, .int .i64 x4, .int .i64 x5, .bool x6] 40)).alloc (.cells #[.int .i64 y0, .int .i64 y1, .int .i64 y2, .int .i64 y3, .bool y4, .int .i64 y5, .int .i64 y6] 42)) := ((Below.refl _ w).alloc (Nat.le_refl _) _).alloc (by simp) _
  have hA0 : At7 40 ((w.alloc (.cells #[.int .i64 x0, .int .i64 x1, .int .i64 x2, .bool x3, .int .i64 x4, .int .i64 x5, .bool x6] 40)).alloc (.cells #[.int .i64 y0, .int .i64 y1, .int .i64 y2, .int .i64 y3, .bool y4, .int .i64 y5, .int .i64 y6] 42)) w.heap.size (.int .i64 x0) (.int .i64 x1) (.int .i64 x2) (.bool x3) (.int .i64 x4) (.int .i64 x5) (.bool x6) := (at7_new 40 w (.int .i64 x0) (.int .i64 x1) (.int .i64 x2) (.bool x3) (.int .i64 x4) (.int .i64 x5) (.bool x6)).alloc _
  have hY0 := at7_new 42 (w.alloc (.cells #[.int .i64 x0, .int .i64 x1, .int .i64 x2, .bool x3, .int .i64 x4, .int .i64 x5, .bool x6] 40)) (.int .i64 y0) (.int .i64 y1) (.int .i64 y2) (.int .i64 y3) (.bool y4) (.int .i64 y5) (.int .i64 y6)
  rw [World.size_alloc] at hY0
  obtain ⟨w0, hw0⟩ : ∃ w0, (w.alloc (.cells #[.int .i64 x0, .int .i64 x1, .int .i64 x2, .bool x3, .int .i64 x4, .int .i64 x5, .bool x6] 40)).alloc (.cells #[.int .i64 y0, .int .i64 y1, .int .i64 y2, .int .i64 y3, .bool y4, .int .i64 y5, .int .i64 y6] 42) = w0 := ⟨_, rfl⟩
  rw [hw0] at hB0 hA0 hY0
  have HW := Lib.hid hw0
  have HB0 := Lib.hid hB0
  have C0 := Lib.hid (fun d os => Calls.regrown_of (ofEntry_any x0 x1 x2 x3 x4 x5 x6 (Sort.grow (redrawn w0 d) os)))
  have C1 := Lib.hid (fun d os => Calls.regrown_of (ofReply_any y0 y1 y2 y3 y4 y5 y6 (Sort.grow (redrawn w0 d) os)))
  have C2 := Lib.hid (fun d os => Calls.regrown_of (awake_any (Sort.grow (redrawn w0 d) os) (HV.out (Sort.grow (redrawn w0 d) os) (below_keep HB0.out (below_regrown w0 d os) HB0.out.size))))
  obtain ⟨a0, a1, a2, a3, a4, a5, a6⟩ := cells7 hA0
  obtain ⟨b0, b1, b2, b3, b4, b5, b6⟩ := cells7 hY0
  have ra0 := fun d os => cell_regrown a0 d os
  have ra1 := fun d os => cell_regrown a1 d os
  have ra2 := fun d os => cell_regrown a2 d os
  have ra3 := fun d os => cell_regrown a3 d os
  have ra4 := fun d os => cell_regrown a4 d os
  have ra5 := fun d os => cell_regrown a5 d os
  have ra6 := fun d os => cell_regrown a6 d os
  have rb0 := fun d os => cell_regrown b0 d os
  have rb1 := fun d os => cell_regrown b1 d os
  have rb2 := fun d os => cell_regrown b2 d os
  have rb3 := fun d os => cell_regrown b3 d os
  have rb4 := fun d os => cell_regrown b4 d os
  have rb5 := fun d os => cell_regrown b5 d os
  have rb6 := fun d os => cell_regrown b6 d os
  have q1 := fun w => eql_ky x1 x2 x3 x1 x2 x3 w
  rw [eqK_refl] at q1
  have q2 := fun w => eql_ky y2 y3 y4 y2 y3 y4 w
  rw [eqK_refl] at q2
  have q3 := fun x y w => guard_ky .eql x y x1 x2 x3 x1 x2 x3 w
  have q4 := fun x y w => guard_ky .eql x y y2 y3 y4 y2 y3 y4 w
  clear hw0 hB0 hA0 hY0 hv a0 a1 a2 a3 a4 a5 a6 b0 b1 b2 b3 b4 b5 b6
  go_enter Tryd.func4, Tryd.ntmps4
  go_wp2_with fail
  rw [show (w.alloc (.cells #[.int .i64 x0, .int .i64 x1, .int .i64 x2, .bool x3, .int .i64 x4, .int .i64 x5, .bool x6] 40)).alloc (.cells #[.int .i64 y0, .int .i64 y1, .int .i64 y2, .int .i64 y3, .bool y4, .int .i64 y5, .int .i64 y6] 42) = w0 from HW.out]
  refine wp_region_qw (by kernel_rfl) (by kernel_rfl) ?_
  iterate 26 (refine qw_take (by kernel_rfl) (fun K hK => ?_); go_simp; first | (refine hK _ ?_; clear hK K) | (apply Exists.intro; refine ⟨fun _ => ?_, hK _ ?_⟩; (first | with_reducible exact C0.out _ _ | with_reducible exact C1.out _ _ | with_reducible exact C2.out _ _); clear hK K))
  refine qw_nil ?_
  intro _ hw'
  obtain ⟨⟨dq, osq⟩, hw''⟩ := hw'
  subst hw''
  have HBL := Lib.hid (below_keep HB0.out (below_regrown w0 dq osq) HB0.out.size)
  clear C0 C1 C2 ra0 ra1 ra2 ra3 ra4 ra5 ra6 rb0 rb1 rb2 rb3 rb4 rb5 rb6
  go_wp2_with fail
  go_ret
  exact ⟨rfl, HBL.out⟩
end Go.Proofs.YtcdinaoenhonbaaDoor.Key
namespace Go.Proofs.YtcdinaoenhonbaaDoor
open Go.RowKit
theorem Contract.keyOf (x0 : Int) (x1 : Int) (x2 : Int) (x3 : Bool) (x4 : Int) (x5 : Int) (x6 : Bool) (y0 : Int) (y1 : Int) (y2 : Int) (y3 : Int) (y4 : Bool) (y5 : Int) (y6 : Int) (W : World) (ht : Laid W) :
    Calls Tryd.prog 4 #[.agg #[.int .i64 x0, .int .i64 x1, .int .i64 x2, .bool x3, .int .i64 x4, .int .i64 x5, .bool x6], .agg #[.int .i64 y0, .int .i64 y1, .int .i64 y2, .int .i64 y3, .bool y4, .int .i64 y5, .int .i64 y6]] W fun e W' => e = .returned (.bool true) ∧ Below W.heap.size W W' :=
  Go.Proofs.YtcdinaoenhonbaaDoor.Key.of_law x0 x1 x2 x3 x4 x5 x6 y0 y1 y2 y3 y4 y5 y6 W ht
end Go.Proofs.YtcdinaoenhonbaaDoor
