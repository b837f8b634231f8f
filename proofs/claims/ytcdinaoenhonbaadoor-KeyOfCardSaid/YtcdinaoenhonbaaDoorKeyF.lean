/-
  The contracts of OfEntry and OfReply: any entry, any reply; what was there stays as it was.
-/
import Derived.Test.YtcdinaoenhonbaaDoorKeyA
import Derived.Test.YtcdinaoenhonbaaDoorKt7
import Derived.Stop.Asserts
set_option linter.unusedVariables false
set_option linter.unusedSimpArgs false
set_option maxRecDepth 4000
namespace Go.Proofs.YtcdinaoenhonbaaDoor.Key
open Go.RowKit KeyP
open Go.Proofs.YtcdinaoenhonbaaDoor.Kt

theorem entry_key (x0 : Int) (x1 : Int) (x2 : Int) (x3 : Bool) (x4 : Int) (x5 : Int) (x6 : Bool) (w : World) : Calls Tryd.prog 70 #[.agg #[.int .i64 x0, .int .i64 x1, .int .i64 x2, .bool x3, .int .i64 x4, .int .i64 x5, .bool x6]] w fun e w' => e = .returned (kv x1 x2 x3) ∧ Below w.heap.size w w' := by
  have HB0 := Lib.hid (bx7_new 57 w (.int .i64 x0) (.int .i64 x1) (.int .i64 x2) (.bool x3) (.int .i64 x4) (.int .i64 x5) (.bool x6))
  have HB1 := Lib.hid (HB0.out.alloc (.cells #[.int .i64 x1, .int .i64 x2, .bool x3] 25))
  have HY1 := Lib.hid (at3_new 25 (w.alloc (.cells #[.int .i64 x0, .int .i64 x1, .int .i64 x2, .bool x3, .int .i64 x4, .int .i64 x5, .bool x6] 57)) (.int .i64 x1) (.int .i64 x2) (.bool x3))
  have HS : Hid ((w.alloc (.cells #[.int .i64 x0, .int .i64 x1, .int .i64 x2, .bool x3, .int .i64 x4, .int .i64 x5, .bool x6] 57)).heap.size = w.heap.size + 1) := by show _ = _; simp
  obtain ⟨q0, q1, q2, q3, q4, q5, q6⟩ := cells7 (HB0.out.alloc (.cells #[.int .i64 0, .int .i64 0, .bool false] 25)).box
  go_enter Tryd.func70, Tryd.ntmps70
  go_wp2_with fail
  exact bodyPost_ret (results_c1 (j := 2) rfl _ _ (w.heap.size + 1) _ _ _ rfl (by rw [HS.out] at HY1; exact HY1.out)) rfl ⟨rfl, HB1.out.bel⟩
theorem has_entry (v : Value) (xT : TypeId) (w : World) : (Instr.typeAssert (.iface 57 v) xT 64 true).run Tryd.prog w = .ok (.tuple #[.iface 57 v, .bool true]) w :=
  run_typeAssert_hasB Tryd.underlying64 (by kernel_rfl) v xT w
theorem meth_entry (x0 : Int) (x1 : Int) (x2 : Int) (x3 : Bool) (x4 : Int) (x5 : Int) (x6 : Bool) (n : Nat) (w : World) : (method (n + 1) 57 (.agg #[.int .i64 x0, .int .i64 x1, .int .i64 x2, .bool x3, .int .i64 x4, .int .i64 x5, .bool x6]) "drayman/key.key").run Tryd.prog w = .ok (70, .agg #[.int .i64 x0, .int .i64 x1, .int .i64 x2, .bool x3, .int .i64 x4, .int .i64 x5, .bool x6]) w := by kernel_rfl

theorem of_entry (x0 : Int) (x1 : Int) (x2 : Int) (x3 : Bool) (x4 : Int) (x5 : Int) (x6 : Bool) (w : World) : Calls Tryd.prog 25 #[.iface 57 (.agg #[.int .i64 x0, .int .i64 x1, .int .i64 x2, .bool x3, .int .i64 x4, .int .i64 x5, .bool x6])] w fun e w' => e = .returned (kv x1 x2 x3) ∧ Below w.heap.size w w' := by
  have hh := has_entry
  have hm := meth_entry x0 x1 x2 x3 x4 x5 x6
  have HK := Lib.hid (entry_key x0 x1 x2 x3 x4 x5 x6)
  have HR := Lib.hid (bx3_new 25 w (.int .i64 0) (.int .i64 0) (.bool false))
  go_enter Tryd.func25, Tryd.ntmps25
  go_wp2_with fail
  refine (HK.out _).mono ?_
  rintro e w1 ⟨rfl, hb⟩
  have HB1 := Lib.hid (HR.out.keep hb)
  clear hb
  obtain ⟨z0, z1, z2⟩ := cells3 HB1.out.box
  obtain ⟨f0, f1, f2⟩ := free3 HB1.out.box
  have HQ := Lib.hid (heap_put3 HB1.out.box (.int .i64 x1) (.int .i64 x2) (.bool x3))
  have HBQ := Lib.hid (below_put3 HB1.out.bel (Nat.le_refl _) (.int .i64 x1) (.int .i64 x2) (.bool x3))
  go_wp2_with fail
  exact bodyPost_ret (results_c1 (j := 2) rfl _ _ w.heap.size _ _ _ rfl HQ.out) rfl ⟨rfl, HBQ.out⟩

theorem reply_key (x0 : Int) (x1 : Int) (x2 : Int) (x3 : Int) (x4 : Bool) (x5 : Int) (x6 : Int) (w : World) : Calls Tryd.prog 71 #[.agg #[.int .i64 x0, .int .i64 x1, .int .i64 x2, .int .i64 x3, .bool x4, .int .i64 x5, .int .i64 x6]] w fun e w' => e = .returned (kv x2 x3 x4) ∧ Below w.heap.size w w' := by
  have HB0 := Lib.hid (bx7_new 58 w (.int .i64 x0) (.int .i64 x1) (.int .i64 x2) (.int .i64 x3) (.bool x4) (.int .i64 x5) (.int .i64 x6))
  have HB1 := Lib.hid (HB0.out.alloc (.cells #[.int .i64 x2, .int .i64 x3, .bool x4] 25))
  have HY1 := Lib.hid (at3_new 25 (w.alloc (.cells #[.int .i64 x0, .int .i64 x1, .int .i64 x2, .int .i64 x3, .bool x4, .int .i64 x5, .int .i64 x6] 58)) (.int .i64 x2) (.int .i64 x3) (.bool x4))
  have HS : Hid ((w.alloc (.cells #[.int .i64 x0, .int .i64 x1, .int .i64 x2, .int .i64 x3, .bool x4, .int .i64 x5, .int .i64 x6] 58)).heap.size = w.heap.size + 1) := by show _ = _; simp
  obtain ⟨q0, q1, q2, q3, q4, q5, q6⟩ := cells7 (HB0.out.alloc (.cells #[.int .i64 0, .int .i64 0, .bool false] 25)).box
  go_enter Tryd.func71, Tryd.ntmps71
  go_wp2_with fail
  exact bodyPost_ret (results_c1 (j := 2) rfl _ _ (w.heap.size + 1) _ _ _ rfl (by rw [HS.out] at HY1; exact HY1.out)) rfl ⟨rfl, HB1.out.bel⟩
theorem has_reply (v : Value) (xT : TypeId) (w : World) : (Instr.typeAssert (.iface 58 v) xT 64 true).run Tryd.prog w = .ok (.tuple #[.iface 58 v, .bool true]) w :=
  run_typeAssert_hasB Tryd.underlying64 (by kernel_rfl) v xT w
theorem meth_reply (x0 : Int) (x1 : Int) (x2 : Int) (x3 : Int) (x4 : Bool) (x5 : Int) (x6 : Int) (n : Nat) (w : World) : (method (n + 1) 58 (.agg #[.int .i64 x0, .int .i64 x1, .int .i64 x2, .int .i64 x3, .bool x4, .int .i64 x5, .int .i64 x6]) "drayman/key.key").run Tryd.prog w = .ok (71, .agg #[.int .i64 x0, .int .i64 x1, .int .i64 x2, .int .i64 x3, .bool x4, .int .i64 x5, .int .i64 x6]) w := by kernel_rfl

theorem of_reply (x0 : Int) (x1 : Int) (x2 : Int) (x3 : Int) (x4 : Bool) (x5 : Int) (x6 : Int) (w : World) : Calls Tryd.prog 25 #[.iface 58 (.agg #[.int .i64 x0, .int .i64 x1, .int .i64 x2, .int .i64 x3, .bool x4, .int .i64 x5, .int .i64 x6])] w fun e w' => e = .returned (kv x2 x3 x4) ∧ Below w.heap.size w w' := by
  have hh := has_reply
  have hm := meth_reply x0 x1 x2 x3 x4 x5 x6
  have HK := Lib.hid (reply_key x0 x1 x2 x3 x4 x5 x6)
  have HR := Lib.hid (bx3_new 25 w (.int .i64 0) (.int .i64 0) (.bool false))
  go_enter Tryd.func25, Tryd.ntmps25
  go_wp2_with fail
  refine (HK.out _).mono ?_
  rintro e w1 ⟨rfl, hb⟩
  have HB1 := Lib.hid (HR.out.keep hb)
  clear hb
  obtain ⟨z0, z1, z2⟩ := cells3 HB1.out.box
  obtain ⟨f0, f1, f2⟩ := free3 HB1.out.box
  have HQ := Lib.hid (heap_put3 HB1.out.box (.int .i64 x2) (.int .i64 x3) (.bool x4))
  have HBQ := Lib.hid (below_put3 HB1.out.bel (Nat.le_refl _) (.int .i64 x2) (.int .i64 x3) (.bool x4))
  go_wp2_with fail
  exact bodyPost_ret (results_c1 (j := 2) rfl _ _ w.heap.size _ _ _ rfl HQ.out) rfl ⟨rfl, HBQ.out⟩

theorem ofEntry_any (x0 : Int) (x1 : Int) (x2 : Int) (x3 : Bool) (x4 : Int) (x5 : Int) (x6 : Bool) (w : World) : Calls Tryd.prog 16 #[.agg #[.int .i64 x0, .int .i64 x1, .int .i64 x2, .bool x3, .int .i64 x4, .int .i64 x5, .bool x6]] w fun e w' => e = .returned (kv x1 x2 x3) ∧ Below w.heap.size w w' := by
  have HB0 := Lib.hid ((bx7_new 40 w (.int .i64 x0) (.int .i64 x1) (.int .i64 x2) (.bool x3) (.int .i64 x4) (.int .i64 x5) (.bool x6)).alloc (.cells #[.int .i64 0, .int .i64 0, .bool false] 25))
  have HY0 := Lib.hid (at3_new 25 (w.alloc (.cells #[.int .i64 x0, .int .i64 x1, .int .i64 x2, .bool x3, .int .i64 x4, .int .i64 x5, .bool x6] 40)) (.int .i64 0) (.int .i64 0) (.bool false))
  rw [World.size_alloc] at HY0
  obtain ⟨q0, q1, q2, q3, q4, q5, q6⟩ := cells7 HB0.out.box
  have HK := Lib.hid (of_entry x0 x1 x2 x3 x4 x5 x6)
  go_enter Tryd.func16, Tryd.ntmps16
  go_wp2_with fail
  refine (HK.out _).mono ?_
  rintro e w1 ⟨rfl, hb⟩
  have HB1 := Lib.hid (HB0.out.keep hb)
  have HY1 := Lib.hid (HY0.out.keep hb)
  clear hb q0 q1 q2 q3 q4 q5 q6 HK
  obtain ⟨z0, z1, z2⟩ := cells3 HY1.out
  obtain ⟨f0, f1, f2⟩ := free3 HY1.out
  have HQ := Lib.hid (heap_put3 HY1.out (.int .i64 x1) (.int .i64 x2) (.bool x3))
  have HBQ := Lib.hid (below_put3 HB1.out.bel (Nat.le_succ _) (.int .i64 x1) (.int .i64 x2) (.bool x3))
  go_wp2_with fail
  exact bodyPost_ret (results_c1 (j := 2) rfl _ _ (w.heap.size + 1) _ _ _ rfl HQ.out) rfl ⟨rfl, HBQ.out⟩

theorem ofReply_any (x0 : Int) (x1 : Int) (x2 : Int) (x3 : Int) (x4 : Bool) (x5 : Int) (x6 : Int) (w : World) : Calls Tryd.prog 17 #[.agg #[.int .i64 x0, .int .i64 x1, .int .i64 x2, .int .i64 x3, .bool x4, .int .i64 x5, .int .i64 x6]] w fun e w' => e = .returned (kv x2 x3 x4) ∧ Below w.heap.size w w' := by
  have HB0 := Lib.hid ((bx7_new 42 w (.int .i64 x0) (.int .i64 x1) (.int .i64 x2) (.int .i64 x3) (.bool x4) (.int .i64 x5) (.int .i64 x6)).alloc (.cells #[.int .i64 0, .int .i64 0, .bool false] 25))
  have HY0 := Lib.hid (at3_new 25 (w.alloc (.cells #[.int .i64 x0, .int .i64 x1, .int .i64 x2, .int .i64 x3, .bool x4, .int .i64 x5, .int .i64 x6] 42)) (.int .i64 0) (.int .i64 0) (.bool false))
  rw [World.size_alloc] at HY0
  obtain ⟨q0, q1, q2, q3, q4, q5, q6⟩ := cells7 HB0.out.box
  have HK := Lib.hid (of_reply x0 x1 x2 x3 x4 x5 x6)
  go_enter Tryd.func17, Tryd.ntmps17
  go_wp2_with fail
  refine (HK.out _).mono ?_
  rintro e w1 ⟨rfl, hb⟩
  have HB1 := Lib.hid (HB0.out.keep hb)
  have HY1 := Lib.hid (HY0.out.keep hb)
  clear hb q0 q1 q2 q3 q4 q5 q6 HK
  obtain ⟨z0, z1, z2⟩ := cells3 HY1.out
  obtain ⟨f0, f1, f2⟩ := free3 HY1.out
  have HQ := Lib.hid (heap_put3 HY1.out (.int .i64 x2) (.int .i64 x3) (.bool x4))
  have HBQ := Lib.hid (below_put3 HB1.out.bel (Nat.le_succ _) (.int .i64 x2) (.int .i64 x3) (.bool x4))
  go_wp2_with fail
  exact bodyPost_ret (results_c1 (j := 2) rfl _ _ (w.heap.size + 1) _ _ _ rfl HQ.out) rfl ⟨rfl, HBQ.out⟩

end Go.Proofs.YtcdinaoenhonbaaDoor.Key
