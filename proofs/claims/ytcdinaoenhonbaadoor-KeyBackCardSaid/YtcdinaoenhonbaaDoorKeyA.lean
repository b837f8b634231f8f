/-
  A key in memory; the contracts of the law's of, of both Fits and of both Belows: any keys; what was there stays as it was.
-/
import Derived.Test.YtcdinaoenhonbaaDoorKeyProg
import Derived.Test.YtcdinaoenhonbaaDoorNumA
import Derived.Test.YtcdinaoenhonbaaDoorKt
import Derived.ChangeKeysEq
set_option linter.unusedVariables false
set_option linter.unusedSimpArgs false
set_option maxRecDepth 4000
namespace Go.Proofs.YtcdinaoenhonbaaDoor.Key
open Go.RowKit KeyP
open Go.Proofs.YtcdinaoenhonbaaDoor.Kt

abbrev kv (x0 x1 : Int) (x2 : Bool) : Value := .agg #[.int .i64 x0, .int .i64 x1, .bool x2]
def kyV (k : Ky) : Value := kv k.saga k.step k.back
theorem ky_split (k : Ky) : ∃ x0 x1 x2, k = ⟨x0, x1, x2⟩ := ⟨k.saga, k.step, k.back, rfl⟩

/-- The results of a function whose first result stands in a cell. -/
theorem results_k1 {fn : Func} {j k : Nat} (h : fn.results = #[.cell j 25, .tmp k]) (tmps : Array Value) (w : World) (b : Nat) (v0 v1 v2 : Value) (hp : tmps.getD j undef = .pointer (some ⟨b, 0, none⟩))
    (c : At3 25 w b v0 v1 v2) : (results fn tmps).run Tryd.prog w = .ok (.tuple #[.agg #[v0, v1, v2], tmps.getD k undef]) w := by
  have hp' : tmps[j]?.getD undef = .pointer (some ⟨b, 0, none⟩) := by rw [← hp]; simp
  obtain ⟨c0, c1, c2⟩ := cells3 c
  simp only [results, h]
  go_simp

/-- The results of a function whose first result stands in a cell. -/
theorem results_k2 {fn : Func} {j k : Nat} (h : fn.results = #[.cell j 23, .tmp k]) (tmps : Array Value) (w : World) (b : Nat) (v0 v1 v2 : Value) (hp : tmps.getD j undef = .pointer (some ⟨b, 0, none⟩))
    (c : At3 23 w b v0 v1 v2) : (results fn tmps).run Tryd.prog w = .ok (.tuple #[.agg #[v0, v1, v2], tmps.getD k undef]) w := by
  have hp' : tmps[j]?.getD undef = .pointer (some ⟨b, 0, none⟩) := by rw [← hp]; simp
  obtain ⟨c0, c1, c2⟩ := cells3 c
  simp only [results, h]
  go_simp

/-- The result of a function whose only result stands in a cell. -/
theorem results_c1 {fn : Func} {j : Nat} (h : fn.results = #[.cell j 25]) (tmps : Array Value) (w : World) (b : Nat) (v0 v1 v2 : Value) (hp : tmps.getD j undef = .pointer (some ⟨b, 0, none⟩))
    (c : At3 25 w b v0 v1 v2) : (results fn tmps).run Tryd.prog w = .ok (.agg #[v0, v1, v2]) w := by
  have hp' : tmps[j]?.getD undef = .pointer (some ⟨b, 0, none⟩) := by rw [← hp]; simp
  obtain ⟨c0, c1, c2⟩ := cells3 c
  simp only [results, h]
  go_simp
/-- The model's comparison of two keys. -/
theorem eqin_ky (x0 x1 : Int) (x2 : Bool) (y0 y1 : Int) (y2 : Bool) (w : World) : (Op.equalIn 10000 25 (kv x0 x1 x2) (kv y0 y1 y2)).run Tryd.prog w = .ok (eqK ⟨x0, x1, x2⟩ ⟨y0, y1, y2⟩) w := by
  have hS : Tryd.prog.underlying 25 = some (.struct (Tryd.prog.fieldsOf 25)) := by kernel_rfl
  have hp : Tryd.prog.stoodInHeld 25 = false := by kernel_rfl
  have u3 := Tryd.underlying3
  have a3 := Tryd.isAgg3
  have z3 := Tryd.sizeOf3
  have u4 := Tryd.underlying4
  have a4 := Tryd.isAgg4
  have z4 := Tryd.sizeOf4
  rw [show (10000 : Nat) = 9999 + 1 from rfl, run_equalIn_agg w 9999 25 _ _ hS hp]
  simp only [Program.fieldsOf, Tryd.underlying25]
  go_simp
  unfold eqK
  by_cases h0 : x0 = y0
  · by_cases h1 : x1 = y1
    · cases x2 <;> cases y2 <;> simp [h0, h1]
    · simp [h0, h1]
  · simp [h0]
theorem neq_ky (x0 x1 : Int) (x2 : Bool) (y0 y1 : Int) (y2 : Bool) (w : World) : (binOp .neq 25 (kv x0 x1 x2) (kv y0 y1 y2)).run Tryd.prog w = .ok (.bool (!(eqK ⟨x0, x1, x2⟩ ⟨y0, y1, y2⟩))) w := by
  rw [run_neq_struct, eqin_ky]; rfl
theorem eql_ky (x0 x1 : Int) (x2 : Bool) (y0 y1 : Int) (y2 : Bool) (w : World) : (binOp .eql 25 (kv x0 x1 x2) (kv y0 y1 y2)).run Tryd.prog w = .ok (.bool (eqK ⟨x0, x1, x2⟩ ⟨y0, y1, y2⟩)) w := by
  rw [run_eql_struct, eqin_ky]; rfl
theorem guard_ky (p : BinOp) (x y : Operand) (a0 a1 : Int) (a2 : Bool) (y0 y1 : Int) (y2 : Bool) (w : World) : (eqGuard p 25 x y (kv a0 a1 a2) (kv y0 y1 y2)).run Tryd.prog w = .ok () w := run_eqGuard_agg w _ _ _ _ _ _ (by kernel_rfl)
/-- The octets of a list as a text. -/
def bs (l : List UInt8) : ByteArray := ⟨l.toArray⟩
theorem ret_str {s t : ByteArray} (h : s = t) : Ending.returned (.string s) = .returned (.string t) := by rw [h]
theorem bs_data (s : ByteArray) : bs s.data.toList = s := by cases s; simp [bs]
theorem data_bs (l : List UInt8) : (bs l).data.toList = l := by simp [bs]
theorem bs_size (l : List UInt8) : (bs l).size = l.length := by simp [bs, ByteArray.size]
theorem size_list (s : ByteArray) : s.size = s.data.toList.length := Array.length_toList.symm
theorem data_append (a b : ByteArray) : (a ++ b).data.toList = a.data.toList ++ b.data.toList := by
  simp [ByteArray.data_append]
theorem str_bs {s : ByteArray} {l : List UInt8} (h : s.data.toList = l) : s = bs l := by subst h; exact (bs_data s).symm

theorem of_is (x0 x1 : Int) (x2 : Bool) (w : World) : Calls Tryd.prog 10 #[kv x0 x1 x2] w fun e w' => e = .returned (kv x0 x1 x2) ∧ Below w.heap.size w w' := by
  have HB0 := Lib.hid (bx3_new 23 w (.int .i64 x0) (.int .i64 x1) (.bool x2))
  have HB1 := Lib.hid (HB0.out.alloc (.cells #[.int .i64 x0, .int .i64 x1, .bool x2] 25))
  have HY1 := Lib.hid (at3_new 25 (w.alloc (.cells #[.int .i64 x0, .int .i64 x1, .bool x2] 23)) (.int .i64 x0) (.int .i64 x1) (.bool x2))
  have HS : Hid ((w.alloc (.cells #[.int .i64 x0, .int .i64 x1, .bool x2] 23)).heap.size = w.heap.size + 1) := by show _ = _; simp
  obtain ⟨q0, q1, q2⟩ := cells3 (HB0.out.alloc (.cells #[.int .i64 0, .int .i64 0, .bool false] 25)).box
  go_enter Tryd.func10, Tryd.ntmps10
  go_wp2_with fail
  exact bodyPost_ret (results_c1 (j := 2) rfl _ _ (w.heap.size + 1) _ _ _ rfl (by rw [HS.out] at HY1; exact HY1.out)) rfl ⟨rfl, HB1.out.bel⟩

theorem fit_is (x0 x1 : Int) (x2 : Bool) (v : Bool) (hv : fitK ⟨x0, x1, x2⟩ = v) (w : World) : Calls Tryd.prog 9 #[kv x0 x1 x2] w fun e w' => e = .returned (.bool v) ∧ Below w.heap.size w w' := by
  unfold fitK at hv
  dsimp only at hv
  by_cases h0 : 1 ≤ x0
  rotate_left
  · have HR : Hid (v = false) := by show _ = _; rw [← hv]; simp [h0]
    clear hv
    have HB0 := Lib.hid (bx3_new 25 w (.int .i64 x0) (.int .i64 x1) (.bool x2))
    obtain ⟨q0, q1, q2⟩ := cells3 HB0.out.box
    go_enter Tryd.func9, Tryd.ntmps9
    go_wp2_with fail
    go_ret
    exact ⟨ret_bool HR.out, HB0.out.bel⟩
  by_cases h1 : x0 ≤ 1099511627776
  rotate_left
  · have HR : Hid (v = false) := by show _ = _; rw [← hv]; simp [h1]
    clear hv
    have HB0 := Lib.hid (bx3_new 25 w (.int .i64 x0) (.int .i64 x1) (.bool x2))
    obtain ⟨q0, q1, q2⟩ := cells3 HB0.out.box
    go_enter Tryd.func9, Tryd.ntmps9
    go_wp2_with fail
    go_ret
    exact ⟨ret_bool HR.out, HB0.out.bel⟩
  by_cases h2 : 0 ≤ x1
  rotate_left
  · have HR : Hid (v = false) := by show _ = _; rw [← hv]; simp [h2]
    clear hv
    have HB0 := Lib.hid (bx3_new 25 w (.int .i64 x0) (.int .i64 x1) (.bool x2))
    obtain ⟨q0, q1, q2⟩ := cells3 HB0.out.box
    go_enter Tryd.func9, Tryd.ntmps9
    go_wp2_with fail
    go_ret
    exact ⟨ret_bool HR.out, HB0.out.bel⟩
  have HR : Hid (v = decide (x1 < 6)) := by show _ = _; rw [← hv]; simp [h0, h1, h2]
  clear hv
  have HB0 := Lib.hid (bx3_new 25 w (.int .i64 x0) (.int .i64 x1) (.bool x2))
  obtain ⟨q0, q1, q2⟩ := cells3 HB0.out.box
  go_enter Tryd.func9, Tryd.ntmps9
  go_wp2_with fail
  go_ret
  exact ⟨ret_bool HR.out, HB0.out.bel⟩

theorem rfit_is (x0 x1 : Int) (x2 : Bool) (v : Bool) (hv : fitK ⟨x0, x1, x2⟩ = v) (w : World) : Calls Tryd.prog 11 #[kv x0 x1 x2] w fun e w' => e = .returned (.bool v) ∧ Below w.heap.size w w' := by
  unfold fitK at hv
  dsimp only at hv
  by_cases h0 : 1 ≤ x0
  rotate_left
  · have HR : Hid (v = false) := by show _ = _; rw [← hv]; simp [h0]
    clear hv
    have HB0 := Lib.hid (bx3_new 23 w (.int .i64 x0) (.int .i64 x1) (.bool x2))
    obtain ⟨q0, q1, q2⟩ := cells3 HB0.out.box
    go_enter Tryd.func11, Tryd.ntmps11
    go_wp2_with fail
    go_ret
    exact ⟨ret_bool HR.out, HB0.out.bel⟩
  by_cases h1 : x0 ≤ 1099511627776
  rotate_left
  · have HR : Hid (v = false) := by show _ = _; rw [← hv]; simp [h1]
    clear hv
    have HB0 := Lib.hid (bx3_new 23 w (.int .i64 x0) (.int .i64 x1) (.bool x2))
    obtain ⟨q0, q1, q2⟩ := cells3 HB0.out.box
    go_enter Tryd.func11, Tryd.ntmps11
    go_wp2_with fail
    go_ret
    exact ⟨ret_bool HR.out, HB0.out.bel⟩
  by_cases h2 : 0 ≤ x1
  rotate_left
  · have HR : Hid (v = false) := by show _ = _; rw [← hv]; simp [h2]
    clear hv
    have HB0 := Lib.hid (bx3_new 23 w (.int .i64 x0) (.int .i64 x1) (.bool x2))
    obtain ⟨q0, q1, q2⟩ := cells3 HB0.out.box
    go_enter Tryd.func11, Tryd.ntmps11
    go_wp2_with fail
    go_ret
    exact ⟨ret_bool HR.out, HB0.out.bel⟩
  have HR : Hid (v = decide (x1 < 6)) := by show _ = _; rw [← hv]; simp [h0, h1, h2]
  clear hv
  have HB0 := Lib.hid (bx3_new 23 w (.int .i64 x0) (.int .i64 x1) (.bool x2))
  obtain ⟨q0, q1, q2⟩ := cells3 HB0.out.box
  go_enter Tryd.func11, Tryd.ntmps11
  go_wp2_with fail
  go_ret
  exact ⟨ret_bool HR.out, HB0.out.bel⟩

set_option maxHeartbeats 2000000 in
theorem below_is (x0 x1 : Int) (x2 : Bool) (y0 y1 : Int) (y2 : Bool) (v : Bool) (hv : belowK ⟨x0, x1, x2⟩ ⟨y0, y1, y2⟩ = v) (w : World) : Calls Tryd.prog 14 #[kv x0 x1 x2, kv y0 y1 y2] w fun e w' => e = .returned (.bool v) ∧ Below w.heap.size w w' := by
  cases hq : eqK ⟨x0, x1, x2⟩ ⟨y0, y1, y2⟩ with
  | true =>
    have HR : Hid (v = false) := by show _ = _; rw [← hv]; rcases below_one ⟨x0, x1, x2⟩ ⟨y0, y1, y2⟩ with ⟨_, _, h⟩ | ⟨h, _, _⟩ | ⟨h, _, _⟩ <;> first | exact h | (rw [h] at hq; cases hq)
    clear hv
    have HB0 := Lib.hid ((bx3_new 25 w (.int .i64 x0) (.int .i64 x1) (.bool x2)).alloc (.cells #[.int .i64 y0, .int .i64 y1, .bool y2] 25))
    have HY0 := Lib.hid (at3_new 25 (w.alloc (.cells #[.int .i64 x0, .int .i64 x1, .bool x2] 25)) (.int .i64 y0) (.int .i64 y1) (.bool y2))
    rw [World.size_alloc] at HY0
    obtain ⟨q0, q1, q2⟩ := cells3 HB0.out.box
    obtain ⟨r0, r1, r2⟩ := cells3 HY0.out
    have q5 := fun w => eql_ky x0 x1 x2 y0 y1 y2 w
    rw [hq] at q5
    have q6 := fun a b w => guard_ky .eql a b x0 x1 x2 y0 y1 y2 w
    clear hq
    go_enter Tryd.func14, Tryd.ntmps14
    go_wp2_with fail
    go_ret
    exact ⟨ret_bool HR.out, HB0.out.bel⟩
  | false =>
    by_cases h0 : x0 = y0
    rotate_left
    · have f0 : (x0 != y0) = true := by simpa using h0
      have HR : Hid (v = decide (x0 < y0)) := by show _ = _; rw [← hv]; unfold belowK; simp [h0]
      clear hv h0
      have HB0 := Lib.hid ((bx3_new 25 w (.int .i64 x0) (.int .i64 x1) (.bool x2)).alloc (.cells #[.int .i64 y0, .int .i64 y1, .bool y2] 25))
      have HY0 := Lib.hid (at3_new 25 (w.alloc (.cells #[.int .i64 x0, .int .i64 x1, .bool x2] 25)) (.int .i64 y0) (.int .i64 y1) (.bool y2))
      rw [World.size_alloc] at HY0
      obtain ⟨q0, q1, q2⟩ := cells3 HB0.out.box
      obtain ⟨r0, r1, r2⟩ := cells3 HY0.out
      have q5 := fun w => eql_ky x0 x1 x2 y0 y1 y2 w
      rw [hq] at q5
      have q6 := fun a b w => guard_ky .eql a b x0 x1 x2 y0 y1 y2 w
      clear hq
      go_enter Tryd.func14, Tryd.ntmps14
      go_wp2_with fail
      go_ret
      exact ⟨ret_bool HR.out, HB0.out.bel⟩
    have f0 : (x0 != y0) = false := by simpa using h0
    by_cases h1 : x1 = y1
    rotate_left
    · have f1 : (x1 != y1) = true := by simpa using h1
      have HR : Hid (v = decide (x1 < y1)) := by show _ = _; rw [← hv]; unfold belowK; simp [h0, h1]
      clear hv h1 h0
      have HB0 := Lib.hid ((bx3_new 25 w (.int .i64 x0) (.int .i64 x1) (.bool x2)).alloc (.cells #[.int .i64 y0, .int .i64 y1, .bool y2] 25))
      have HY0 := Lib.hid (at3_new 25 (w.alloc (.cells #[.int .i64 x0, .int .i64 x1, .bool x2] 25)) (.int .i64 y0) (.int .i64 y1) (.bool y2))
      rw [World.size_alloc] at HY0
      obtain ⟨q0, q1, q2⟩ := cells3 HB0.out.box
      obtain ⟨r0, r1, r2⟩ := cells3 HY0.out
      have q5 := fun w => eql_ky x0 x1 x2 y0 y1 y2 w
      rw [hq] at q5
      have q6 := fun a b w => guard_ky .eql a b x0 x1 x2 y0 y1 y2 w
      clear hq
      go_enter Tryd.func14, Tryd.ntmps14
      go_wp2_with fail
      go_ret
      exact ⟨ret_bool HR.out, HB0.out.bel⟩
    have f1 : (x1 != y1) = false := by simpa using h1
    have HR : Hid (v = y2) := by
      show _ = _
      rw [← hv]
      unfold belowK
      unfold eqK at hq
      simp only [h0, h1, ne_eq, not_true_eq_false, if_false]
      simp only [h0, h1] at hq
      cases x2 <;> cases y2 <;> simp_all
    clear hv h1 h0
    have HB0 := Lib.hid ((bx3_new 25 w (.int .i64 x0) (.int .i64 x1) (.bool x2)).alloc (.cells #[.int .i64 y0, .int .i64 y1, .bool y2] 25))
    have HY0 := Lib.hid (at3_new 25 (w.alloc (.cells #[.int .i64 x0, .int .i64 x1, .bool x2] 25)) (.int .i64 y0) (.int .i64 y1) (.bool y2))
    rw [World.size_alloc] at HY0
    obtain ⟨q0, q1, q2⟩ := cells3 HB0.out.box
    obtain ⟨r0, r1, r2⟩ := cells3 HY0.out
    have q5 := fun w => eql_ky x0 x1 x2 y0 y1 y2 w
    rw [hq] at q5
    have q6 := fun a b w => guard_ky .eql a b x0 x1 x2 y0 y1 y2 w
    clear hq
    go_enter Tryd.func14, Tryd.ntmps14
    go_wp2_with fail
    go_ret
    exact ⟨ret_bool HR.out, HB0.out.bel⟩

set_option maxHeartbeats 2000000 in
theorem rbelow_is (x0 x1 : Int) (x2 : Bool) (y0 y1 : Int) (y2 : Bool) (v : Bool) (hv : belowK ⟨x0, x1, x2⟩ ⟨y0, y1, y2⟩ = v) (w : World) : Calls Tryd.prog 15 #[kv x0 x1 x2, kv y0 y1 y2] w fun e w' => e = .returned (.bool v) ∧ Below w.heap.size w w' := by
  by_cases h0 : x0 = y0
  rotate_left
  · have f0 : (x0 != y0) = true := by simpa using h0
    have HR : Hid (v = decide (x0 < y0)) := by show _ = _; rw [← hv]; unfold belowK; simp [h0]
    clear hv h0
    have HB0 := Lib.hid ((bx3_new 23 w (.int .i64 x0) (.int .i64 x1) (.bool x2)).alloc (.cells #[.int .i64 y0, .int .i64 y1, .bool y2] 23))
    have HY0 := Lib.hid (at3_new 23 (w.alloc (.cells #[.int .i64 x0, .int .i64 x1, .bool x2] 23)) (.int .i64 y0) (.int .i64 y1) (.bool y2))
    rw [World.size_alloc] at HY0
    obtain ⟨q0, q1, q2⟩ := cells3 HB0.out.box
    obtain ⟨r0, r1, r2⟩ := cells3 HY0.out
    go_enter Tryd.func15, Tryd.ntmps15
    go_wp2_with fail
    go_ret
    exact ⟨ret_bool HR.out, HB0.out.bel⟩
  have f0 : (x0 != y0) = false := by simpa using h0
  by_cases h1 : x1 = y1
  rotate_left
  · have f1 : (x1 != y1) = true := by simpa using h1
    have HR : Hid (v = decide (x1 < y1)) := by show _ = _; rw [← hv]; unfold belowK; simp [h0, h1]
    clear hv h1 h0
    have HB0 := Lib.hid ((bx3_new 23 w (.int .i64 x0) (.int .i64 x1) (.bool x2)).alloc (.cells #[.int .i64 y0, .int .i64 y1, .bool y2] 23))
    have HY0 := Lib.hid (at3_new 23 (w.alloc (.cells #[.int .i64 x0, .int .i64 x1, .bool x2] 23)) (.int .i64 y0) (.int .i64 y1) (.bool y2))
    rw [World.size_alloc] at HY0
    obtain ⟨q0, q1, q2⟩ := cells3 HB0.out.box
    obtain ⟨r0, r1, r2⟩ := cells3 HY0.out
    go_enter Tryd.func15, Tryd.ntmps15
    go_wp2_with fail
    go_ret
    exact ⟨ret_bool HR.out, HB0.out.bel⟩
  have f1 : (x1 != y1) = false := by simpa using h1
  cases x2 with
  | false =>
    have HR : Hid (v = y2) := by show _ = _; rw [← hv]; unfold belowK; simp [h0, h1]
    clear hv h1 h0
    have HB0 := Lib.hid ((bx3_new 23 w (.int .i64 x0) (.int .i64 x1) (.bool false)).alloc (.cells #[.int .i64 y0, .int .i64 y1, .bool y2] 23))
    have HY0 := Lib.hid (at3_new 23 (w.alloc (.cells #[.int .i64 x0, .int .i64 x1, .bool false] 23)) (.int .i64 y0) (.int .i64 y1) (.bool y2))
    rw [World.size_alloc] at HY0
    obtain ⟨q0, q1, q2⟩ := cells3 HB0.out.box
    obtain ⟨r0, r1, r2⟩ := cells3 HY0.out
    go_enter Tryd.func15, Tryd.ntmps15
    go_wp2_with fail
    go_ret
    exact ⟨ret_bool HR.out, HB0.out.bel⟩
  | true =>
    have HR : Hid (v = false) := by show _ = _; rw [← hv]; unfold belowK; simp [h0, h1]
    clear hv h1 h0
    have HB0 := Lib.hid ((bx3_new 23 w (.int .i64 x0) (.int .i64 x1) (.bool true)).alloc (.cells #[.int .i64 y0, .int .i64 y1, .bool y2] 23))
    have HY0 := Lib.hid (at3_new 23 (w.alloc (.cells #[.int .i64 x0, .int .i64 x1, .bool true] 23)) (.int .i64 y0) (.int .i64 y1) (.bool y2))
    rw [World.size_alloc] at HY0
    obtain ⟨q0, q1, q2⟩ := cells3 HB0.out.box
    obtain ⟨r0, r1, r2⟩ := cells3 HY0.out
    go_enter Tryd.func15, Tryd.ntmps15
    go_wp2_with fail
    go_ret
    exact ⟨ret_bool HR.out, HB0.out.bel⟩
end Go.Proofs.YtcdinaoenhonbaaDoor.Key
