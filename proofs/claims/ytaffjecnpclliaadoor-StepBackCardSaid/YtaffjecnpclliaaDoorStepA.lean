/-
  A step in memory; the contracts of Service, Outside, Delay (both), Must, the document's words: any step; what was there stays as it was.
-/
import Derived.Test.YtaffjecnpclliaaDoorStepPlain
import Derived.Test.YtaffjecnpclliaaDoorBackA
import Derived.Test.YtaffjecnpclliaaDoorKt6
import Derived.Test.YtaffjecnpclliaaDoorRw
import Derived.ChangeKeysEq
set_option linter.unusedVariables false
set_option linter.unusedSimpArgs false
set_option maxRecDepth 4000
namespace Go.Proofs.YtaffjecnpclliaaDoor.Step
open Go.RowKit StP
open Go.Proofs.YtaffjecnpclliaaDoor.Kt

abbrev sv (x0 x1 x2 x3 x4 x5 : Int) : Value := .agg #[.int .i64 x0, .int .i64 x1, .int .i64 x2, .int .i64 x3, .int .i64 x4, .int .i64 x5]
def stV (t : St) : Value := sv t.op t.cls t.tries t.base t.cap t.wait
theorem st_split (t : St) : ∃ z0 z1 z2 z3 z4 z5, t = ⟨z0, z1, z2, z3, z4, z5⟩ := ⟨t.op, t.cls, t.tries, t.base, t.cap, t.wait, rfl⟩
/-- The results of a function whose first result stands in a cell. -/
theorem results_st {fn : Func} {j k : Nat} (h : fn.results = #[.cell j 23, .tmp k]) (tmps : Array Value) (w : World) (b : Nat) (v0 v1 v2 v3 v4 v5 : Value) (hp : tmps.getD j undef = .pointer (some ⟨b, 0, none⟩))
    (c : At6 23 w b v0 v1 v2 v3 v4 v5) : (results fn tmps).run Tryd.prog w = .ok (.tuple #[.agg #[v0, v1, v2, v3, v4, v5], tmps.getD k undef]) w := by
  have hp' : tmps[j]?.getD undef = .pointer (some ⟨b, 0, none⟩) := by rw [← hp]; simp
  obtain ⟨c0, c1, c2, c3, c4, c5⟩ := cells6 c
  simp only [results, h]
  go_simp
/-- The model's comparison of two steps. -/
theorem eqin_st (x0 x1 x2 x3 x4 x5 : Int) (y0 y1 y2 y3 y4 y5 : Int) (w : World) : (Op.equalIn 10000 23 (sv x0 x1 x2 x3 x4 x5) (sv y0 y1 y2 y3 y4 y5)).run Tryd.prog w = .ok (eqS ⟨x0, x1, x2, x3, x4, x5⟩ ⟨y0, y1, y2, y3, y4, y5⟩) w := by
  have hS : Tryd.prog.underlying 23 = some (.struct (Tryd.prog.fieldsOf 23)) := by kernel_rfl
  have hp : Tryd.prog.stoodInHeld 23 = false := by kernel_rfl
  have u3 := Tryd.underlying3
  have a3 := Tryd.isAgg3
  have z3 := Tryd.sizeOf3
  rw [show (10000 : Nat) = 9999 + 1 from rfl, run_equalIn_agg w 9999 23 _ _ hS hp]
  simp only [Program.fieldsOf, Tryd.underlying23]
  go_simp
  unfold eqS

  by_cases h0 : x0 = y0
  · by_cases h1 : x1 = y1
    · by_cases h2 : x2 = y2
      · by_cases h3 : x3 = y3
        · by_cases h4 : x4 = y4
          · by_cases h5 : x5 = y5 <;> simp [h0, h1, h2, h3, h4, h5]
          · simp [h0, h1, h2, h3, h4]
        · simp [h0, h1, h2, h3]
      · simp [h0, h1, h2]
    · simp [h0, h1]
  · simp [h0]

theorem neq_st (x0 x1 x2 x3 x4 x5 : Int) (y0 y1 y2 y3 y4 y5 : Int) (w : World) : (binOp .neq 23 (sv x0 x1 x2 x3 x4 x5) (sv y0 y1 y2 y3 y4 y5)).run Tryd.prog w = .ok (.bool (!(eqS ⟨x0, x1, x2, x3, x4, x5⟩ ⟨y0, y1, y2, y3, y4, y5⟩))) w := by
  rw [run_neq_struct, eqin_st]; rfl
theorem eql_st (x0 x1 x2 x3 x4 x5 : Int) (y0 y1 y2 y3 y4 y5 : Int) (w : World) : (binOp .eql 23 (sv x0 x1 x2 x3 x4 x5) (sv y0 y1 y2 y3 y4 y5)).run Tryd.prog w = .ok (.bool (eqS ⟨x0, x1, x2, x3, x4, x5⟩ ⟨y0, y1, y2, y3, y4, y5⟩)) w := by
  rw [run_eql_struct, eqin_st]; rfl
theorem guard_st (p : BinOp) (x y : Operand) (x0 x1 x2 x3 x4 x5 : Int) (y0 y1 y2 y3 y4 y5 : Int) (w : World) : (eqGuard p 23 x y (sv x0 x1 x2 x3 x4 x5) (sv y0 y1 y2 y3 y4 y5)).run Tryd.prog w = .ok () w := run_eqGuard_agg w _ _ _ _ _ _ (by kernel_rfl)
/-- The octets of a list as a text. -/
def bs (l : List UInt8) : ByteArray := ⟨l.toArray⟩
theorem ret_str {s t : ByteArray} (h : s = t) : Ending.returned (.string s) = .returned (.string t) := by rw [h]
theorem bs_data (s : ByteArray) : bs s.data.toList = s := by cases s; simp [bs]
theorem data_bs (l : List UInt8) : (bs l).data.toList = l := by simp [bs]
def serviceV (op : Int) : Int := if op = 2 ∨ op = 6 then 1 else if op = 4 then 2 else 0

theorem service_any (n : Int) (w : World) : Calls Tryd.prog 21 #[.int .i64 n] w fun e w' => e = .returned (.int .i64 (serviceV n)) ∧ w = w' := by
  by_cases h2 : n = 2
  · subst h2
    go_enter Tryd.func21, Tryd.ntmps21
    go_wp2_with fail
    go_ret
    exact ⟨rfl, rfl⟩
  by_cases h6 : n = 6
  · subst h6
    go_enter Tryd.func21, Tryd.ntmps21
    go_wp2_with fail
    go_ret
    exact ⟨rfl, rfl⟩
  by_cases h4 : n = 4
  · subst h4
    go_enter Tryd.func21, Tryd.ntmps21
    go_wp2_with fail
    go_ret
    exact ⟨rfl, rfl⟩
  have HR : Hid (serviceV n = 0) := by show _ = _; unfold serviceV; rw [if_neg (by omega), if_neg h4]
  have e2 : (n == 2) = false := beq_eq_false_iff_ne.2 h2
  have e6 : (n == 6) = false := beq_eq_false_iff_ne.2 h6
  have e4 : (n == 4) = false := beq_eq_false_iff_ne.2 h4
  clear h2 h6 h4
  go_enter Tryd.func21, Tryd.ntmps21
  go_wp2_with fail
  go_ret
  exact ⟨ret_int HR.out, rfl⟩

theorem rservice_any (n : Int) (w : World) : Calls Tryd.prog 22 #[.int .i64 n] w fun e w' => e = .returned (.int .i64 (serviceV n)) ∧ w = w' := by
  by_cases h2 : n = 2
  · subst h2
    go_enter Tryd.func22, Tryd.ntmps22
    go_wp2_with fail
    go_ret
    exact ⟨rfl, rfl⟩
  by_cases h6 : n = 6
  · subst h6
    go_enter Tryd.func22, Tryd.ntmps22
    go_wp2_with fail
    go_ret
    exact ⟨rfl, rfl⟩
  by_cases h4 : n = 4
  · subst h4
    go_enter Tryd.func22, Tryd.ntmps22
    go_wp2_with fail
    go_ret
    exact ⟨rfl, rfl⟩
  have HR : Hid (serviceV n = 0) := by show _ = _; unfold serviceV; rw [if_neg (by omega), if_neg h4]
  have e2 : (n == 2) = false := beq_eq_false_iff_ne.2 h2
  have e6 : (n == 6) = false := beq_eq_false_iff_ne.2 h6
  have e4 : (n == 4) = false := beq_eq_false_iff_ne.2 h4
  clear h2 h6 h4
  go_enter Tryd.func22, Tryd.ntmps22
  go_wp2_with fail
  go_ret
  exact ⟨ret_int HR.out, rfl⟩

theorem service_is (n s : Int) (hs : serviceV n = s) (w : World) : Calls Tryd.prog 21 #[.int .i64 n] w fun e w' => e = .returned (.int .i64 s) ∧ w = w' := by
  rw [← hs]; exact service_any n w
theorem rservice_is (n s : Int) (hs : serviceV n = s) (w : World) : Calls Tryd.prog 22 #[.int .i64 n] w fun e w' => e = .returned (.int .i64 s) ∧ w = w' := by
  rw [← hs]; exact rservice_any n w

def outsideV (n : Int) : Bool := !(serviceV n == 0)
theorem outside_is (x0 x1 x2 x3 x4 x5 : Int) (v : Bool) (hv : (!(serviceV x0 == 0)) = v) (w : World) : Calls Tryd.prog 8 #[.agg #[.int .i64 x0, .int .i64 x1, .int .i64 x2, .int .i64 x3, .int .i64 x4, .int .i64 x5]] w fun e w' => e = .returned (.bool v) ∧ Below w.heap.size w w' := by
  have HR : Hid (v = !(serviceV x0 == 0)) := hv.symm
  have KS := Lib.hid (service_any x0)
  clear hv
  have HB0 := Lib.hid (bx6_new 23 w (.int .i64 x0) (.int .i64 x1) (.int .i64 x2) (.int .i64 x3) (.int .i64 x4) (.int .i64 x5))
  obtain ⟨q0, q1, q2, q3, q4, q5⟩ := cells6 HB0.out.box
  go_enter Tryd.func8, Tryd.ntmps8
  go_wp2_with fail
  refine (KS.out _).mono ?_
  rintro e w1 ⟨rfl, rfl⟩
  go_wp2_with fail
  go_ret
  exact ⟨ret_bool HR.out, HB0.out.bel⟩

def routsideV (n : Int) : Bool := !(serviceV n == 0)
theorem routside_is (x0 x1 x2 x3 x4 x5 : Int) (v : Bool) (hv : (!(serviceV x0 == 0)) = v) (w : World) : Calls Tryd.prog 9 #[.agg #[.int .i64 x0, .int .i64 x1, .int .i64 x2, .int .i64 x3, .int .i64 x4, .int .i64 x5]] w fun e w' => e = .returned (.bool v) ∧ Below w.heap.size w w' := by
  have HR : Hid (v = !(serviceV x0 == 0)) := hv.symm
  have KS := Lib.hid (rservice_any x0)
  clear hv
  have HB0 := Lib.hid (bx6_new 23 w (.int .i64 x0) (.int .i64 x1) (.int .i64 x2) (.int .i64 x3) (.int .i64 x4) (.int .i64 x5))
  obtain ⟨q0, q1, q2, q3, q4, q5⟩ := cells6 HB0.out.box
  go_enter Tryd.func9, Tryd.ntmps9
  go_wp2_with fail
  refine (KS.out _).mono ?_
  rintro e w1 ⟨rfl, rfl⟩
  go_wp2_with fail
  go_ret
  exact ⟨ret_bool HR.out, HB0.out.bel⟩

theorem must_is (x0 x1 x2 x3 x4 x5 : Int) (v : Bool) (hv : (x1 == 3) = v) (w : World) : Calls Tryd.prog 10 #[.agg #[.int .i64 x0, .int .i64 x1, .int .i64 x2, .int .i64 x3, .int .i64 x4, .int .i64 x5]] w fun e w' => e = .returned (.bool v) ∧ Below w.heap.size w w' := by
  have HR : Hid (v = (x1 == 3)) := hv.symm
  clear hv
  have HB0 := Lib.hid (bx6_new 23 w (.int .i64 x0) (.int .i64 x1) (.int .i64 x2) (.int .i64 x3) (.int .i64 x4) (.int .i64 x5))
  obtain ⟨q0, q1, q2, q3, q4, q5⟩ := cells6 HB0.out.box
  go_enter Tryd.func10, Tryd.ntmps10
  go_wp2_with fail
  go_ret
  exact ⟨ret_bool HR.out, HB0.out.bel⟩

theorem delay_is (x0 x1 x2 x3 x4 x5 : Int) (k : Int) (hk : k ≤ 9223372036854775807) (v : Int) (hv : BackP.delayV x3 x4 k = v) (w : World) : Calls Tryd.prog 13 #[.agg #[.int .i64 x0, .int .i64 x1, .int .i64 x2, .int .i64 x3, .int .i64 x4, .int .i64 x5], .int .i64 k] w fun e w' => e = .returned (.int .i64 v) ∧ Below w.heap.size w w' := by
  have HR : Hid (v = BackP.delayV x3 x4 k) := hv.symm
  have KS := Lib.hid (fun w => Back.delay_any x3 x4 k w hk)
  clear hv
  have HB0 := Lib.hid (bx6_new 23 w (.int .i64 x0) (.int .i64 x1) (.int .i64 x2) (.int .i64 x3) (.int .i64 x4) (.int .i64 x5))
  obtain ⟨q0, q1, q2, q3, q4, q5⟩ := cells6 HB0.out.box
  go_enter Tryd.func13, Tryd.ntmps13
  go_wp2_with fail
  refine (KS.out _).mono ?_
  rintro e w1 ⟨rfl, rfl⟩
  go_wp2_with fail
  go_ret
  exact ⟨ret_int HR.out, HB0.out.bel⟩

theorem rdelay_is (x0 x1 x2 x3 x4 x5 : Int) (k : Int) (hk : k ≤ 9223372036854775807) (v : Int) (hv : BackP.delayV x3 x4 k = v) (w : World) : Calls Tryd.prog 14 #[.agg #[.int .i64 x0, .int .i64 x1, .int .i64 x2, .int .i64 x3, .int .i64 x4, .int .i64 x5], .int .i64 k] w fun e w' => e = .returned (.int .i64 v) ∧ Below w.heap.size w w' := by
  have HR : Hid (v = BackP.delayV x3 x4 k) := hv.symm
  have KS := Lib.hid (fun w => Back.rdelay_any x3 x4 k w hk)
  clear hv
  have HB0 := Lib.hid (bx6_new 23 w (.int .i64 x0) (.int .i64 x1) (.int .i64 x2) (.int .i64 x3) (.int .i64 x4) (.int .i64 x5))
  obtain ⟨q0, q1, q2, q3, q4, q5⟩ := cells6 HB0.out.box
  go_enter Tryd.func14, Tryd.ntmps14
  go_wp2_with fail
  refine (KS.out _).mono ?_
  rintro e w1 ⟨rfl, rfl⟩
  go_wp2_with fail
  go_ret
  exact ⟨ret_int HR.out, HB0.out.bel⟩

theorem rop_any (n : Int) (w : World) : Calls Tryd.prog 28 #[.int .i64 n] w fun e w' => e = .returned (.string (bs (opL n))) ∧ w = w' := by
  by_cases h1 : n = 1
  · subst h1
    go_enter Tryd.func28, Tryd.ntmps28
    go_wp2_with fail
    go_ret
    exact ⟨rfl, rfl⟩
  by_cases h2 : n = 2
  · subst h2
    go_enter Tryd.func28, Tryd.ntmps28
    go_wp2_with fail
    go_ret
    exact ⟨rfl, rfl⟩
  by_cases h3 : n = 3
  · subst h3
    go_enter Tryd.func28, Tryd.ntmps28
    go_wp2_with fail
    go_ret
    exact ⟨rfl, rfl⟩
  by_cases h4 : n = 4
  · subst h4
    go_enter Tryd.func28, Tryd.ntmps28
    go_wp2_with fail
    go_ret
    exact ⟨rfl, rfl⟩
  by_cases h5 : n = 5
  · subst h5
    go_enter Tryd.func28, Tryd.ntmps28
    go_wp2_with fail
    go_ret
    exact ⟨rfl, rfl⟩
  have HR : Hid ((⟨#[116, 97, 107, 101]⟩ : ByteArray) = bs (opL n)) := by show _ = _; unfold opL; rw [if_neg h1, if_neg h2, if_neg h3, if_neg h4, if_neg h5]; rfl
  have e1 : (n == 1) = false := beq_eq_false_iff_ne.2 h1
  have e2 : (n == 2) = false := beq_eq_false_iff_ne.2 h2
  have e3 : (n == 3) = false := beq_eq_false_iff_ne.2 h3
  have e4 : (n == 4) = false := beq_eq_false_iff_ne.2 h4
  have e5 : (n == 5) = false := beq_eq_false_iff_ne.2 h5
  clear h1 h2 h3 h4 h5
  go_enter Tryd.func28, Tryd.ntmps28
  go_wp2_with fail
  go_ret
  exact ⟨ret_str HR.out, rfl⟩
theorem rop_is (n : Int) (s : ByteArray) (hs : bs (opL n) = s) (w : World) : Calls Tryd.prog 28 #[.int .i64 n] w fun e w' => e = .returned (.string s) ∧ w = w' := by
  rw [← hs]; exact rop_any n w

theorem rcl_any (n : Int) (w : World) : Calls Tryd.prog 29 #[.int .i64 n] w fun e w' => e = .returned (.string (bs (clL n))) ∧ w = w' := by
  by_cases h1 : n = 1
  · subst h1
    go_enter Tryd.func29, Tryd.ntmps29
    go_wp2_with fail
    go_ret
    exact ⟨rfl, rfl⟩
  by_cases h2 : n = 2
  · subst h2
    go_enter Tryd.func29, Tryd.ntmps29
    go_wp2_with fail
    go_ret
    exact ⟨rfl, rfl⟩
  have HR : Hid ((⟨#[102, 105, 114, 109]⟩ : ByteArray) = bs (clL n)) := by show _ = _; unfold clL; rw [if_neg h1, if_neg h2]; rfl
  have e1 : (n == 1) = false := beq_eq_false_iff_ne.2 h1
  have e2 : (n == 2) = false := beq_eq_false_iff_ne.2 h2
  clear h1 h2
  go_enter Tryd.func29, Tryd.ntmps29
  go_wp2_with fail
  go_ret
  exact ⟨ret_str HR.out, rfl⟩
theorem rcl_is (n : Int) (s : ByteArray) (hs : bs (clL n) = s) (w : World) : Calls Tryd.prog 29 #[.int .i64 n] w fun e w' => e = .returned (.string s) ∧ w = w' := by
  rw [← hs]; exact rcl_any n w

end Go.Proofs.YtaffjecnpclliaaDoor.Step
