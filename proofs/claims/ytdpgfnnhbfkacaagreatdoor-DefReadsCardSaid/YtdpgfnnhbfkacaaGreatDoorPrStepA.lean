/-
  A step in memory; the contracts of Service, Outside, Delay (both), Must, the document's words: any step; what was there stays as it was.
-/
import Derived.Test.YtdpgfnnhbfkacaaGreatDoorPrBackA
import Derived.Test.YtdpgfnnhbfkacaaGreatDoorPrStepPlain
import Derived.Test.YtdpgfnnhbfkacaaGreatDoorPrKt6
import Derived.Test.YtdpgfnnhbfkacaaGreatDoorPrRw
import Derived.ChangeKeysEq
set_option linter.unusedVariables false
set_option linter.unusedSimpArgs false
set_option maxRecDepth 4000
set_option maxRecDepth 4000
namespace Go.Proofs.YtdpgfnnhbfkacaaGreatDoor.Step
open Go.RowKit StP
open Go.Proofs.YtdpgfnnhbfkacaaGreatDoor.Kt
abbrev sv (x0 x1 x2 x3 x4 x5 : Int) : Value := .agg #[.int .i64 x0, .int .i64 x1, .int .i64 x2, .int .i64 x3, .int .i64 x4, .int .i64 x5]
def stV (t : St) : Value := sv t.op t.cls t.tries t.base t.cap t.wait
theorem results_st {fn : Func} {j k : Nat} (h : fn.results = #[.cell j 49, .tmp k]) (tmps : Array Value) (w : World) (b : Nat) (v0 v1 v2 v3 v4 v5 : Value) (hp : tmps.getD j undef = .pointer (some ⟨b, 0, none⟩))
    (c : At6 49 w b v0 v1 v2 v3 v4 v5) : (results fn tmps).run Tryz.prog w = .ok (.tuple #[.agg #[v0, v1, v2, v3, v4, v5], tmps.getD k undef]) w := by
  have hp' : tmps[j]?.getD undef = .pointer (some ⟨b, 0, none⟩) := by rw [← hp]; simp
  obtain ⟨c0, c1, c2, c3, c4, c5⟩ := cells6 c
  simp only [results, h]
  go_simp
theorem eqin_st (x0 x1 x2 x3 x4 x5 : Int) (y0 y1 y2 y3 y4 y5 : Int) (w : World) : (Op.equalIn 10000 49 (sv x0 x1 x2 x3 x4 x5) (sv y0 y1 y2 y3 y4 y5)).run Tryz.prog w = .ok (eqS ⟨x0, x1, x2, x3, x4, x5⟩ ⟨y0, y1, y2, y3, y4, y5⟩) w := by
  have hS : Tryz.prog.underlying 49 = some (.struct (Tryz.prog.fieldsOf 49)) := by kernel_rfl
  have hp : Tryz.prog.stoodInHeld 49 = false := by kernel_rfl
  have u3 := Tryz.underlying3
  have a3 := Tryz.isAgg3
  have z3 := Tryz.sizeOf3
  rw [show (10000 : Nat) = 9999 + 1 from rfl, run_equalIn_agg w 9999 49 _ _ hS hp]
  simp only [Program.fieldsOf, Tryz.underlying49]
  go_simp
  unfold eqS

  by_cases h0 : x0 = y0
  · by_cases h1 : x1 = y1
    · by_cases h2 : x2 = y2
      · by_cases h3 : x3 = y3
        · by_cases h4 : x4 = y4
          · by_cases h5 : x5 = y5 <;> simp [h0, h1, h2, h3, h4, h5]
          · simp [h0, h1, h2, h3, h4]
        · simp [h0, h1, h2, h3]
      · simp [h0, h1, h2]
    · simp [h0, h1]
  · simp [h0]

theorem neq_st (x0 x1 x2 x3 x4 x5 : Int) (y0 y1 y2 y3 y4 y5 : Int) (w : World) : (binOp .neq 49 (sv x0 x1 x2 x3 x4 x5) (sv y0 y1 y2 y3 y4 y5)).run Tryz.prog w = .ok (.bool (!(eqS ⟨x0, x1, x2, x3, x4, x5⟩ ⟨y0, y1, y2, y3, y4, y5⟩))) w := by
  rw [run_neq_struct, eqin_st]; rfl
theorem guard_st (p : BinOp) (x y : Operand) (x0 x1 x2 x3 x4 x5 : Int) (y0 y1 y2 y3 y4 y5 : Int) (w : World) : (eqGuard p 49 x y (sv x0 x1 x2 x3 x4 x5) (sv y0 y1 y2 y3 y4 y5)).run Tryz.prog w = .ok () w := run_eqGuard_agg w _ _ _ _ _ _ (by kernel_rfl)
def bs (l : List UInt8) : ByteArray := ⟨l.toArray⟩
theorem ret_str {s t : ByteArray} (h : s = t) : Ending.returned (.string s) = .returned (.string t) := by rw [h]
theorem bs_data (s : ByteArray) : bs s.data.toList = s := by cases s; simp [bs]
theorem data_bs (l : List UInt8) : (bs l).data.toList = l := by simp [bs]
theorem must_is (x0 x1 x2 x3 x4 x5 : Int) (v : Bool) (hv : (x1 == 3) = v) (w : World) : Calls Tryz.prog 112 #[.agg #[.int .i64 x0, .int .i64 x1, .int .i64 x2, .int .i64 x3, .int .i64 x4, .int .i64 x5]] w fun e w' => e = .returned (.bool v) ∧ Below w.heap.size w w' := by
  have HR : Hid (v = (x1 == 3)) := hv.symm
  clear hv
  have HB0 := Lib.hid (bx6_new 49 w (.int .i64 x0) (.int .i64 x1) (.int .i64 x2) (.int .i64 x3) (.int .i64 x4) (.int .i64 x5))
  obtain ⟨q0, q1, q2, q3, q4, q5⟩ := cells6 HB0.out.box
  go_enter Tryz.func112, Tryz.ntmps112
  go_wp2_with fail
  go_ret
  exact ⟨ret_bool HR.out, HB0.out.bel⟩

theorem rop_any (n : Int) (w : World) : Calls Tryz.prog 93 #[.int .i64 n] w fun e w' => e = .returned (.string (bs (opL n))) ∧ w = w' := by
  by_cases h1 : n = 1
  · subst h1
    go_enter Tryz.func93, Tryz.ntmps93
    go_wp2_with fail
    go_ret
    exact ⟨rfl, rfl⟩
  by_cases h2 : n = 2
  · subst h2
    go_enter Tryz.func93, Tryz.ntmps93
    go_wp2_with fail
    go_ret
    exact ⟨rfl, rfl⟩
  by_cases h3 : n = 3
  · subst h3
    go_enter Tryz.func93, Tryz.ntmps93
    go_wp2_with fail
    go_ret
    exact ⟨rfl, rfl⟩
  by_cases h4 : n = 4
  · subst h4
    go_enter Tryz.func93, Tryz.ntmps93
    go_wp2_with fail
    go_ret
    exact ⟨rfl, rfl⟩
  by_cases h5 : n = 5
  · subst h5
    go_enter Tryz.func93, Tryz.ntmps93
    go_wp2_with fail
    go_ret
    exact ⟨rfl, rfl⟩
  have HR : Hid ((⟨#[116, 97, 107, 101]⟩ : ByteArray) = bs (opL n)) := by show _ = _; unfold opL; rw [if_neg h1, if_neg h2, if_neg h3, if_neg h4, if_neg h5]; rfl
  have e1 : (n == 1) = false := beq_eq_false_iff_ne.2 h1
  have e2 : (n == 2) = false := beq_eq_false_iff_ne.2 h2
  have e3 : (n == 3) = false := beq_eq_false_iff_ne.2 h3
  have e4 : (n == 4) = false := beq_eq_false_iff_ne.2 h4
  have e5 : (n == 5) = false := beq_eq_false_iff_ne.2 h5
  clear h1 h2 h3 h4 h5
  go_enter Tryz.func93, Tryz.ntmps93
  go_wp2_with fail
  go_ret
  exact ⟨ret_str HR.out, rfl⟩
theorem rop_is (n : Int) (s : ByteArray) (hs : bs (opL n) = s) (w : World) : Calls Tryz.prog 93 #[.int .i64 n] w fun e w' => e = .returned (.string s) ∧ w = w' := by
  rw [← hs]; exact rop_any n w

theorem rcl_any (n : Int) (w : World) : Calls Tryz.prog 94 #[.int .i64 n] w fun e w' => e = .returned (.string (bs (clL n))) ∧ w = w' := by
  by_cases h1 : n = 1
  · subst h1
    go_enter Tryz.func94, Tryz.ntmps94
    go_wp2_with fail
    go_ret
    exact ⟨rfl, rfl⟩
  by_cases h2 : n = 2
  · subst h2
    go_enter Tryz.func94, Tryz.ntmps94
    go_wp2_with fail
    go_ret
    exact ⟨rfl, rfl⟩
  have HR : Hid ((⟨#[102, 105, 114, 109]⟩ : ByteArray) = bs (clL n)) := by show _ = _; unfold clL; rw [if_neg h1, if_neg h2]; rfl
  have e1 : (n == 1) = false := beq_eq_false_iff_ne.2 h1
  have e2 : (n == 2) = false := beq_eq_false_iff_ne.2 h2
  clear h1 h2
  go_enter Tryz.func94, Tryz.ntmps94
  go_wp2_with fail
  go_ret
  exact ⟨ret_str HR.out, rfl⟩
theorem rcl_is (n : Int) (s : ByteArray) (hs : bs (clL n) = s) (w : World) : Calls Tryz.prog 94 #[.int .i64 n] w fun e w' => e = .returned (.string s) ∧ w = w' := by
  rw [← hs]; exact rcl_any n w

end Go.Proofs.YtdpgfnnhbfkacaaGreatDoor.Step

/-
  The contracts of suits and of Fit, the program's and the document's: any step; what was there stays as it was.
-/
set_option linter.unusedVariables false
set_option linter.unusedSimpArgs false
set_option maxRecDepth 4000
set_option maxRecDepth 4000
namespace Go.Proofs.YtdpgfnnhbfkacaaGreatDoor.Step
open Go.RowKit StP
open Go.Proofs.YtdpgfnnhbfkacaaGreatDoor.Kt
set_option maxHeartbeats 4000000 in
theorem suits_is (x0 x1 x2 x3 x4 x5 : Int) (v : Bool) (hv : suitS ⟨x0, x1, x2, x3, x4, x5⟩ = v) (w : World) : Calls Tryz.prog 83 #[.agg #[.int .i64 x0, .int .i64 x1, .int .i64 x2, .int .i64 x3, .int .i64 x4, .int .i64 x5]] w fun e w' => e = .returned (.bool v) ∧ Below w.heap.size w w' := by
  by_cases h3 : x1 = 3
  · have KM := Lib.hid (must_is x0 x1 x2 x3 x4 x5 true (by simp [h3]))
    by_cases hw : x5 = 0
    · have e5 : (x5 == 0) = true := beq_iff_eq.2 hw
      by_cases o1 : x0 = 1
      · have HR : Hid (v = (x1 == 1)) := by show _ = _; rw [← hv]; unfold suitS; simp [hw, o1, Bool.beq_eq_decide_eq]
        have f1 : (x0 == 1) = true := beq_iff_eq.2 o1
        clear hv
        try clear hw
        try clear h3
        try clear o1
        try clear o3
        try clear o5
        try clear c1
        try clear c3
        have HB0 := Lib.hid (bx6_new 49 w (.int .i64 x0) (.int .i64 x1) (.int .i64 x2) (.int .i64 x3) (.int .i64 x4) (.int .i64 x5))
        obtain ⟨q0, q1, q2, q3, q4, q5⟩ := cells6 HB0.out.box
        go_enter Tryz.func83, Tryz.ntmps83
        go_wp2_with fail
        refine (KM.out _).mono ?_
        rintro e w1 ⟨rfl, hb⟩
        have HB1 := Lib.hid (HB0.out.keep hb)
        clear hb q0 q1 q2 q3 q4 q5 HB0
        obtain ⟨q0, q1, q2, q3, q4, q5⟩ := cells6 HB1.out.box
        go_wp2_with fail
        go_ret
        exact ⟨ret_bool HR.out, HB1.out.bel⟩
      by_cases o3 : x0 = 3
      · have HR : Hid (v = (x1 == 1)) := by show _ = _; rw [← hv]; unfold suitS; simp [hw, o3, Bool.beq_eq_decide_eq]
        have f1 : (x0 == 1) = false := beq_eq_false_iff_ne.2 o1
        have f3 : (x0 == 3) = true := beq_iff_eq.2 o3
        clear hv
        try clear hw
        try clear h3
        try clear o1
        try clear o3
        try clear o5
        try clear c1
        try clear c3
        have HB0 := Lib.hid (bx6_new 49 w (.int .i64 x0) (.int .i64 x1) (.int .i64 x2) (.int .i64 x3) (.int .i64 x4) (.int .i64 x5))
        obtain ⟨q0, q1, q2, q3, q4, q5⟩ := cells6 HB0.out.box
        go_enter Tryz.func83, Tryz.ntmps83
        go_wp2_with fail
        refine (KM.out _).mono ?_
        rintro e w1 ⟨rfl, hb⟩
        have HB1 := Lib.hid (HB0.out.keep hb)
        clear hb q0 q1 q2 q3 q4 q5 HB0
        obtain ⟨q0, q1, q2, q3, q4, q5⟩ := cells6 HB1.out.box
        go_wp2_with fail
        go_ret
        exact ⟨ret_bool HR.out, HB1.out.bel⟩
      by_cases o5 : x0 = 5
      · have HR : Hid (v = !(x1 == 1)) := by show _ = _; rw [← hv]; unfold suitS; simp [hw, o5, Bool.beq_eq_decide_eq]
        have f1 : (x0 == 1) = false := beq_eq_false_iff_ne.2 o1
        have f3 : (x0 == 3) = false := beq_eq_false_iff_ne.2 o3
        have f5 : (x0 == 5) = true := beq_iff_eq.2 o5
        clear hv
        try clear hw
        try clear h3
        try clear o1
        try clear o3
        try clear o5
        try clear c1
        try clear c3
        have HB0 := Lib.hid (bx6_new 49 w (.int .i64 x0) (.int .i64 x1) (.int .i64 x2) (.int .i64 x3) (.int .i64 x4) (.int .i64 x5))
        obtain ⟨q0, q1, q2, q3, q4, q5⟩ := cells6 HB0.out.box
        go_enter Tryz.func83, Tryz.ntmps83
        go_wp2_with fail
        refine (KM.out _).mono ?_
        rintro e w1 ⟨rfl, hb⟩
        have HB1 := Lib.hid (HB0.out.keep hb)
        clear hb q0 q1 q2 q3 q4 q5 HB0
        obtain ⟨q0, q1, q2, q3, q4, q5⟩ := cells6 HB1.out.box
        go_wp2_with fail
        go_ret
        exact ⟨ret_bool HR.out, HB1.out.bel⟩
      have HR : Hid (v = true) := by show _ = _; rw [← hv]; unfold suitS; simp [hw, o1, o3, o5]
      have f1 : (x0 == 1) = false := beq_eq_false_iff_ne.2 o1
      have f3 : (x0 == 3) = false := beq_eq_false_iff_ne.2 o3
      have f5 : (x0 == 5) = false := beq_eq_false_iff_ne.2 o5
      clear hv
      try clear hw
      try clear h3
      try clear o1
      try clear o3
      try clear o5
      try clear c1
      try clear c3
      have HB0 := Lib.hid (bx6_new 49 w (.int .i64 x0) (.int .i64 x1) (.int .i64 x2) (.int .i64 x3) (.int .i64 x4) (.int .i64 x5))
      obtain ⟨q0, q1, q2, q3, q4, q5⟩ := cells6 HB0.out.box
      go_enter Tryz.func83, Tryz.ntmps83
      go_wp2_with fail
      refine (KM.out _).mono ?_
      rintro e w1 ⟨rfl, hb⟩
      have HB1 := Lib.hid (HB0.out.keep hb)
      clear hb q0 q1 q2 q3 q4 q5 HB0
      obtain ⟨q0, q1, q2, q3, q4, q5⟩ := cells6 HB1.out.box
      go_wp2_with fail
      go_ret
      exact ⟨ret_bool HR.out, HB1.out.bel⟩
    · have HR : Hid (v = false) := by show _ = _; rw [← hv]; unfold suitS; simp [h3, hw]
      have e5 : (x5 == 0) = false := beq_eq_false_iff_ne.2 hw
      clear hv
      try clear hw
      try clear h3
      try clear o1
      try clear o3
      try clear o5
      try clear c1
      try clear c3
      have HB0 := Lib.hid (bx6_new 49 w (.int .i64 x0) (.int .i64 x1) (.int .i64 x2) (.int .i64 x3) (.int .i64 x4) (.int .i64 x5))
      obtain ⟨q0, q1, q2, q3, q4, q5⟩ := cells6 HB0.out.box
      go_enter Tryz.func83, Tryz.ntmps83
      go_wp2_with fail
      refine (KM.out _).mono ?_
      rintro e w1 ⟨rfl, hb⟩
      have HB1 := Lib.hid (HB0.out.keep hb)
      clear hb q0 q1 q2 q3 q4 q5 HB0
      obtain ⟨q0, q1, q2, q3, q4, q5⟩ := cells6 HB1.out.box
      go_wp2_with fail
      go_ret
      exact ⟨ret_bool HR.out, HB1.out.bel⟩
  have KM := Lib.hid (must_is x0 x1 x2 x3 x4 x5 false (by simp [h3]))
  by_cases o1 : x0 = 1
  · have HR : Hid (v = (x1 == 1)) := by show _ = _; rw [← hv]; unfold suitS; simp [h3, o1, Bool.beq_eq_decide_eq]
    have f1 : (x0 == 1) = true := beq_iff_eq.2 o1
    clear hv
    try clear hw
    try clear h3
    try clear o1
    try clear o3
    try clear o5
    try clear c1
    try clear c3
    have HB0 := Lib.hid (bx6_new 49 w (.int .i64 x0) (.int .i64 x1) (.int .i64 x2) (.int .i64 x3) (.int .i64 x4) (.int .i64 x5))
    obtain ⟨q0, q1, q2, q3, q4, q5⟩ := cells6 HB0.out.box
    go_enter Tryz.func83, Tryz.ntmps83
    go_wp2_with fail
    refine (KM.out _).mono ?_
    rintro e w1 ⟨rfl, hb⟩
    have HB1 := Lib.hid (HB0.out.keep hb)
    clear hb q0 q1 q2 q3 q4 q5 HB0
    obtain ⟨q0, q1, q2, q3, q4, q5⟩ := cells6 HB1.out.box
    go_wp2_with fail
    go_ret
    exact ⟨ret_bool HR.out, HB1.out.bel⟩
  by_cases o3 : x0 = 3
  · have HR : Hid (v = (x1 == 1)) := by show _ = _; rw [← hv]; unfold suitS; simp [h3, o3, Bool.beq_eq_decide_eq]
    have f1 : (x0 == 1) = false := beq_eq_false_iff_ne.2 o1
    have f3 : (x0 == 3) = true := beq_iff_eq.2 o3
    clear hv
    try clear hw
    try clear h3
    try clear o1
    try clear o3
    try clear o5
    try clear c1
    try clear c3
    have HB0 := Lib.hid (bx6_new 49 w (.int .i64 x0) (.int .i64 x1) (.int .i64 x2) (.int .i64 x3) (.int .i64 x4) (.int .i64 x5))
    obtain ⟨q0, q1, q2, q3, q4, q5⟩ := cells6 HB0.out.box
    go_enter Tryz.func83, Tryz.ntmps83
    go_wp2_with fail
    refine (KM.out _).mono ?_
    rintro e w1 ⟨rfl, hb⟩
    have HB1 := Lib.hid (HB0.out.keep hb)
    clear hb q0 q1 q2 q3 q4 q5 HB0
    obtain ⟨q0, q1, q2, q3, q4, q5⟩ := cells6 HB1.out.box
    go_wp2_with fail
    go_ret
    exact ⟨ret_bool HR.out, HB1.out.bel⟩
  by_cases o5 : x0 = 5
  · have HR : Hid (v = !(x1 == 1)) := by show _ = _; rw [← hv]; unfold suitS; simp [h3, o5, Bool.beq_eq_decide_eq]
    have f1 : (x0 == 1) = false := beq_eq_false_iff_ne.2 o1
    have f3 : (x0 == 3) = false := beq_eq_false_iff_ne.2 o3
    have f5 : (x0 == 5) = true := beq_iff_eq.2 o5
    clear hv
    try clear hw
    try clear h3
    try clear o1
    try clear o3
    try clear o5
    try clear c1
    try clear c3
    have HB0 := Lib.hid (bx6_new 49 w (.int .i64 x0) (.int .i64 x1) (.int .i64 x2) (.int .i64 x3) (.int .i64 x4) (.int .i64 x5))
    obtain ⟨q0, q1, q2, q3, q4, q5⟩ := cells6 HB0.out.box
    go_enter Tryz.func83, Tryz.ntmps83
    go_wp2_with fail
    refine (KM.out _).mono ?_
    rintro e w1 ⟨rfl, hb⟩
    have HB1 := Lib.hid (HB0.out.keep hb)
    clear hb q0 q1 q2 q3 q4 q5 HB0
    obtain ⟨q0, q1, q2, q3, q4, q5⟩ := cells6 HB1.out.box
    go_wp2_with fail
    go_ret
    exact ⟨ret_bool HR.out, HB1.out.bel⟩
  have HR : Hid (v = true) := by show _ = _; rw [← hv]; unfold suitS; simp [h3, o1, o3, o5]
  have f1 : (x0 == 1) = false := beq_eq_false_iff_ne.2 o1
  have f3 : (x0 == 3) = false := beq_eq_false_iff_ne.2 o3
  have f5 : (x0 == 5) = false := beq_eq_false_iff_ne.2 o5
  clear hv
  try clear hw
  try clear h3
  try clear o1
  try clear o3
  try clear o5
  try clear c1
  try clear c3
  have HB0 := Lib.hid (bx6_new 49 w (.int .i64 x0) (.int .i64 x1) (.int .i64 x2) (.int .i64 x3) (.int .i64 x4) (.int .i64 x5))
  obtain ⟨q0, q1, q2, q3, q4, q5⟩ := cells6 HB0.out.box
  go_enter Tryz.func83, Tryz.ntmps83
  go_wp2_with fail
  refine (KM.out _).mono ?_
  rintro e w1 ⟨rfl, hb⟩
  have HB1 := Lib.hid (HB0.out.keep hb)
  clear hb q0 q1 q2 q3 q4 q5 HB0
  obtain ⟨q0, q1, q2, q3, q4, q5⟩ := cells6 HB1.out.box
  go_wp2_with fail
  go_ret
  exact ⟨ret_bool HR.out, HB1.out.bel⟩

set_option maxHeartbeats 4000000 in
theorem fit_is (x0 x1 x2 x3 x4 x5 : Int) (v : Bool) (hv : fitS ⟨x0, x1, x2, x3, x4, x5⟩ = v) (w : World) :
    Calls Tryz.prog 36 #[.agg #[.int .i64 x0, .int .i64 x1, .int .i64 x2, .int .i64 x3, .int .i64 x4, .int .i64 x5]] w fun e w' => e = .returned (.bool v) ∧ Below w.heap.size w w' := by
  unfold fitS at hv
  dsimp only at hv
  by_cases h0 : 1 ≤ x0
  rotate_left
  · have HR : Hid (v = false) := by show _ = _; rw [← hv]; simp [h0]
    clear hv
    have HB0 := Lib.hid (bx6_new 49 w (.int .i64 x0) (.int .i64 x1) (.int .i64 x2) (.int .i64 x3) (.int .i64 x4) (.int .i64 x5))
    obtain ⟨q0, q1, q2, q3, q4, q5⟩ := cells6 HB0.out.box
    go_enter Tryz.func36, Tryz.ntmps36
    go_wp2_with fail
    go_ret
    exact ⟨ret_bool HR.out, HB0.out.bel⟩
  by_cases h1 : x0 ≤ 6
  rotate_left
  · have HR : Hid (v = false) := by show _ = _; rw [← hv]; simp [h1]
    clear hv
    have HB0 := Lib.hid (bx6_new 49 w (.int .i64 x0) (.int .i64 x1) (.int .i64 x2) (.int .i64 x3) (.int .i64 x4) (.int .i64 x5))
    obtain ⟨q0, q1, q2, q3, q4, q5⟩ := cells6 HB0.out.box
    go_enter Tryz.func36, Tryz.ntmps36
    go_wp2_with fail
    go_ret
    exact ⟨ret_bool HR.out, HB0.out.bel⟩
  by_cases h2 : 1 ≤ x1
  rotate_left
  · have HR : Hid (v = false) := by show _ = _; rw [← hv]; simp [h2]
    clear hv
    have HB0 := Lib.hid (bx6_new 49 w (.int .i64 x0) (.int .i64 x1) (.int .i64 x2) (.int .i64 x3) (.int .i64 x4) (.int .i64 x5))
    obtain ⟨q0, q1, q2, q3, q4, q5⟩ := cells6 HB0.out.box
    go_enter Tryz.func36, Tryz.ntmps36
    go_wp2_with fail
    go_ret
    exact ⟨ret_bool HR.out, HB0.out.bel⟩
  by_cases h3 : x1 ≤ 3
  rotate_left
  · have HR : Hid (v = false) := by show _ = _; rw [← hv]; simp [h3]
    clear hv
    have HB0 := Lib.hid (bx6_new 49 w (.int .i64 x0) (.int .i64 x1) (.int .i64 x2) (.int .i64 x3) (.int .i64 x4) (.int .i64 x5))
    obtain ⟨q0, q1, q2, q3, q4, q5⟩ := cells6 HB0.out.box
    go_enter Tryz.func36, Tryz.ntmps36
    go_wp2_with fail
    go_ret
    exact ⟨ret_bool HR.out, HB0.out.bel⟩
  cases h4 : BackP.fitV x2 x3 x4 with
  | false =>
    have KB := Lib.hid (fun w => Back.fit_any x2 x3 x4 w)
    rw [h4] at KB
    have HR : Hid (v = false) := by show _ = _; rw [← hv]; simp [h4]
    clear hv h4
    have HB0 := Lib.hid (bx6_new 49 w (.int .i64 x0) (.int .i64 x1) (.int .i64 x2) (.int .i64 x3) (.int .i64 x4) (.int .i64 x5))
    obtain ⟨q0, q1, q2, q3, q4, q5⟩ := cells6 HB0.out.box
    go_enter Tryz.func36, Tryz.ntmps36
    go_wp2_with fail
    refine (KB.out _).mono ?_
    rintro e w1 ⟨rfl, rfl⟩
    go_wp2_with fail
    go_ret
    exact ⟨ret_bool HR.out, HB0.out.bel⟩
  | true =>
  have KB := Lib.hid (fun w => Back.fit_any x2 x3 x4 w)
  rw [h4] at KB
  by_cases h5 : 0 ≤ x5
  rotate_left
  · have HR : Hid (v = false) := by show _ = _; rw [← hv]; simp [h5]
    clear hv
    have HB0 := Lib.hid (bx6_new 49 w (.int .i64 x0) (.int .i64 x1) (.int .i64 x2) (.int .i64 x3) (.int .i64 x4) (.int .i64 x5))
    obtain ⟨q0, q1, q2, q3, q4, q5⟩ := cells6 HB0.out.box
    go_enter Tryz.func36, Tryz.ntmps36
    go_wp2_with fail
    refine (KB.out _).mono ?_
    rintro e w1 ⟨rfl, rfl⟩
    go_wp2_with fail
    go_ret
    exact ⟨ret_bool HR.out, HB0.out.bel⟩
  by_cases h6 : x5 ≤ 100
  rotate_left
  · have HR : Hid (v = false) := by show _ = _; rw [← hv]; simp [h6]
    clear hv
    have HB0 := Lib.hid (bx6_new 49 w (.int .i64 x0) (.int .i64 x1) (.int .i64 x2) (.int .i64 x3) (.int .i64 x4) (.int .i64 x5))
    obtain ⟨q0, q1, q2, q3, q4, q5⟩ := cells6 HB0.out.box
    go_enter Tryz.func36, Tryz.ntmps36
    go_wp2_with fail
    refine (KB.out _).mono ?_
    rintro e w1 ⟨rfl, rfl⟩
    go_wp2_with fail
    go_ret
    exact ⟨ret_bool HR.out, HB0.out.bel⟩
  have HR : Hid (v = suitS ⟨x0, x1, x2, x3, x4, x5⟩) := by show _ = _; rw [← hv]; simp [h0, h1, h2, h3, h4, h5, h6]
  have KS := Lib.hid (suits_is x0 x1 x2 x3 x4 x5 v HR.out.symm)
  clear hv h4
  have HB0 := Lib.hid (bx6_new 49 w (.int .i64 x0) (.int .i64 x1) (.int .i64 x2) (.int .i64 x3) (.int .i64 x4) (.int .i64 x5))
  obtain ⟨q0, q1, q2, q3, q4, q5⟩ := cells6 HB0.out.box
  go_enter Tryz.func36, Tryz.ntmps36
  go_wp2_with fail
  refine (KB.out _).mono ?_
  rintro e w1 ⟨rfl, rfl⟩
  go_wp2_with fail
  refine (KS.out _).mono ?_
  rintro e w1 ⟨rfl, hb⟩
  have HB1 := Lib.hid (HB0.out.keep hb)
  clear hb q0 q1 q2 q3 q4 q5 HB0
  go_wp2_with fail
  go_ret
  exact ⟨rfl, HB1.out.bel⟩

set_option maxHeartbeats 4000000 in
theorem rfit_is (x0 x1 x2 x3 x4 x5 : Int) (v : Bool) (hv : fitS ⟨x0, x1, x2, x3, x4, x5⟩ = v) (w : World) :
    Calls Tryz.prog 51 #[.agg #[.int .i64 x0, .int .i64 x1, .int .i64 x2, .int .i64 x3, .int .i64 x4, .int .i64 x5]] w fun e w' => e = .returned (.bool v) ∧ Below w.heap.size w w' := by
  unfold fitS at hv
  dsimp only at hv
  by_cases h0 : 1 ≤ x0
  rotate_left
  · have HR : Hid (v = false) := by show _ = _; rw [← hv]; simp [h0]
    clear hv
    have HB0 := Lib.hid (bx6_new 49 w (.int .i64 x0) (.int .i64 x1) (.int .i64 x2) (.int .i64 x3) (.int .i64 x4) (.int .i64 x5))
    obtain ⟨q0, q1, q2, q3, q4, q5⟩ := cells6 HB0.out.box
    go_enter Tryz.func51, Tryz.ntmps51
    go_wp2_with fail
    go_ret
    exact ⟨ret_bool HR.out, HB0.out.bel⟩
  by_cases h1 : x0 ≤ 6
  rotate_left
  · have HR : Hid (v = false) := by show _ = _; rw [← hv]; simp [h1]
    clear hv
    have HB0 := Lib.hid (bx6_new 49 w (.int .i64 x0) (.int .i64 x1) (.int .i64 x2) (.int .i64 x3) (.int .i64 x4) (.int .i64 x5))
    obtain ⟨q0, q1, q2, q3, q4, q5⟩ := cells6 HB0.out.box
    go_enter Tryz.func51, Tryz.ntmps51
    go_wp2_with fail
    go_ret
    exact ⟨ret_bool HR.out, HB0.out.bel⟩
  by_cases h2 : 1 ≤ x1
  rotate_left
  · have HR : Hid (v = false) := by show _ = _; rw [← hv]; simp [h2]
    clear hv
    have HB0 := Lib.hid (bx6_new 49 w (.int .i64 x0) (.int .i64 x1) (.int .i64 x2) (.int .i64 x3) (.int .i64 x4) (.int .i64 x5))
    obtain ⟨q0, q1, q2, q3, q4, q5⟩ := cells6 HB0.out.box
    go_enter Tryz.func51, Tryz.ntmps51
    go_wp2_with fail
    go_ret
    exact ⟨ret_bool HR.out, HB0.out.bel⟩
  by_cases h3 : x1 ≤ 3
  rotate_left
  · have HR : Hid (v = false) := by show _ = _; rw [← hv]; simp [h3]
    clear hv
    have HB0 := Lib.hid (bx6_new 49 w (.int .i64 x0) (.int .i64 x1) (.int .i64 x2) (.int .i64 x3) (.int .i64 x4) (.int .i64 x5))
    obtain ⟨q0, q1, q2, q3, q4, q5⟩ := cells6 HB0.out.box
    go_enter Tryz.func51, Tryz.ntmps51
    go_wp2_with fail
    go_ret
    exact ⟨ret_bool HR.out, HB0.out.bel⟩
  cases h4 : BackP.fitV x2 x3 x4 with
  | false =>
    have KB := Lib.hid (fun w => Back.rfit_any x2 x3 x4 w)
    rw [h4] at KB
    have HR : Hid (v = false) := by show _ = _; rw [← hv]; simp [h4]
    clear hv h4
    have HB0 := Lib.hid (bx6_new 49 w (.int .i64 x0) (.int .i64 x1) (.int .i64 x2) (.int .i64 x3) (.int .i64 x4) (.int .i64 x5))
    obtain ⟨q0, q1, q2, q3, q4, q5⟩ := cells6 HB0.out.box
    go_enter Tryz.func51, Tryz.ntmps51
    go_wp2_with fail
    refine (KB.out _).mono ?_
    rintro e w1 ⟨rfl, rfl⟩
    go_wp2_with fail
    go_ret
    exact ⟨ret_bool HR.out, HB0.out.bel⟩
  | true =>
  have KB := Lib.hid (fun w => Back.rfit_any x2 x3 x4 w)
  rw [h4] at KB
  by_cases h5 : 0 ≤ x5
  rotate_left
  · have HR : Hid (v = false) := by show _ = _; rw [← hv]; simp [h5]
    clear hv
    have HB0 := Lib.hid (bx6_new 49 w (.int .i64 x0) (.int .i64 x1) (.int .i64 x2) (.int .i64 x3) (.int .i64 x4) (.int .i64 x5))
    obtain ⟨q0, q1, q2, q3, q4, q5⟩ := cells6 HB0.out.box
    go_enter Tryz.func51, Tryz.ntmps51
    go_wp2_with fail
    refine (KB.out _).mono ?_
    rintro e w1 ⟨rfl, rfl⟩
    go_wp2_with fail
    go_ret
    exact ⟨ret_bool HR.out, HB0.out.bel⟩
  by_cases h6 : x5 ≤ 100
  rotate_left
  · have HR : Hid (v = false) := by show _ = _; rw [← hv]; simp [h6]
    clear hv
    have HB0 := Lib.hid (bx6_new 49 w (.int .i64 x0) (.int .i64 x1) (.int .i64 x2) (.int .i64 x3) (.int .i64 x4) (.int .i64 x5))
    obtain ⟨q0, q1, q2, q3, q4, q5⟩ := cells6 HB0.out.box
    go_enter Tryz.func51, Tryz.ntmps51
    go_wp2_with fail
    refine (KB.out _).mono ?_
    rintro e w1 ⟨rfl, rfl⟩
    go_wp2_with fail
    go_ret
    exact ⟨ret_bool HR.out, HB0.out.bel⟩
  have HS : suitS ⟨x0, x1, x2, x3, x4, x5⟩ = v := by rw [← hv]; simp [h0, h1, h2, h3, h4, h5, h6]
  clear hv h4
  unfold suitS at HS
  dsimp only at HS
  by_cases o1 : x0 = 1
  · by_cases c1 : x1 = 1
    · have HR : Hid (v = true) := by show _ = _; rw [← HS]; simp [o1, c1]
      have f0 : (x0 == 1) = true := beq_iff_eq.2 o1
      have f1 : (x0 == 5) = false := beq_eq_false_iff_ne.2 (by omega)
      have f2 : (x1 != 1) = false := by simp; exact c1
      have f3 : (x1 != 3) = true := by simp; omega
      clear HS
      try clear hw
      try clear o1
      try clear o3
      try clear o5
      try clear c1
      try clear c3
      have HB0 := Lib.hid (bx6_new 49 w (.int .i64 x0) (.int .i64 x1) (.int .i64 x2) (.int .i64 x3) (.int .i64 x4) (.int .i64 x5))
      obtain ⟨q0, q1, q2, q3, q4, q5⟩ := cells6 HB0.out.box
      go_enter Tryz.func51, Tryz.ntmps51
      go_wp2_with fail
      refine (KB.out _).mono ?_
      rintro e w1 ⟨rfl, rfl⟩
      go_wp2_with fail
      go_ret
      exact ⟨ret_bool HR.out, HB0.out.bel⟩
    · have HR : Hid (v = false) := by show _ = _; rw [← HS]; simp [o1, c1]
      have f0 : (x0 == 1) = true := beq_iff_eq.2 o1
      have f1 : (x1 != 1) = true := by simp; exact c1
      clear HS
      try clear hw
      try clear o1
      try clear o3
      try clear o5
      try clear c1
      try clear c3
      have HB0 := Lib.hid (bx6_new 49 w (.int .i64 x0) (.int .i64 x1) (.int .i64 x2) (.int .i64 x3) (.int .i64 x4) (.int .i64 x5))
      obtain ⟨q0, q1, q2, q3, q4, q5⟩ := cells6 HB0.out.box
      go_enter Tryz.func51, Tryz.ntmps51
      go_wp2_with fail
      refine (KB.out _).mono ?_
      rintro e w1 ⟨rfl, rfl⟩
      go_wp2_with fail
      go_ret
      exact ⟨ret_bool HR.out, HB0.out.bel⟩
  by_cases o3 : x0 = 3
  · by_cases c1 : x1 = 1
    · have HR : Hid (v = true) := by show _ = _; rw [← HS]; simp [o3, c1]
      have f0 : (x0 == 1) = false := beq_eq_false_iff_ne.2 o1
      have f1 : (x0 == 3) = true := beq_iff_eq.2 o3
      have f2 : (x0 == 5) = false := beq_eq_false_iff_ne.2 (by omega)
      have f3 : (x1 != 1) = false := by simp; exact c1
      have f4 : (x1 != 3) = true := by simp; omega
      clear HS
      try clear hw
      try clear o1
      try clear o3
      try clear o5
      try clear c1
      try clear c3
      have HB0 := Lib.hid (bx6_new 49 w (.int .i64 x0) (.int .i64 x1) (.int .i64 x2) (.int .i64 x3) (.int .i64 x4) (.int .i64 x5))
      obtain ⟨q0, q1, q2, q3, q4, q5⟩ := cells6 HB0.out.box
      go_enter Tryz.func51, Tryz.ntmps51
      go_wp2_with fail
      refine (KB.out _).mono ?_
      rintro e w1 ⟨rfl, rfl⟩
      go_wp2_with fail
      go_ret
      exact ⟨ret_bool HR.out, HB0.out.bel⟩
    · have HR : Hid (v = false) := by show _ = _; rw [← HS]; simp [o3, c1]
      have f0 : (x0 == 1) = false := beq_eq_false_iff_ne.2 o1
      have f1 : (x0 == 3) = true := beq_iff_eq.2 o3
      have f2 : (x1 != 1) = true := by simp; exact c1
      clear HS
      try clear hw
      try clear o1
      try clear o3
      try clear o5
      try clear c1
      try clear c3
      have HB0 := Lib.hid (bx6_new 49 w (.int .i64 x0) (.int .i64 x1) (.int .i64 x2) (.int .i64 x3) (.int .i64 x4) (.int .i64 x5))
      obtain ⟨q0, q1, q2, q3, q4, q5⟩ := cells6 HB0.out.box
      go_enter Tryz.func51, Tryz.ntmps51
      go_wp2_with fail
      refine (KB.out _).mono ?_
      rintro e w1 ⟨rfl, rfl⟩
      go_wp2_with fail
      go_ret
      exact ⟨ret_bool HR.out, HB0.out.bel⟩
  by_cases o5 : x0 = 5
  · by_cases c1 : x1 = 1
    · have HR : Hid (v = false) := by show _ = _; rw [← HS]; simp [o5, c1]
      have f0 : (x0 == 1) = false := beq_eq_false_iff_ne.2 o1
      have f1 : (x0 == 3) = false := beq_eq_false_iff_ne.2 o3
      have f2 : (x0 == 5) = true := beq_iff_eq.2 o5
      have f3 : (x1 == 1) = true := beq_iff_eq.2 c1
      clear HS
      try clear hw
      try clear o1
      try clear o3
      try clear o5
      try clear c1
      try clear c3
      have HB0 := Lib.hid (bx6_new 49 w (.int .i64 x0) (.int .i64 x1) (.int .i64 x2) (.int .i64 x3) (.int .i64 x4) (.int .i64 x5))
      obtain ⟨q0, q1, q2, q3, q4, q5⟩ := cells6 HB0.out.box
      go_enter Tryz.func51, Tryz.ntmps51
      go_wp2_with fail
      refine (KB.out _).mono ?_
      rintro e w1 ⟨rfl, rfl⟩
      go_wp2_with fail
      go_ret
      exact ⟨ret_bool HR.out, HB0.out.bel⟩
    · by_cases c3 : x1 = 3
      · have HR : Hid (v = (x5 == 0)) := by show _ = _; rw [← HS]; by_cases hw : x5 = 0 <;> simp [c3, hw, o5, c1]
        have f0 : (x0 == 1) = false := beq_eq_false_iff_ne.2 o1
        have f1 : (x0 == 3) = false := beq_eq_false_iff_ne.2 o3
        have f2 : (x0 == 5) = true := beq_iff_eq.2 o5
        have f3 : (x1 == 1) = false := beq_eq_false_iff_ne.2 c1
        have f4 : (x1 != 3) = false := by simp; exact c3
        clear HS
        try clear hw
        try clear o1
        try clear o3
        try clear o5
        try clear c1
        try clear c3
        have HB0 := Lib.hid (bx6_new 49 w (.int .i64 x0) (.int .i64 x1) (.int .i64 x2) (.int .i64 x3) (.int .i64 x4) (.int .i64 x5))
        obtain ⟨q0, q1, q2, q3, q4, q5⟩ := cells6 HB0.out.box
        go_enter Tryz.func51, Tryz.ntmps51
        go_wp2_with fail
        refine (KB.out _).mono ?_
        rintro e w1 ⟨rfl, rfl⟩
        go_wp2_with fail
        go_ret
        exact ⟨ret_bool HR.out, HB0.out.bel⟩
      · have HR : Hid (v = true) := by show _ = _; rw [← HS]; simp [c3, o5, c1]
        have f0 : (x0 == 1) = false := beq_eq_false_iff_ne.2 o1
        have f1 : (x0 == 3) = false := beq_eq_false_iff_ne.2 o3
        have f2 : (x0 == 5) = true := beq_iff_eq.2 o5
        have f3 : (x1 == 1) = false := beq_eq_false_iff_ne.2 c1
        have f4 : (x1 != 3) = true := by simp; exact c3
        clear HS
        try clear hw
        try clear o1
        try clear o3
        try clear o5
        try clear c1
        try clear c3
        have HB0 := Lib.hid (bx6_new 49 w (.int .i64 x0) (.int .i64 x1) (.int .i64 x2) (.int .i64 x3) (.int .i64 x4) (.int .i64 x5))
        obtain ⟨q0, q1, q2, q3, q4, q5⟩ := cells6 HB0.out.box
        go_enter Tryz.func51, Tryz.ntmps51
        go_wp2_with fail
        refine (KB.out _).mono ?_
        rintro e w1 ⟨rfl, rfl⟩
        go_wp2_with fail
        go_ret
        exact ⟨ret_bool HR.out, HB0.out.bel⟩
  by_cases c3 : x1 = 3
  · have HR : Hid (v = (x5 == 0)) := by show _ = _; rw [← HS]; by_cases hw : x5 = 0 <;> simp [c3, hw, o1, o3, o5]
    have f0 : (x0 == 1) = false := beq_eq_false_iff_ne.2 o1
    have f1 : (x0 == 3) = false := beq_eq_false_iff_ne.2 o3
    have f2 : (x0 == 5) = false := beq_eq_false_iff_ne.2 o5
    have f3 : (x1 != 3) = false := by simp; exact c3
    clear HS
    try clear hw
    try clear o1
    try clear o3
    try clear o5
    try clear c1
    try clear c3
    have HB0 := Lib.hid (bx6_new 49 w (.int .i64 x0) (.int .i64 x1) (.int .i64 x2) (.int .i64 x3) (.int .i64 x4) (.int .i64 x5))
    obtain ⟨q0, q1, q2, q3, q4, q5⟩ := cells6 HB0.out.box
    go_enter Tryz.func51, Tryz.ntmps51
    go_wp2_with fail
    refine (KB.out _).mono ?_
    rintro e w1 ⟨rfl, rfl⟩
    go_wp2_with fail
    go_ret
    exact ⟨ret_bool HR.out, HB0.out.bel⟩
  · have HR : Hid (v = true) := by show _ = _; rw [← HS]; simp [c3, o1, o3, o5]
    have f0 : (x0 == 1) = false := beq_eq_false_iff_ne.2 o1
    have f1 : (x0 == 3) = false := beq_eq_false_iff_ne.2 o3
    have f2 : (x0 == 5) = false := beq_eq_false_iff_ne.2 o5
    have f3 : (x1 != 3) = true := by simp; exact c3
    clear HS
    try clear hw
    try clear o1
    try clear o3
    try clear o5
    try clear c1
    try clear c3
    have HB0 := Lib.hid (bx6_new 49 w (.int .i64 x0) (.int .i64 x1) (.int .i64 x2) (.int .i64 x3) (.int .i64 x4) (.int .i64 x5))
    obtain ⟨q0, q1, q2, q3, q4, q5⟩ := cells6 HB0.out.box
    go_enter Tryz.func51, Tryz.ntmps51
    go_wp2_with fail
    refine (KB.out _).mono ?_
    rintro e w1 ⟨rfl, rfl⟩
    go_wp2_with fail
    go_ret
    exact ⟨ret_bool HR.out, HB0.out.bel⟩

end Go.Proofs.YtdpgfnnhbfkacaaGreatDoor.Step
