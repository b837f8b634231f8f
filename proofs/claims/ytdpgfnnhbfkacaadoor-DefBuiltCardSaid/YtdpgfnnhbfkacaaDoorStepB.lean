/-
  The contracts of suits and of Fit, the program's and the document's: any step; what was there stays as it was.
-/
import Derived.Test.YtdpgfnnhbfkacaaDoorStepA
set_option linter.unusedVariables false
set_option linter.unusedSimpArgs false
set_option maxRecDepth 4000
set_option maxRecDepth 4000
namespace Go.Proofs.YtdpgfnnhbfkacaaDoor.Step
open Go.RowKit StP
open Go.Proofs.YtdpgfnnhbfkacaaDoor.Kt

set_option maxHeartbeats 4000000 in
theorem suits_is (x0 x1 x2 x3 x4 x5 : Int) (v : Bool) (hv : suitS ⟨x0, x1, x2, x3, x4, x5⟩ = v) (w : World) : Calls Tryd.prog 41 #[.agg #[.int .i64 x0, .int .i64 x1, .int .i64 x2, .int .i64 x3, .int .i64 x4, .int .i64 x5]] w fun e w' => e = .returned (.bool v) ∧ Below w.heap.size w w' := by
  by_cases h3 : x1 = 3
  · have KM := Lib.hid (must_is x0 x1 x2 x3 x4 x5 true (by simp [h3]))
    by_cases hw : x5 = 0
    · have e5 : (x5 == 0) = true := beq_iff_eq.2 hw
      by_cases o1 : x0 = 1
      · have HR : Hid (v = (x1 == 1)) := by show _ = _; rw [← hv]; unfold suitS; simp [hw, o1, Bool.beq_eq_decide_eq]
        have f1 : (x0 == 1) = true := beq_iff_eq.2 o1
        clear hv
        try clear hw
        try clear h3
        try clear o1
        try clear o3
        try clear o5
        try clear c1
        try clear c3
        have HB0 := Lib.hid (bx6_new 29 w (.int .i64 x0) (.int .i64 x1) (.int .i64 x2) (.int .i64 x3) (.int .i64 x4) (.int .i64 x5))
        obtain ⟨q0, q1, q2, q3, q4, q5⟩ := cells6 HB0.out.box
        go_enter Tryd.func41, Tryd.ntmps41
        go_wp2_with fail
        refine (KM.out _).mono ?_
        rintro e w1 ⟨rfl, hb⟩
        have HB1 := Lib.hid (HB0.out.keep hb)
        clear hb q0 q1 q2 q3 q4 q5 HB0
        obtain ⟨q0, q1, q2, q3, q4, q5⟩ := cells6 HB1.out.box
        go_wp2_with fail
        go_ret
        exact ⟨ret_bool HR.out, HB1.out.bel⟩
      by_cases o3 : x0 = 3
      · have HR : Hid (v = (x1 == 1)) := by show _ = _; rw [← hv]; unfold suitS; simp [hw, o3, Bool.beq_eq_decide_eq]
        have f1 : (x0 == 1) = false := beq_eq_false_iff_ne.2 o1
        have f3 : (x0 == 3) = true := beq_iff_eq.2 o3
        clear hv
        try clear hw
        try clear h3
        try clear o1
        try clear o3
        try clear o5
        try clear c1
        try clear c3
        have HB0 := Lib.hid (bx6_new 29 w (.int .i64 x0) (.int .i64 x1) (.int .i64 x2) (.int .i64 x3) (.int .i64 x4) (.int .i64 x5))
        obtain ⟨q0, q1, q2, q3, q4, q5⟩ := cells6 HB0.out.box
        go_enter Tryd.func41, Tryd.ntmps41
        go_wp2_with fail
        refine (KM.out _).mono ?_
        rintro e w1 ⟨rfl, hb⟩
        have HB1 := Lib.hid (HB0.out.keep hb)
        clear hb q0 q1 q2 q3 q4 q5 HB0
        obtain ⟨q0, q1, q2, q3, q4, q5⟩ := cells6 HB1.out.box
        go_wp2_with fail
        go_ret
        exact ⟨ret_bool HR.out, HB1.out.bel⟩
      by_cases o5 : x0 = 5
      · have HR : Hid (v = !(x1 == 1)) := by show _ = _; rw [← hv]; unfold suitS; simp [hw, o5, Bool.beq_eq_decide_eq]
        have f1 : (x0 == 1) = false := beq_eq_false_iff_ne.2 o1
        have f3 : (x0 == 3) = false := beq_eq_false_iff_ne.2 o3
        have f5 : (x0 == 5) = true := beq_iff_eq.2 o5
        clear hv
        try clear hw
        try clear h3
        try clear o1
        try clear o3
        try clear o5
        try clear c1
        try clear c3
        have HB0 := Lib.hid (bx6_new 29 w (.int .i64 x0) (.int .i64 x1) (.int .i64 x2) (.int .i64 x3) (.int .i64 x4) (.int .i64 x5))
        obtain ⟨q0, q1, q2, q3, q4, q5⟩ := cells6 HB0.out.box
        go_enter Tryd.func41, Tryd.ntmps41
        go_wp2_with fail
        refine (KM.out _).mono ?_
        rintro e w1 ⟨rfl, hb⟩
        have HB1 := Lib.hid (HB0.out.keep hb)
        clear hb q0 q1 q2 q3 q4 q5 HB0
        obtain ⟨q0, q1, q2, q3, q4, q5⟩ := cells6 HB1.out.box
        go_wp2_with fail
        go_ret
        exact ⟨ret_bool HR.out, HB1.out.bel⟩
      have HR : Hid (v = true) := by show _ = _; rw [← hv]; unfold suitS; simp [hw, o1, o3, o5]
      have f1 : (x0 == 1) = false := beq_eq_false_iff_ne.2 o1
      have f3 : (x0 == 3) = false := beq_eq_false_iff_ne.2 o3
      have f5 : (x0 == 5) = false := beq_eq_false_iff_ne.2 o5
      clear hv
      try clear hw
      try clear h3
      try clear o1
      try clear o3
      try clear o5
      try clear c1
      try clear c3
      have HB0 := Lib.hid (bx6_new 29 w (.int .i64 x0) (.int .i64 x1) (.int .i64 x2) (.int .i64 x3) (.int .i64 x4) (.int .i64 x5))
      obtain ⟨q0, q1, q2, q3, q4, q5⟩ := cells6 HB0.out.box
      go_enter Tryd.func41, Tryd.ntmps41
      go_wp2_with fail
      refine (KM.out _).mono ?_
      rintro e w1 ⟨rfl, hb⟩
      have HB1 := Lib.hid (HB0.out.keep hb)
      clear hb q0 q1 q2 q3 q4 q5 HB0
      obtain ⟨q0, q1, q2, q3, q4, q5⟩ := cells6 HB1.out.box
      go_wp2_with fail
      go_ret
      exact ⟨ret_bool HR.out, HB1.out.bel⟩
    · have HR : Hid (v = false) := by show _ = _; rw [← hv]; unfold suitS; simp [h3, hw]
      have e5 : (x5 == 0) = false := beq_eq_false_iff_ne.2 hw
      clear hv
      try clear hw
      try clear h3
      try clear o1
      try clear o3
      try clear o5
      try clear c1
      try clear c3
      have HB0 := Lib.hid (bx6_new 29 w (.int .i64 x0) (.int .i64 x1) (.int .i64 x2) (.int .i64 x3) (.int .i64 x4) (.int .i64 x5))
      obtain ⟨q0, q1, q2, q3, q4, q5⟩ := cells6 HB0.out.box
      go_enter Tryd.func41, Tryd.ntmps41
      go_wp2_with fail
      refine (KM.out _).mono ?_
      rintro e w1 ⟨rfl, hb⟩
      have HB1 := Lib.hid (HB0.out.keep hb)
      clear hb q0 q1 q2 q3 q4 q5 HB0
      obtain ⟨q0, q1, q2, q3, q4, q5⟩ := cells6 HB1.out.box
      go_wp2_with fail
      go_ret
      exact ⟨ret_bool HR.out, HB1.out.bel⟩
  have KM := Lib.hid (must_is x0 x1 x2 x3 x4 x5 false (by simp [h3]))
  by_cases o1 : x0 = 1
  · have HR : Hid (v = (x1 == 1)) := by show _ = _; rw [← hv]; unfold suitS; simp [h3, o1, Bool.beq_eq_decide_eq]
    have f1 : (x0 == 1) = true := beq_iff_eq.2 o1
    clear hv
    try clear hw
    try clear h3
    try clear o1
    try clear o3
    try clear o5
    try clear c1
    try clear c3
    have HB0 := Lib.hid (bx6_new 29 w (.int .i64 x0) (.int .i64 x1) (.int .i64 x2) (.int .i64 x3) (.int .i64 x4) (.int .i64 x5))
    obtain ⟨q0, q1, q2, q3, q4, q5⟩ := cells6 HB0.out.box
    go_enter Tryd.func41, Tryd.ntmps41
    go_wp2_with fail
    refine (KM.out _).mono ?_
    rintro e w1 ⟨rfl, hb⟩
    have HB1 := Lib.hid (HB0.out.keep hb)
    clear hb q0 q1 q2 q3 q4 q5 HB0
    obtain ⟨q0, q1, q2, q3, q4, q5⟩ := cells6 HB1.out.box
    go_wp2_with fail
    go_ret
    exact ⟨ret_bool HR.out, HB1.out.bel⟩
  by_cases o3 : x0 = 3
  · have HR : Hid (v = (x1 == 1)) := by show _ = _; rw [← hv]; unfold suitS; simp [h3, o3, Bool.beq_eq_decide_eq]
    have f1 : (x0 == 1) = false := beq_eq_false_iff_ne.2 o1
    have f3 : (x0 == 3) = true := beq_iff_eq.2 o3
    clear hv
    try clear hw
    try clear h3
    try clear o1
    try clear o3
    try clear o5
    try clear c1
    try clear c3
    have HB0 := Lib.hid (bx6_new 29 w (.int .i64 x0) (.int .i64 x1) (.int .i64 x2) (.int .i64 x3) (.int .i64 x4) (.int .i64 x5))
    obtain ⟨q0, q1, q2, q3, q4, q5⟩ := cells6 HB0.out.box
    go_enter Tryd.func41, Tryd.ntmps41
    go_wp2_with fail
    refine (KM.out _).mono ?_
    rintro e w1 ⟨rfl, hb⟩
    have HB1 := Lib.hid (HB0.out.keep hb)
    clear hb q0 q1 q2 q3 q4 q5 HB0
    obtain ⟨q0, q1, q2, q3, q4, q5⟩ := cells6 HB1.out.box
    go_wp2_with fail
    go_ret
    exact ⟨ret_bool HR.out, HB1.out.bel⟩
  by_cases o5 : x0 = 5
  · have HR : Hid (v = !(x1 == 1)) := by show _ = _; rw [← hv]; unfold suitS; simp [h3, o5, Bool.beq_eq_decide_eq]
    have f1 : (x0 == 1) = false := beq_eq_false_iff_ne.2 o1
    have f3 : (x0 == 3) = false := beq_eq_false_iff_ne.2 o3
    have f5 : (x0 == 5) = true := beq_iff_eq.2 o5
    clear hv
    try clear hw
    try clear h3
    try clear o1
    try clear o3
    try clear o5
    try clear c1
    try clear c3
    have HB0 := Lib.hid (bx6_new 29 w (.int .i64 x0) (.int .i64 x1) (.int .i64 x2) (.int .i64 x3) (.int .i64 x4) (.int .i64 x5))
    obtain ⟨q0, q1, q2, q3, q4, q5⟩ := cells6 HB0.out.box
    go_enter Tryd.func41, Tryd.ntmps41
    go_wp2_with fail
    refine (KM.out _).mono ?_
    rintro e w1 ⟨rfl, hb⟩
    have HB1 := Lib.hid (HB0.out.keep hb)
    clear hb q0 q1 q2 q3 q4 q5 HB0
    obtain ⟨q0, q1, q2, q3, q4, q5⟩ := cells6 HB1.out.box
    go_wp2_with fail
    go_ret
    exact ⟨ret_bool HR.out, HB1.out.bel⟩
  have HR : Hid (v = true) := by show _ = _; rw [← hv]; unfold suitS; simp [h3, o1, o3, o5]
  have f1 : (x0 == 1) = false := beq_eq_false_iff_ne.2 o1
  have f3 : (x0 == 3) = false := beq_eq_false_iff_ne.2 o3
  have f5 : (x0 == 5) = false := beq_eq_false_iff_ne.2 o5
  clear hv
  try clear hw
  try clear h3
  try clear o1
  try clear o3
  try clear o5
  try clear c1
  try clear c3
  have HB0 := Lib.hid (bx6_new 29 w (.int .i64 x0) (.int .i64 x1) (.int .i64 x2) (.int .i64 x3) (.int .i64 x4) (.int .i64 x5))
  obtain ⟨q0, q1, q2, q3, q4, q5⟩ := cells6 HB0.out.box
  go_enter Tryd.func41, Tryd.ntmps41
  go_wp2_with fail
  refine (KM.out _).mono ?_
  rintro e w1 ⟨rfl, hb⟩
  have HB1 := Lib.hid (HB0.out.keep hb)
  clear hb q0 q1 q2 q3 q4 q5 HB0
  obtain ⟨q0, q1, q2, q3, q4, q5⟩ := cells6 HB1.out.box
  go_wp2_with fail
  go_ret
  exact ⟨ret_bool HR.out, HB1.out.bel⟩

set_option maxHeartbeats 4000000 in
theorem fit_is (x0 x1 x2 x3 x4 x5 : Int) (v : Bool) (hv : fitS ⟨x0, x1, x2, x3, x4, x5⟩ = v) (w : World) :
    Calls Tryd.prog 19 #[.agg #[.int .i64 x0, .int .i64 x1, .int .i64 x2, .int .i64 x3, .int .i64 x4, .int .i64 x5]] w fun e w' => e = .returned (.bool v) ∧ Below w.heap.size w w' := by
  unfold fitS at hv
  dsimp only at hv
  by_cases h0 : 1 ≤ x0
  rotate_left
  · have HR : Hid (v = false) := by show _ = _; rw [← hv]; simp [h0]
    clear hv
    have HB0 := Lib.hid (bx6_new 29 w (.int .i64 x0) (.int .i64 x1) (.int .i64 x2) (.int .i64 x3) (.int .i64 x4) (.int .i64 x5))
    obtain ⟨q0, q1, q2, q3, q4, q5⟩ := cells6 HB0.out.box
    go_enter Tryd.func19, Tryd.ntmps19
    go_wp2_with fail
    go_ret
    exact ⟨ret_bool HR.out, HB0.out.bel⟩
  by_cases h1 : x0 ≤ 6
  rotate_left
  · have HR : Hid (v = false) := by show _ = _; rw [← hv]; simp [h1]
    clear hv
    have HB0 := Lib.hid (bx6_new 29 w (.int .i64 x0) (.int .i64 x1) (.int .i64 x2) (.int .i64 x3) (.int .i64 x4) (.int .i64 x5))
    obtain ⟨q0, q1, q2, q3, q4, q5⟩ := cells6 HB0.out.box
    go_enter Tryd.func19, Tryd.ntmps19
    go_wp2_with fail
    go_ret
    exact ⟨ret_bool HR.out, HB0.out.bel⟩
  by_cases h2 : 1 ≤ x1
  rotate_left
  · have HR : Hid (v = false) := by show _ = _; rw [← hv]; simp [h2]
    clear hv
    have HB0 := Lib.hid (bx6_new 29 w (.int .i64 x0) (.int .i64 x1) (.int .i64 x2) (.int .i64 x3) (.int .i64 x4) (.int .i64 x5))
    obtain ⟨q0, q1, q2, q3, q4, q5⟩ := cells6 HB0.out.box
    go_enter Tryd.func19, Tryd.ntmps19
    go_wp2_with fail
    go_ret
    exact ⟨ret_bool HR.out, HB0.out.bel⟩
  by_cases h3 : x1 ≤ 3
  rotate_left
  · have HR : Hid (v = false) := by show _ = _; rw [← hv]; simp [h3]
    clear hv
    have HB0 := Lib.hid (bx6_new 29 w (.int .i64 x0) (.int .i64 x1) (.int .i64 x2) (.int .i64 x3) (.int .i64 x4) (.int .i64 x5))
    obtain ⟨q0, q1, q2, q3, q4, q5⟩ := cells6 HB0.out.box
    go_enter Tryd.func19, Tryd.ntmps19
    go_wp2_with fail
    go_ret
    exact ⟨ret_bool HR.out, HB0.out.bel⟩
  cases h4 : BackP.fitV x2 x3 x4 with
  | false =>
    have KB := Lib.hid (fun w => Back.fit_any x2 x3 x4 w)
    rw [h4] at KB
    have HR : Hid (v = false) := by show _ = _; rw [← hv]; simp [h4]
    clear hv h4
    have HB0 := Lib.hid (bx6_new 29 w (.int .i64 x0) (.int .i64 x1) (.int .i64 x2) (.int .i64 x3) (.int .i64 x4) (.int .i64 x5))
    obtain ⟨q0, q1, q2, q3, q4, q5⟩ := cells6 HB0.out.box
    go_enter Tryd.func19, Tryd.ntmps19
    go_wp2_with fail
    refine (KB.out _).mono ?_
    rintro e w1 ⟨rfl, rfl⟩
    go_wp2_with fail
    go_ret
    exact ⟨ret_bool HR.out, HB0.out.bel⟩
  | true =>
  have KB := Lib.hid (fun w => Back.fit_any x2 x3 x4 w)
  rw [h4] at KB
  by_cases h5 : 0 ≤ x5
  rotate_left
  · have HR : Hid (v = false) := by show _ = _; rw [← hv]; simp [h5]
    clear hv
    have HB0 := Lib.hid (bx6_new 29 w (.int .i64 x0) (.int .i64 x1) (.int .i64 x2) (.int .i64 x3) (.int .i64 x4) (.int .i64 x5))
    obtain ⟨q0, q1, q2, q3, q4, q5⟩ := cells6 HB0.out.box
    go_enter Tryd.func19, Tryd.ntmps19
    go_wp2_with fail
    refine (KB.out _).mono ?_
    rintro e w1 ⟨rfl, rfl⟩
    go_wp2_with fail
    go_ret
    exact ⟨ret_bool HR.out, HB0.out.bel⟩
  by_cases h6 : x5 ≤ 100
  rotate_left
  · have HR : Hid (v = false) := by show _ = _; rw [← hv]; simp [h6]
    clear hv
    have HB0 := Lib.hid (bx6_new 29 w (.int .i64 x0) (.int .i64 x1) (.int .i64 x2) (.int .i64 x3) (.int .i64 x4) (.int .i64 x5))
    obtain ⟨q0, q1, q2, q3, q4, q5⟩ := cells6 HB0.out.box
    go_enter Tryd.func19, Tryd.ntmps19
    go_wp2_with fail
    refine (KB.out _).mono ?_
    rintro e w1 ⟨rfl, rfl⟩
    go_wp2_with fail
    go_ret
    exact ⟨ret_bool HR.out, HB0.out.bel⟩
  have HR : Hid (v = suitS ⟨x0, x1, x2, x3, x4, x5⟩) := by show _ = _; rw [← hv]; simp [h0, h1, h2, h3, h4, h5, h6]
  have KS := Lib.hid (suits_is x0 x1 x2 x3 x4 x5 v HR.out.symm)
  clear hv h4
  have HB0 := Lib.hid (bx6_new 29 w (.int .i64 x0) (.int .i64 x1) (.int .i64 x2) (.int .i64 x3) (.int .i64 x4) (.int .i64 x5))
  obtain ⟨q0, q1, q2, q3, q4, q5⟩ := cells6 HB0.out.box
  go_enter Tryd.func19, Tryd.ntmps19
  go_wp2_with fail
  refine (KB.out _).mono ?_
  rintro e w1 ⟨rfl, rfl⟩
  go_wp2_with fail
  refine (KS.out _).mono ?_
  rintro e w1 ⟨rfl, hb⟩
  have HB1 := Lib.hid (HB0.out.keep hb)
  clear hb q0 q1 q2 q3 q4 q5 HB0
  go_wp2_with fail
  go_ret
  exact ⟨rfl, HB1.out.bel⟩

end Go.Proofs.YtdpgfnnhbfkacaaDoor.Step
