/-
  The law SuperBest, walked.
-/
import Derived.Test.YtigiaiddnbpcmaaSuperO
set_option linter.unusedVariables false
set_option maxRecDepth 4000
namespace Go.Proofs.Ytigiaiddnbpcmaa
open Go.RowKit SuperP
open Wire (IntsAt)

theorem superBest_long (a b : ByteArray) (w : World) (h : ¬ (a.size ≤ 300 ∧ b.size ≤ 300)) (ha : a.size ≤ 9223372036854775807) (hb : b.size ≤ 9223372036854775807) :
    Calls Try.prog 4 #[.string a, .string b] w fun e w' => e = .returned (.bool true) ∧ Below w.heap.size w w' := by
  by_cases h1 : 300 < a.size
  · have t1 : decide ((300 : Int) < (a.size : Int)) = true := by simp; omega
    go_enter Try.func4, Try.ntmps4
    go_wp2_with fail
    refine (awake_any _).mono ?_
    rintro e w1 ⟨rfl, hb1⟩
    go_wp2_with fail
    go_ret
    exact ⟨rfl, hb1⟩
  · have t1 : decide ((300 : Int) < (a.size : Int)) = false := by simp; omega
    have t2 : decide ((300 : Int) < (b.size : Int)) = true := by simp; omega
    go_enter Try.func4, Try.ntmps4
    go_wp2_with fail
    refine (awake_any _).mono ?_
    rintro e w1 ⟨rfl, hb1⟩
    go_wp2_with fail
    go_ret
    exact ⟨rfl, hb1⟩
theorem sameB_self (y : Sup) : sameB y y = true := decide_eq_true rfl
set_option maxHeartbeats 4000000 in
theorem superBest_walk (a b : ByteArray) (w : World) (ha : a.size ≤ 300) (hb : b.size ≤ 300) :
    Calls Try.prog 4 #[.string a, .string b] w fun e w' => e = .returned (.bool true) ∧ Below w.heap.size w w' := by
  have k1 := fun w => sbest_any a b w (by omega) (by omega)
  have k2 := fun w => rbest_any a b w (by omega) (by omega)
  generalize bestY a.data.toList b.data.toList = y at *
  generalize bestN a.data.toList b.data.toList = n at *
  generalize bestE a.data.toList b.data.toList = er at *
  have K1 := Lib.hid k1; have K2 := Lib.hid k2
  have t1 : decide ((300 : Int) < (a.size : Int)) = false := by simp; omega
  have t2 : decide ((300 : Int) < (b.size : Int)) = false := by simp; omega
  clear k1 k2 ha hb
  go_enter Try.func4, Try.ntmps4
  go_wp2_with fail
  refine (K1.out _).mono ?_
  rintro e w1 ⟨⟨a1, c1, a2, c2, rfl, hx, _, _⟩, hb1⟩
  simp only [supV]
  have hx2 := heap_alloc_new w1 (.cells #[.int .i64 y.gen, .int .i64 y.base, .int .i64 y.size, .int .i64 y.cg, .slice a1 y.chk.length c1, .slice a2 y.log.length c2] 24)
  have hB2 := hb1.alloc hb1.size (.cells #[.int .i64 y.gen, .int .i64 y.base, .int .i64 y.size, .int .i64 y.cg, .slice a1 y.chk.length c1, .slice a2 y.log.length c2] 24)
  have hs2 := hx.keep ((Below.refl _ w1).alloc (Nat.le_refl _) (.cells #[.int .i64 y.gen, .int .i64 y.base, .int .i64 y.size, .int .i64 y.cg, .slice a1 y.chk.length c1, .slice a2 y.log.length c2] 24))
  have HX2 := Lib.hid hx2; have HB2 := Lib.hid hB2; have HS2 := Lib.hid hs2
  clear hx2 hB2 hs2 hb1 hx
  go_wp2_with fail
  refine (K2.out _).mono ?_
  rintro e w3 ⟨⟨b1, f1, b2, f2, rfl, hy, _, _⟩, hb3⟩
  simp only [supV]
  have hx3 := (hb3.block w1.heap.size (by simp)).trans HX2.out
  have hk3 := (Array.getElem?_eq_some_iff.1 hx3).1
  have hx4 := (Below.heap_alloc w3 (.cells #[.int .i64 y.gen, .int .i64 y.base, .int .i64 y.size, .int .i64 y.cg, .slice b1 y.chk.length f1, .slice b2 y.log.length f2] 24) _ hk3).trans hx3
  have hy4 := heap_alloc_new w3 (.cells #[.int .i64 y.gen, .int .i64 y.base, .int .i64 y.size, .int .i64 y.cg, .slice b1 y.chk.length f1, .slice b2 y.log.length f2] 24)
  have hB3 := Wire.below_keep HB2.out hb3 HB2.out.size
  have hB4 := hB3.alloc hB3.size (.cells #[.int .i64 y.gen, .int .i64 y.base, .int .i64 y.size, .int .i64 y.cg, .slice b1 y.chk.length f1, .slice b2 y.log.length f2] 24)
  have hbb := (Below.refl _ w3).alloc (Nat.le_refl _) (.cells #[.int .i64 y.gen, .int .i64 y.base, .int .i64 y.size, .int .i64 y.cg, .slice b1 y.chk.length f1, .slice b2 y.log.length f2] 24)
  have hxs := (HS2.out.keep hb3).keep hbb
  have hys := hy.keep hbb
  have hsm := rsupsame_any y y a1 a2 b1 b2 y.chk.length c1 y.log.length c2 y.chk.length f1 y.log.length f2 _ hxs hys
  rw [sameB_self] at hsm
  unfold supV at hsm
  obtain ⟨p0, p1, p2, p3, p4, p5⟩ := six_cells hx4
  obtain ⟨q0, q1, q2, q3, q4, q5⟩ := six_cells hy4
  have HSM := Lib.hid hsm; have HB4 := Lib.hid hB4
  clear hx3 hk3 hx4 hy4 hB3 hB4 hbb hxs hys hsm hy hb3 HX2 HB2 HS2
  go_wp2_with fail
  refine HSM.out.mono ?_
  rintro e w5 ⟨rfl, hb5⟩
  have HB5 := Lib.hid (Wire.below_keep HB4.out hb5 HB4.out.size)
  clear hb5 p0 p1 p2 p3 p4 p5 q0 q1 q2 q3 q4 q5
  go_wp2_with fail
  refine (awake_any _).mono ?_
  rintro e w6 ⟨rfl, hb6⟩
  have HB6 := Lib.hid (Wire.below_keep HB5.out hb6 HB5.out.size)
  clear hb6
  go_wp2_with fail
  go_ret
  exact ⟨rfl, HB6.out⟩
end Go.Proofs.Ytigiaiddnbpcmaa
