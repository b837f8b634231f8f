/-
  The laws' awake, and StepReads; what was there stays as it was.
-/
import Derived.Test.YtaffjecnpclliaaDoorStepI
import Derived.Test.YtaffjecnpclliaaDoorStepFr
set_option linter.unusedVariables false
set_option linter.unusedSimpArgs false
set_option maxRecDepth 4000
namespace Go.Proofs.YtaffjecnpclliaaDoor.Step
open Go.RowKit StP
open Go.Proofs.YtaffjecnpclliaaDoor.Kt

theorem read_is (s : ByteArray) (x0 x1 x2 x3 x4 x5 : Int) (er : Int) (hx : gotS (readS s.data.toList) = ⟨x0, x1, x2, x3, x4, x5⟩) (he : errS (readS s.data.toList) = er) (hs : s.size ≤ 300) (w : World) (hv : Vars w) :
    Calls Tryd.prog 16 #[.string s] w fun e w' => e = .returned (.tuple #[.agg #[.int .i64 x0, .int .i64 x1, .int .i64 x2, .int .i64 x3, .int .i64 x4, .int .i64 x5], .int .i64 er]) ∧ Below w.heap.size w w' := by
  have h := read_any s w hs hv
  rw [hx, he] at h
  exact h
theorem rread_is (s : ByteArray) (x0 x1 x2 x3 x4 x5 : Int) (er : Int) (hx : gotS (readS s.data.toList) = ⟨x0, x1, x2, x3, x4, x5⟩) (he : errS (readS s.data.toList) = er) (hs : s.size ≤ 300) (w : World) :
    Calls Tryd.prog 17 #[.string s] w fun e w' => e = .returned (.tuple #[.agg #[.int .i64 x0, .int .i64 x1, .int .i64 x2, .int .i64 x3, .int .i64 x4, .int .i64 x5], .int .i64 er]) ∧ Below w.heap.size w w' := by
  have h := rread_any s w hs
  rw [hx, he] at h
  exact h
theorem text_is (x0 x1 x2 x3 x4 x5 : Int) (t : ByteArray) (ht : bs (textS ⟨x0, x1, x2, x3, x4, x5⟩) = t) (w : World) (hv : Vars w) : Calls Tryd.prog 11 #[.agg #[.int .i64 x0, .int .i64 x1, .int .i64 x2, .int .i64 x3, .int .i64 x4, .int .i64 x5]] w fun e w' => e = .returned (.string t) ∧ Below w.heap.size w w' := by
  rw [← ht]; exact text_any x0 x1 x2 x3 x4 x5 w hv.1
theorem rtext_is (x0 x1 x2 x3 x4 x5 : Int) (t : ByteArray) (ht : bs (textS ⟨x0, x1, x2, x3, x4, x5⟩) = t) (w : World) : Calls Tryd.prog 12 #[.agg #[.int .i64 x0, .int .i64 x1, .int .i64 x2, .int .i64 x3, .int .i64 x4, .int .i64 x5]] w fun e w' => e = .returned (.string t) ∧ Below w.heap.size w w' := by
  rw [← ht]; exact rtext_any x0 x1 x2 x3 x4 x5 w
theorem aw1 : readS ([104, 111, 108, 100, 47, 115, 111, 102, 116, 47, 48, 47, 49, 47, 49, 47, 50, 48] : List UInt8) = some (⟨1, 1, 0, 1, 1, 20⟩ : St) := by rfl
theorem aw2 : readS ([104, 111, 108, 100, 47, 102, 105, 114, 109, 47, 48, 47, 49, 47, 49, 47, 48] : List UInt8) = none := by rfl
theorem aw3 : bs (textS (⟨1, 1, 0, 1, 1, 20⟩ : St)) = ⟨#[104, 111, 108, 100, 47, 115, 111, 102, 116, 47, 48, 47, 49, 47, 49, 47, 50, 48]⟩ := by rw [(readS_some aw1).2]; rfl
set_option maxHeartbeats 2000000 in
theorem awake_any (w : World) (hv : Vars w) : Calls Tryd.prog 15 #[] w fun e w' => e = .returned (.bool true) ∧ Below w.heap.size w w' := by
  have hB0 := bx6_new 23 w (.int .i64 1) (.int .i64 1) (.int .i64 0) (.int .i64 1) (.int .i64 1) (.int .i64 20)
  obtain ⟨w0, hw0⟩ : ∃ w0, w.alloc (.cells #[.int .i64 1, .int .i64 1, .int .i64 0, .int .i64 1, .int .i64 1, .int .i64 20] 23) = w0 := ⟨_, rfl⟩
  rw [hw0] at hB0
  have HW := Lib.hid hw0
  have HB0 := Lib.hid hB0
  have HV := Lib.hid (fun W (hb : Below w.heap.size w W) => hv.keep hb)
  have C1 := Lib.hid (read_is ⟨#[104, 111, 108, 100, 47, 115, 111, 102, 116, 47, 48, 47, 49, 47, 49, 47, 50, 48]⟩ 1 1 0 1 1 20 0 (by rw [show (⟨#[104, 111, 108, 100, 47, 115, 111, 102, 116, 47, 48, 47, 49, 47, 49, 47, 50, 48]⟩ : ByteArray).data.toList = [104, 111, 108, 100, 47, 115, 111, 102, 116, 47, 48, 47, 49, 47, 49, 47, 50, 48] from rfl, aw1]; rfl) (by rw [show (⟨#[104, 111, 108, 100, 47, 115, 111, 102, 116, 47, 48, 47, 49, 47, 49, 47, 50, 48]⟩ : ByteArray).data.toList = [104, 111, 108, 100, 47, 115, 111, 102, 116, 47, 48, 47, 49, 47, 49, 47, 50, 48] from rfl, aw1]; rfl) (by decide) w0 (HV.out _ hB0.bel))
  clear hw0 hB0 hv
  go_enter Tryd.func15, Tryd.ntmps15
  go_wp2_with fail
  rw [show w.alloc (.cells #[.int .i64 1, .int .i64 1, .int .i64 0, .int .i64 1, .int .i64 1, .int .i64 20] 23) = w0 from HW.out]
  refine C1.out.mono ?_
  rintro e w1 ⟨rfl, hb⟩
  have HB1 := Lib.hid (HB0.out.keep hb)
  have HY1 := Lib.hid (at6_new 23 w1 (.int .i64 1) (.int .i64 1) (.int .i64 0) (.int .i64 1) (.int .i64 1) (.int .i64 20))
  have HB2 := Lib.hid (HB1.out.alloc (.cells #[.int .i64 1, .int .i64 1, .int .i64 0, .int .i64 1, .int .i64 1, .int .i64 20] 23))
  obtain ⟨y, hy⟩ : ∃ y, w1.heap.size = y := ⟨_, rfl⟩
  obtain ⟨u1, hu1⟩ : ∃ u1, w1.alloc (.cells #[.int .i64 1, .int .i64 1, .int .i64 0, .int .i64 1, .int .i64 1, .int .i64 20] 23) = u1 := ⟨_, rfl⟩
  rw [hu1] at HB2 HY1
  rw [hy] at HY1
  have HU1 := Lib.hid hu1
  have HYN := Lib.hid hy
  have C2 := Lib.hid (read_is ⟨#[104, 111, 108, 100, 47, 102, 105, 114, 109, 47, 48, 47, 49, 47, 49, 47, 48]⟩ 0 0 0 0 0 0 7 (by rw [show (⟨#[104, 111, 108, 100, 47, 102, 105, 114, 109, 47, 48, 47, 49, 47, 49, 47, 48]⟩ : ByteArray).data.toList = [104, 111, 108, 100, 47, 102, 105, 114, 109, 47, 48, 47, 49, 47, 49, 47, 48] from rfl, aw2]; rfl) (by rw [show (⟨#[104, 111, 108, 100, 47, 102, 105, 114, 109, 47, 48, 47, 49, 47, 49, 47, 48]⟩ : ByteArray).data.toList = [104, 111, 108, 100, 47, 102, 105, 114, 109, 47, 48, 47, 49, 47, 49, 47, 48] from rfl, aw2]; rfl) (by decide) u1 (HV.out _ HB2.out.bel))
  clear hb HB1 hu1 hy C1
  go_wp2_with fail
  rw [show w1.alloc (.cells #[.int .i64 1, .int .i64 1, .int .i64 0, .int .i64 1, .int .i64 1, .int .i64 20] 23) = u1 from HU1.out]
  rw [show w1.heap.size = y from HYN.out]
  refine C2.out.mono ?_
  rintro e w2 ⟨rfl, hb⟩
  have HB3 := Lib.hid ((HB2.out.keep hb).alloc (.cells #[.int .i64 0, .int .i64 0, .int .i64 0, .int .i64 0, .int .i64 0, .int .i64 0] 23))
  have HY3 := Lib.hid ((At6.keep HY1.out hb).alloc (.cells #[.int .i64 0, .int .i64 0, .int .i64 0, .int .i64 0, .int .i64 0, .int .i64 0] 23))
  obtain ⟨d0, d1, d2, d3, d4, d5⟩ := cells6 HB3.out.box
  clear hb HB2 HY1 C2
  go_wp2_with fail
  obtain ⟨u2, hu2⟩ : ∃ u2, w2.alloc (.cells #[.int .i64 0, .int .i64 0, .int .i64 0, .int .i64 0, .int .i64 0, .int .i64 0] 23) = u2 := ⟨_, rfl⟩
  rw [hu2] at HB3 HY3
  rw [hu2]
  have C3 := Lib.hid (text_is 1 1 0 1 1 20 _ aw3 u2 (HV.out _ HB3.out.bel))
  clear hu2 d0 d1 d2 d3 d4 d5
  refine C3.out.mono ?_
  rintro e w3 ⟨rfl, hb⟩
  have HB4 := Lib.hid (HB3.out.keep hb)
  have HY4 := Lib.hid (At6.keep HY3.out hb)
  obtain ⟨d0, d1, d2, d3, d4, d5⟩ := cells6 HB4.out.box
  obtain ⟨e0, e1, e2, e3, e4, e5⟩ := cells6 HY4.out
  have q1 := fun w => eql_st 1 1 0 1 1 20 1 1 0 1 1 20 w
  rw [eqS_refl] at q1
  have q3 := fun x y w => guard_st .eql x y 1 1 0 1 1 20 1 1 0 1 1 20 w
  have C4 := Lib.hid (outside_is 1 1 0 1 1 20 false (by decide) w3)
  clear hb HB3 HY3 C3
  go_wp2_with fail
  refine C4.out.mono ?_
  rintro e w4 ⟨rfl, hb⟩
  have HB5 := Lib.hid (HB4.out.keep hb)
  have C5 := Lib.hid (fit_is 1 1 0 1 1 20 true (by decide) w4)
  clear hb HB4 HY4 C4 d0 d1 d2 d3 d4 d5 e0 e1 e2 e3 e4 e5
  obtain ⟨d0, d1, d2, d3, d4, d5⟩ := cells6 HB5.out.box
  go_wp2_with fail
  refine C5.out.mono ?_
  rintro e w5 ⟨rfl, hb⟩
  have HB6 := Lib.hid (HB5.out.keep hb)
  clear hb
  go_wp2_with fail
  go_ret
  exact ⟨rfl, HB6.out.bel⟩

set_option maxHeartbeats 4000000 in
theorem reads_any (s : ByteArray) (w : World) (hk : s.size ≤ 9223372036854775807) (hv : Vars w) : Calls Tryd.prog 4 #[.string s] w fun e w' => e = .returned (.bool true) ∧ Below w.heap.size w w' := by
  have HV := Lib.hid (fun W (hb : Below w.heap.size w W) => hv.keep hb)
  by_cases h80 : 80 < s.size
  · have hi : (80 : Int) < (s.size : Int) := by omega
    have CA := Lib.hid (awake_any w hv)
    clear hv
    go_enter Tryd.func4, Tryd.ntmps4
    go_wp2_with fail
    refine CA.out.mono ?_
    rintro e w2 ⟨rfl, hb⟩
    have HB := Lib.hid hb
    clear hb
    go_wp2_with fail
    go_ret
    exact ⟨rfl, HB.out⟩
  have hi : ¬ (80 : Int) < (s.size : Int) := by omega
  obtain ⟨x0, x1, x2, x3, x4, x5, hx⟩ : ∃ x0 x1 x2 x3 x4 x5, gotS (readS s.data.toList) = ⟨x0, x1, x2, x3, x4, x5⟩ := st_split _
  obtain ⟨er, he⟩ : ∃ er, errS (readS s.data.toList) = er := ⟨_, rfl⟩
  have C1 := Lib.hid (read_is s x0 x1 x2 x3 x4 x5 er hx he (by omega) w hv)
  have C2 := Lib.hid (fun W => rread_is s x0 x1 x2 x3 x4 x5 er hx he (by omega) W)
  clear hx he hv
  go_enter Tryd.func4, Tryd.ntmps4
  go_wp2_with fail
  refine C1.out.mono ?_
  rintro e w1 ⟨rfl, hb⟩
  have B1 := Lib.hid hb
  have B2 := Lib.hid (hb.alloc hb.size (.cells #[.int .i64 x0, .int .i64 x1, .int .i64 x2, .int .i64 x3, .int .i64 x4, .int .i64 x5] 23))
  have Y1 := Lib.hid (at6_new 23 w1 (.int .i64 x0) (.int .i64 x1) (.int .i64 x2) (.int .i64 x3) (.int .i64 x4) (.int .i64 x5))
  obtain ⟨u1, hu1⟩ : ∃ u1, w1.alloc (.cells #[.int .i64 x0, .int .i64 x1, .int .i64 x2, .int .i64 x3, .int .i64 x4, .int .i64 x5] 23) = u1 := ⟨_, rfl⟩
  rw [hu1] at B2 Y1
  have HU := Lib.hid hu1
  clear hb hu1 C1
  go_wp2_with fail
  rw [show w1.alloc (.cells #[.int .i64 x0, .int .i64 x1, .int .i64 x2, .int .i64 x3, .int .i64 x4, .int .i64 x5] 23) = u1 from HU.out]
  refine (C2.out u1).mono ?_
  rintro e w2 ⟨rfl, hb⟩
  have B3 := Lib.hid (below_keep B2.out hb B2.out.size)
  have B4 := Lib.hid (B3.out.alloc B3.out.size (.cells #[.int .i64 x0, .int .i64 x1, .int .i64 x2, .int .i64 x3, .int .i64 x4, .int .i64 x5] 23))
  have Y2 := Lib.hid ((At6.keep Y1.out hb).alloc (.cells #[.int .i64 x0, .int .i64 x1, .int .i64 x2, .int .i64 x3, .int .i64 x4, .int .i64 x5] 23))
  have Z2 := Lib.hid (at6_new 23 w2 (.int .i64 x0) (.int .i64 x1) (.int .i64 x2) (.int .i64 x3) (.int .i64 x4) (.int .i64 x5))
  obtain ⟨d0, d1, d2, d3, d4, d5⟩ := cells6 Y2.out
  obtain ⟨e0, e1, e2, e3, e4, e5⟩ := cells6 Z2.out
  have q1 := fun w => eql_st x0 x1 x2 x3 x4 x5 x0 x1 x2 x3 x4 x5 w
  rw [eqS_refl] at q1
  have q3 := fun x y w => guard_st .eql x y x0 x1 x2 x3 x4 x5 x0 x1 x2 x3 x4 x5 w
  have hee : (er == er) = true := by simp
  have CA := Lib.hid (awake_any (w2.alloc (.cells #[.int .i64 x0, .int .i64 x1, .int .i64 x2, .int .i64 x3, .int .i64 x4, .int .i64 x5] 23)) (HV.out _ B4.out))
  clear hb C2 Y1
  go_wp2_with fail
  refine CA.out.mono ?_
  rintro e w3 ⟨rfl, hb⟩
  have B5 := Lib.hid (below_keep B4.out hb B4.out.size)
  clear hb
  go_wp2_with fail
  go_ret
  exact ⟨rfl, B5.out⟩
end Go.Proofs.YtaffjecnpclliaaDoor.Step
namespace Go.Proofs.YtaffjecnpclliaaDoor
open Go.RowKit
theorem Contract.stepReads (a0 : ByteArray) (W : World) (w0 : a0.size ≤ maxLen) (ht : Laid W) :
    Calls Tryd.prog 4 #[.string a0] W fun e W' => e = .returned (.bool true) ∧ Below W.heap.size W W' := by
  unfold maxLen at w0
  exact Go.Proofs.YtaffjecnpclliaaDoor.Step.reads_any a0 W w0 ht
end Go.Proofs.YtaffjecnpclliaaDoor
