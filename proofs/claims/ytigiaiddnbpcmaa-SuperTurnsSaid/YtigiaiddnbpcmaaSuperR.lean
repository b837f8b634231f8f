/-
  The law SuperBack, walked.
-/
import Derived.Test.YtigiaiddnbpcmaaSuperP
import Derived.Test.YtigiaiddnbpcmaaSuperQ
set_option linter.unusedVariables false
set_option maxRecDepth 4000
namespace Go.Proofs.Ytigiaiddnbpcmaa
open Go.RowKit SuperP
open Wire (IntsAt)

def fewB (x : Sup) : Bool := decide (x.chk.length ≤ 80) && decide (x.log.length ≤ 80)
theorem few_lens {x : Sup} (h : fewB x = true) : x.chk.length ≤ 80 ∧ x.log.length ≤ 80 := by
  unfold fewB at h
  rw [Bool.and_eq_true, decide_eq_true_eq, decide_eq_true_eq] at h
  exact h
theorem few_box (x : Sup) (a1 a2 : Option Addr) (l1 c1 l2 c2 : Nat) (w : World) (h : SupAt w x a1 l1 a2 l2) (b : Bool) (hf : fewB x = b) :
    Bo w (w.alloc (.cells #[.int .i64 x.gen, .int .i64 x.base, .int .i64 x.size, .int .i64 x.cg, .slice a1 l1 c1, .slice a2 l2 c2] 24)) w.heap.size #[.int .i64 x.gen, .int .i64 x.base, .int .i64 x.size, .int .i64 x.cg, .slice a1 l1 c1, .slice a2 l2 c2] ∧ Calls Try.prog 7 #[.agg #[.int .i64 x.gen, .int .i64 x.base, .int .i64 x.size, .int .i64 x.cg, .slice a1 l1 c1, .slice a2 l2 c2]] (w.alloc (.cells #[.int .i64 x.gen, .int .i64 x.base, .int .i64 x.size, .int .i64 x.cg, .slice a1 l1 c1, .slice a2 l2 c2] 24)) fun e w' => e = .returned (.bool b) ∧ Below (w.alloc (.cells #[.int .i64 x.gen, .int .i64 x.base, .int .i64 x.size, .int .i64 x.cg, .slice a1 l1 c1, .slice a2 l2 c2] 24)).heap.size (w.alloc (.cells #[.int .i64 x.gen, .int .i64 x.base, .int .i64 x.size, .int .i64 x.cg, .slice a1 l1 c1, .slice a2 l2 c2] 24)) w' := by
  have h0 := bo_new w #[.int .i64 x.gen, .int .i64 x.base, .int .i64 x.size, .int .i64 x.cg, .slice a1 l1 c1, .slice a2 l2 c2]
  refine ⟨h0, ?_⟩
  have := few_any x a1 a2 l1 c1 l2 c2 _ (h.keep h0.below)
  rw [show (decide (x.chk.length ≤ 80) && decide (x.log.length ≤ 80)) = b from hf] at this
  exact this
theorem superBack_many (x : Sup) (a1 a2 : Option Addr) (l1 c1 l2 c2 : Nat) (s : ByteArray) (w : World) (h : SupAt w x a1 l1 a2 l2) (hf : fewB x = false) :
    Calls Try.prog 5 #[supV x (.slice a1 l1 c1) (.slice a2 l2 c2), .string s] w fun e w' => e = .returned (.bool true) ∧ Below w.heap.size w w' := by
  obtain ⟨h0, hw⟩ := few_box x a1 a2 l1 c1 l2 c2 w h _ hf
  have HB0 := Lib.hid h0; have HFW := Lib.hid hw
  clear h0 hw h hf
  unfold supV
  go_enter Try.func5, Try.ntmps5
  go_wp2_with fail
  refine HFW.out.mono ?_
  rintro e w1 ⟨rfl, hb1⟩
  have HB1 := Lib.hid (HB0.out.keep hb1)
  clear hb1 HFW HB0
  go_wp2_with fail
  refine (awake_any _).mono ?_
  rintro e w2 ⟨rfl, hb2⟩
  have HB2 := Lib.hid (Wire.below_keep HB1.out.below hb2 HB1.out.below.size)
  clear hb2
  go_wp2_with fail
  go_ret
  exact ⟨rfl, HB2.out⟩

theorem superBack_long (x : Sup) (a1 a2 : Option Addr) (l1 c1 l2 c2 : Nat) (s : ByteArray) (w : World) (h : SupAt w x a1 l1 a2 l2) (hf : fewB x = true) (hs : 300 < s.size) (hss : s.size ≤ 9223372036854775807) :
    Calls Try.prog 5 #[supV x (.slice a1 l1 c1) (.slice a2 l2 c2), .string s] w fun e w' => e = .returned (.bool true) ∧ Below w.heap.size w w' := by
  obtain ⟨h0, hw⟩ := few_box x a1 a2 l1 c1 l2 c2 w h _ hf
  have HB0 := Lib.hid h0; have HFW := Lib.hid hw
  have t1 : decide ((300 : Int) < (s.size : Int)) = true := by simp; omega
  clear h0 hw h hf hs
  unfold supV
  go_enter Try.func5, Try.ntmps5
  go_wp2_with fail
  refine HFW.out.mono ?_
  rintro e w1 ⟨rfl, hb1⟩
  have HB1 := Lib.hid (HB0.out.keep hb1)
  clear hb1 HFW HB0
  go_wp2_with fail
  refine (awake_any _).mono ?_
  rintro e w2 ⟨rfl, hb2⟩
  have HB2 := Lib.hid (Wire.below_keep HB1.out.below hb2 HB1.out.below.size)
  clear hb2
  go_wp2_with fail
  go_ret
  exact ⟨rfl, HB2.out⟩

set_option maxHeartbeats 4000000 in
theorem superBack_ys (x y : Sup) (a1 a2 : Option Addr) (l1 c1 l2 c2 : Nat) (s z : ByteArray) (w : World) (h : SupAt w x a1 l1 a2 l2) (hl1 : l1 ≤ 80) (hl2 : l2 ≤ 80) (hfw : fewB x = true) (hs : s.size ≤ 300) (hf : Fit x)
    (hds : ∀ w, Calls Try.prog 11 #[.string s] w (SupMade w y (.int .i64 0))) (hly : y.chk.length ≤ 63 ∧ y.log.length ≤ 63) (hey : enR y = (s, 0)) (hen : enR x = (z, 0)) (hz : z.size = 128) (hdz : ∀ w, Calls Try.prog 11 #[.string z] w (SupMade w x (.int .i64 0))) :
    Calls Try.prog 5 #[supV x (.slice a1 l1 c1) (.slice a2 l2 c2), .string s] w fun e w' => e = .returned (.bool true) ∧ Below w.heap.size w w' := by
  obtain ⟨h0, hw⟩ := few_box x a1 a2 l1 c1 l2 c2 w h _ hfw
  have HB0 := Lib.hid h0; have HFW := Lib.hid hw
  have t1 : decide ((300 : Int) < (s.size : Int)) = false := by simp; omega
  have HX := Lib.hid h; have HDS := Lib.hid hds; have HLY := Lib.hid hly; have HEX := Lib.hid hen
  have HENR := Lib.hid hey
  clear hey
  have HDZ := Lib.hid hdz
  have tz : ((z.size : Int) != 128) = false := by rw [hz]; rfl
  clear hdz hz
  clear h0 hw h hfw hs hds hly hen
  unfold supV
  go_enter Try.func5, Try.ntmps5
  go_wp2_with fail
  refine HFW.out.mono ?_
  rintro e w1 ⟨rfl, hb1⟩
  have HB1 := Lib.hid (HB0.out.keep hb1)
  clear hb1 HFW HB0
  have hex := encode_any x a1 a2 l1 c1 l2 c2 w1 (HX.out.keep HB1.out.below) (by omega) (by omega)
  rw [HEX.out] at hex
  unfold supV at hex
  obtain ⟨p0, p1, p2, p3, p4, p5⟩ := six_cells HB1.out.box
  have HEE := Lib.hid hex
  clear hex
  go_wp2_with fail
  refine HEE.out.mono ?_
  rintro e w2 ⟨rfl, hb2⟩
  have HB2 := Lib.hid (HB1.out.keep hb2)
  clear hb2 HEE HB1 p0 p1 p2 p3 p4 p5
  go_wp2_with fail
  refine (HDZ.out _).mono ?_
  rintro e w3 ⟨⟨e1, h1, e2, h2, rfl, hxx, m1, m2, _, _⟩, hb3⟩
  simp only [supV]
  have h3 := HB2.out.keep hb3
  have hbb := (Below.refl _ w3).alloc (Nat.le_refl _) (.cells #[.int .i64 x.gen, .int .i64 x.base, .int .i64 x.size, .int .i64 x.cg, .slice e1 x.chk.length h1, .slice e2 x.log.length h2] 24)
  have h4 := h3.keep hbb
  have hx4 := heap_alloc_new w3 (.cells #[.int .i64 x.gen, .int .i64 x.base, .int .i64 x.size, .int .i64 x.cg, .slice e1 x.chk.length h1, .slice e2 x.log.length h2] 24)
  have hsm := supsame_any x x a1 a2 e1 e2 l1 c1 l2 c2 x.chk.length h1 x.log.length h2 _ (HX.out.keep h4.below) (hxx.keep hbb)
  rw [sameB_self] at hsm
  unfold supV at hsm
  obtain ⟨p0, p1, p2, p3, p4, p5⟩ := six_cells h4.box
  obtain ⟨q0, q1, q2, q3, q4, q5⟩ := six_cells hx4
  have HSM := Lib.hid hsm; have H4 := Lib.hid h4
  clear hsm h4 hx4 hbb h3 hb3 hxx m1 m2 HB2 HDZ
  go_wp2_with fail
  refine HSM.out.mono ?_
  rintro e w5 ⟨rfl, hb5⟩
  have WB := Lib.hid (H4.out.keep hb5)
  clear hb5 HSM H4 p0 p1 p2 p3 p4 p5 q0 q1 q2 q3 q4 q5
  go_wp2_with fail
  refine (HDS.out _).mono ?_
  rintro e w6 ⟨⟨b1, f1, b2, f2, rfl, hy, n1, n2, _, _⟩, hb6⟩
  simp only [supV]
  have h6 := WB.out.keep hb6
  have hbb := (Below.refl _ w6).alloc (Nat.le_refl _) (.cells #[.int .i64 y.gen, .int .i64 y.base, .int .i64 y.size, .int .i64 y.cg, .slice b1 y.chk.length f1, .slice b2 y.log.length f2] 24)
  have h7 := h6.keep hbb
  have hy7 := heap_alloc_new w6 (.cells #[.int .i64 y.gen, .int .i64 y.base, .int .i64 y.size, .int .i64 y.cg, .slice b1 y.chk.length f1, .slice b2 y.log.length f2] 24)
  have hys := hy.keep hbb
  have hky := (Array.getElem?_eq_some_iff.1 hy7).1
  have hen := encode_any y b1 b2 y.chk.length f1 y.log.length f2 _ hys (by have := HLY.out.1; omega) (by have := HLY.out.2; omega)
  rw [HENR.out] at hen
  unfold supV at hen
  have H7 := Lib.hid h7; have HEN := Lib.hid hen
  obtain ⟨q0, q1, q2, q3, q4, q5⟩ := six_cells hy7
  clear hb6 h6 hbb h7 hy7 hys hky hen hy n1 n2
  go_wp2_with fail
  refine HEN.out.mono ?_
  rintro e w8 ⟨rfl, hb8⟩
  have h8 := H7.out.keep hb8
  have hfit := supfit_any x a1 a2 l1 c1 l2 c2 w8 (HX.out.keep h8.below) (by omega) (by omega)
  unfold supV at hfit
  rw [decide_eq_true hf] at hfit
  obtain ⟨p0, p1, p2, p3, p4, p5⟩ := six_cells h8.box
  have HFT := Lib.hid hfit; have H8 := Lib.hid h8
  clear hfit h8 hb8 HEN H7 WB q0 q1 q2 q3 q4 q5
  go_wp2_with fail
  refine HFT.out.mono ?_
  rintro e w9 ⟨rfl, hb9⟩
  have H9 := Lib.hid (H8.out.keep hb9)
  clear hb9 HFT H8 p0 p1 p2 p3 p4 p5
  go_wp2_with fail
  refine (awake_any _).mono ?_
  rintro e w10 ⟨rfl, hb10⟩
  have HBZ := Lib.hid (Wire.below_keep H9.out.below hb10 H9.out.below.size)
  clear hb10
  go_wp2_with fail
  go_ret
  exact ⟨rfl, HBZ.out⟩
set_option maxHeartbeats 4000000 in
theorem superBack_yo (x y : Sup) (a1 a2 : Option Addr) (l1 c1 l2 c2 : Nat) (s z : ByteArray) (w : World) (h : SupAt w x a1 l1 a2 l2) (hl1 : l1 ≤ 80) (hl2 : l2 ≤ 80) (hfw : fewB x = true) (hs : s.size ≤ 300) (hf : Fit x)
    (hds : ∀ w, Calls Try.prog 11 #[.string s] w (SupMade w y (.int .i64 12))) (hly : y.chk.length ≤ 63 ∧ y.log.length ≤ 63) (hen : enR x = (z, 0)) (hz : z.size = 128) (hdz : ∀ w, Calls Try.prog 11 #[.string z] w (SupMade w x (.int .i64 0))) :
    Calls Try.prog 5 #[supV x (.slice a1 l1 c1) (.slice a2 l2 c2), .string s] w fun e w' => e = .returned (.bool true) ∧ Below w.heap.size w w' := by
  obtain ⟨h0, hw⟩ := few_box x a1 a2 l1 c1 l2 c2 w h _ hfw
  have HB0 := Lib.hid h0; have HFW := Lib.hid hw
  have t1 : decide ((300 : Int) < (s.size : Int)) = false := by simp; omega
  have HX := Lib.hid h; have HDS := Lib.hid hds; have HLY := Lib.hid hly; have HEX := Lib.hid hen
  have HDZ := Lib.hid hdz
  have tz : ((z.size : Int) != 128) = false := by rw [hz]; rfl
  clear hdz hz
  clear h0 hw h hfw hs hds hly hen
  unfold supV
  go_enter Try.func5, Try.ntmps5
  go_wp2_with fail
  refine HFW.out.mono ?_
  rintro e w1 ⟨rfl, hb1⟩
  have HB1 := Lib.hid (HB0.out.keep hb1)
  clear hb1 HFW HB0
  have hex := encode_any x a1 a2 l1 c1 l2 c2 w1 (HX.out.keep HB1.out.below) (by omega) (by omega)
  rw [HEX.out] at hex
  unfold supV at hex
  obtain ⟨p0, p1, p2, p3, p4, p5⟩ := six_cells HB1.out.box
  have HEE := Lib.hid hex
  clear hex
  go_wp2_with fail
  refine HEE.out.mono ?_
  rintro e w2 ⟨rfl, hb2⟩
  have HB2 := Lib.hid (HB1.out.keep hb2)
  clear hb2 HEE HB1 p0 p1 p2 p3 p4 p5
  go_wp2_with fail
  refine (HDZ.out _).mono ?_
  rintro e w3 ⟨⟨e1, h1, e2, h2, rfl, hxx, m1, m2, _, _⟩, hb3⟩
  simp only [supV]
  have h3 := HB2.out.keep hb3
  have hbb := (Below.refl _ w3).alloc (Nat.le_refl _) (.cells #[.int .i64 x.gen, .int .i64 x.base, .int .i64 x.size, .int .i64 x.cg, .slice e1 x.chk.length h1, .slice e2 x.log.length h2] 24)
  have h4 := h3.keep hbb
  have hx4 := heap_alloc_new w3 (.cells #[.int .i64 x.gen, .int .i64 x.base, .int .i64 x.size, .int .i64 x.cg, .slice e1 x.chk.length h1, .slice e2 x.log.length h2] 24)
  have hsm := supsame_any x x a1 a2 e1 e2 l1 c1 l2 c2 x.chk.length h1 x.log.length h2 _ (HX.out.keep h4.below) (hxx.keep hbb)
  rw [sameB_self] at hsm
  unfold supV at hsm
  obtain ⟨p0, p1, p2, p3, p4, p5⟩ := six_cells h4.box
  obtain ⟨q0, q1, q2, q3, q4, q5⟩ := six_cells hx4
  have HSM := Lib.hid hsm; have H4 := Lib.hid h4
  clear hsm h4 hx4 hbb h3 hb3 hxx m1 m2 HB2 HDZ
  go_wp2_with fail
  refine HSM.out.mono ?_
  rintro e w5 ⟨rfl, hb5⟩
  have WB := Lib.hid (H4.out.keep hb5)
  clear hb5 HSM H4 p0 p1 p2 p3 p4 p5 q0 q1 q2 q3 q4 q5
  go_wp2_with fail
  refine (HDS.out _).mono ?_
  rintro e w6 ⟨⟨b1, f1, b2, f2, rfl, hy, n1, n2, _, _⟩, hb6⟩
  simp only [supV]
  have h6 := WB.out.keep hb6
  have hbb := (Below.refl _ w6).alloc (Nat.le_refl _) (.cells #[.int .i64 y.gen, .int .i64 y.base, .int .i64 y.size, .int .i64 y.cg, .slice b1 y.chk.length f1, .slice b2 y.log.length f2] 24)
  have h7 := h6.keep hbb
  have hy7 := heap_alloc_new w6 (.cells #[.int .i64 y.gen, .int .i64 y.base, .int .i64 y.size, .int .i64 y.cg, .slice b1 y.chk.length f1, .slice b2 y.log.length f2] 24)
  have hys := hy.keep hbb
  have hky := (Array.getElem?_eq_some_iff.1 hy7).1
  have hen := encode_any y b1 b2 y.chk.length f1 y.log.length f2 _ hys (by have := HLY.out.1; omega) (by have := HLY.out.2; omega)
  obtain ⟨tz, htz⟩ : ∃ tz, (enR y).1 = tz := ⟨_, rfl⟩
  obtain ⟨te, hte⟩ : ∃ te, (enR y).2 = te := ⟨_, rfl⟩
  rw [htz, hte] at hen
  clear htz hte
  unfold supV at hen
  have H7 := Lib.hid h7; have HEN := Lib.hid hen
  obtain ⟨q0, q1, q2, q3, q4, q5⟩ := six_cells hy7
  clear hb6 h6 hbb h7 hy7 hys hky hen hy n1 n2
  go_wp2_with fail
  refine HEN.out.mono ?_
  rintro e w8 ⟨rfl, hb8⟩
  have h8 := H7.out.keep hb8
  have hfit := supfit_any x a1 a2 l1 c1 l2 c2 w8 (HX.out.keep h8.below) (by omega) (by omega)
  unfold supV at hfit
  rw [decide_eq_true hf] at hfit
  obtain ⟨p0, p1, p2, p3, p4, p5⟩ := six_cells h8.box
  have HFT := Lib.hid hfit; have H8 := Lib.hid h8
  clear hfit h8 hb8 HEN H7 WB q0 q1 q2 q3 q4 q5
  go_wp2_with fail
  refine HFT.out.mono ?_
  rintro e w9 ⟨rfl, hb9⟩
  have H9 := Lib.hid (H8.out.keep hb9)
  clear hb9 HFT H8 p0 p1 p2 p3 p4 p5
  go_wp2_with fail
  refine (awake_any _).mono ?_
  rintro e w10 ⟨rfl, hb10⟩
  have HBZ := Lib.hid (Wire.below_keep H9.out.below hb10 H9.out.below.size)
  clear hb10
  go_wp2_with fail
  go_ret
  exact ⟨rfl, HBZ.out⟩
set_option maxHeartbeats 4000000 in
theorem superBack_ns (x y : Sup) (a1 a2 : Option Addr) (l1 c1 l2 c2 : Nat) (s z : ByteArray) (w : World) (h : SupAt w x a1 l1 a2 l2) (hl1 : l1 ≤ 80) (hl2 : l2 ≤ 80) (hfw : fewB x = true) (hs : s.size ≤ 300) (hf : ¬ Fit x)
    (hds : ∀ w, Calls Try.prog 11 #[.string s] w (SupMade w y (.int .i64 0))) (hly : y.chk.length ≤ 63 ∧ y.log.length ≤ 63) (hey : enR y = (s, 0)) (hen : enR x = (z, 1)) :
    Calls Try.prog 5 #[supV x (.slice a1 l1 c1) (.slice a2 l2 c2), .string s] w fun e w' => e = .returned (.bool true) ∧ Below w.heap.size w w' := by
  obtain ⟨h0, hw⟩ := few_box x a1 a2 l1 c1 l2 c2 w h _ hfw
  have HB0 := Lib.hid h0; have HFW := Lib.hid hw
  have t1 : decide ((300 : Int) < (s.size : Int)) = false := by simp; omega
  have HX := Lib.hid h; have HDS := Lib.hid hds; have HLY := Lib.hid hly; have HEX := Lib.hid hen
  have HENR := Lib.hid hey
  clear hey
  clear h0 hw h hfw hs hds hly hen
  unfold supV
  go_enter Try.func5, Try.ntmps5
  go_wp2_with fail
  refine HFW.out.mono ?_
  rintro e w1 ⟨rfl, hb1⟩
  have HB1 := Lib.hid (HB0.out.keep hb1)
  clear hb1 HFW HB0
  have hex := encode_any x a1 a2 l1 c1 l2 c2 w1 (HX.out.keep HB1.out.below) (by omega) (by omega)
  rw [HEX.out] at hex
  unfold supV at hex
  obtain ⟨p0, p1, p2, p3, p4, p5⟩ := six_cells HB1.out.box
  have HEE := Lib.hid hex
  clear hex
  go_wp2_with fail
  refine HEE.out.mono ?_
  rintro e w2 ⟨rfl, hb2⟩
  have HB2 := Lib.hid (HB1.out.keep hb2)
  clear hb2 HEE HB1 p0 p1 p2 p3 p4 p5
  go_wp2_with fail
  have WB := Lib.hid HB2.out
  clear HB2
  refine (HDS.out _).mono ?_
  rintro e w6 ⟨⟨b1, f1, b2, f2, rfl, hy, n1, n2, _, _⟩, hb6⟩
  simp only [supV]
  have h6 := WB.out.keep hb6
  have hbb := (Below.refl _ w6).alloc (Nat.le_refl _) (.cells #[.int .i64 y.gen, .int .i64 y.base, .int .i64 y.size, .int .i64 y.cg, .slice b1 y.chk.length f1, .slice b2 y.log.length f2] 24)
  have h7 := h6.keep hbb
  have hy7 := heap_alloc_new w6 (.cells #[.int .i64 y.gen, .int .i64 y.base, .int .i64 y.size, .int .i64 y.cg, .slice b1 y.chk.length f1, .slice b2 y.log.length f2] 24)
  have hys := hy.keep hbb
  have hky := (Array.getElem?_eq_some_iff.1 hy7).1
  have hen := encode_any y b1 b2 y.chk.length f1 y.log.length f2 _ hys (by have := HLY.out.1; omega) (by have := HLY.out.2; omega)
  rw [HENR.out] at hen
  unfold supV at hen
  have H7 := Lib.hid h7; have HEN := Lib.hid hen
  obtain ⟨q0, q1, q2, q3, q4, q5⟩ := six_cells hy7
  clear hb6 h6 hbb h7 hy7 hys hky hen hy n1 n2
  go_wp2_with fail
  refine HEN.out.mono ?_
  rintro e w8 ⟨rfl, hb8⟩
  have h8 := H7.out.keep hb8
  have hfit := supfit_any x a1 a2 l1 c1 l2 c2 w8 (HX.out.keep h8.below) (by omega) (by omega)
  unfold supV at hfit
  rw [decide_eq_false hf] at hfit
  obtain ⟨p0, p1, p2, p3, p4, p5⟩ := six_cells h8.box
  have HFT := Lib.hid hfit; have H8 := Lib.hid h8
  clear hfit h8 hb8 HEN H7 WB q0 q1 q2 q3 q4 q5
  go_wp2_with fail
  refine HFT.out.mono ?_
  rintro e w9 ⟨rfl, hb9⟩
  have H9 := Lib.hid (H8.out.keep hb9)
  clear hb9 HFT H8 p0 p1 p2 p3 p4 p5
  go_wp2_with fail
  refine (awake_any _).mono ?_
  rintro e w10 ⟨rfl, hb10⟩
  have HBZ := Lib.hid (Wire.below_keep H9.out.below hb10 H9.out.below.size)
  clear hb10
  go_wp2_with fail
  go_ret
  exact ⟨rfl, HBZ.out⟩
set_option maxHeartbeats 4000000 in
theorem superBack_no (x y : Sup) (a1 a2 : Option Addr) (l1 c1 l2 c2 : Nat) (s z : ByteArray) (w : World) (h : SupAt w x a1 l1 a2 l2) (hl1 : l1 ≤ 80) (hl2 : l2 ≤ 80) (hfw : fewB x = true) (hs : s.size ≤ 300) (hf : ¬ Fit x)
    (hds : ∀ w, Calls Try.prog 11 #[.string s] w (SupMade w y (.int .i64 12))) (hly : y.chk.length ≤ 63 ∧ y.log.length ≤ 63) (hen : enR x = (z, 1)) :
    Calls Try.prog 5 #[supV x (.slice a1 l1 c1) (.slice a2 l2 c2), .string s] w fun e w' => e = .returned (.bool true) ∧ Below w.heap.size w w' := by
  obtain ⟨h0, hw⟩ := few_box x a1 a2 l1 c1 l2 c2 w h _ hfw
  have HB0 := Lib.hid h0; have HFW := Lib.hid hw
  have t1 : decide ((300 : Int) < (s.size : Int)) = false := by simp; omega
  have HX := Lib.hid h; have HDS := Lib.hid hds; have HLY := Lib.hid hly; have HEX := Lib.hid hen
  clear h0 hw h hfw hs hds hly hen
  unfold supV
  go_enter Try.func5, Try.ntmps5
  go_wp2_with fail
  refine HFW.out.mono ?_
  rintro e w1 ⟨rfl, hb1⟩
  have HB1 := Lib.hid (HB0.out.keep hb1)
  clear hb1 HFW HB0
  have hex := encode_any x a1 a2 l1 c1 l2 c2 w1 (HX.out.keep HB1.out.below) (by omega) (by omega)
  rw [HEX.out] at hex
  unfold supV at hex
  obtain ⟨p0, p1, p2, p3, p4, p5⟩ := six_cells HB1.out.box
  have HEE := Lib.hid hex
  clear hex
  go_wp2_with fail
  refine HEE.out.mono ?_
  rintro e w2 ⟨rfl, hb2⟩
  have HB2 := Lib.hid (HB1.out.keep hb2)
  clear hb2 HEE HB1 p0 p1 p2 p3 p4 p5
  go_wp2_with fail
  have WB := Lib.hid HB2.out
  clear HB2
  refine (HDS.out _).mono ?_
  rintro e w6 ⟨⟨b1, f1, b2, f2, rfl, hy, n1, n2, _, _⟩, hb6⟩
  simp only [supV]
  have h6 := WB.out.keep hb6
  have hbb := (Below.refl _ w6).alloc (Nat.le_refl _) (.cells #[.int .i64 y.gen, .int .i64 y.base, .int .i64 y.size, .int .i64 y.cg, .slice b1 y.chk.length f1, .slice b2 y.log.length f2] 24)
  have h7 := h6.keep hbb
  have hy7 := heap_alloc_new w6 (.cells #[.int .i64 y.gen, .int .i64 y.base, .int .i64 y.size, .int .i64 y.cg, .slice b1 y.chk.length f1, .slice b2 y.log.length f2] 24)
  have hys := hy.keep hbb
  have hky := (Array.getElem?_eq_some_iff.1 hy7).1
  have hen := encode_any y b1 b2 y.chk.length f1 y.log.length f2 _ hys (by have := HLY.out.1; omega) (by have := HLY.out.2; omega)
  obtain ⟨tz, htz⟩ : ∃ tz, (enR y).1 = tz := ⟨_, rfl⟩
  obtain ⟨te, hte⟩ : ∃ te, (enR y).2 = te := ⟨_, rfl⟩
  rw [htz, hte] at hen
  clear htz hte
  unfold supV at hen
  have H7 := Lib.hid h7; have HEN := Lib.hid hen
  obtain ⟨q0, q1, q2, q3, q4, q5⟩ := six_cells hy7
  clear hb6 h6 hbb h7 hy7 hys hky hen hy n1 n2
  go_wp2_with fail
  refine HEN.out.mono ?_
  rintro e w8 ⟨rfl, hb8⟩
  have h8 := H7.out.keep hb8
  have hfit := supfit_any x a1 a2 l1 c1 l2 c2 w8 (HX.out.keep h8.below) (by omega) (by omega)
  unfold supV at hfit
  rw [decide_eq_false hf] at hfit
  obtain ⟨p0, p1, p2, p3, p4, p5⟩ := six_cells h8.box
  have HFT := Lib.hid hfit; have H8 := Lib.hid h8
  clear hfit h8 hb8 HEN H7 WB q0 q1 q2 q3 q4 q5
  go_wp2_with fail
  refine HFT.out.mono ?_
  rintro e w9 ⟨rfl, hb9⟩
  have H9 := Lib.hid (H8.out.keep hb9)
  clear hb9 HFT H8 p0 p1 p2 p3 p4 p5
  go_wp2_with fail
  refine (awake_any _).mono ?_
  rintro e w10 ⟨rfl, hb10⟩
  have HBZ := Lib.hid (Wire.below_keep H9.out.below hb10 H9.out.below.size)
  clear hb10
  go_wp2_with fail
  go_ret
  exact ⟨rfl, HBZ.out⟩
theorem superBack_walk (x : Sup) (a1 a2 : Option Addr) (l1 c1 l2 c2 : Nat) (s : ByteArray) (w : World) (h : SupAt w x a1 l1 a2 l2) (hfw : fewB x = true) (hs : s.size ≤ 300) :
    Calls Try.prog 5 #[supV x (.slice a1 l1 c1) (.slice a2 l2 c2), .string s] w fun e w' => e = .returned (.bool true) ∧ Below w.heap.size w w' := by
  have hl := few_lens hfw
  rw [h.chk.1, h.log.1] at hl
  have hds := fun w => decode_any s w (by omega)
  by_cases hf : Fit x
  · have hen : enR x = (str (sect x), 0) := if_pos hf
    have hz : (str (sect x)).size = 128 := by rw [str_size, sect_length hf]
    have hdz := fun w => decode_any (str (sect x)) w (by omega)
    have hdx := dec_yes (dec_sect hf)
    rw [show (str (sect x)).data.toList = sect x from rfl, hdx.1, hdx.2] at hdz
    rcases hd : dec s.data.toList with _ | y
    · rw [(dec_no hd).1, (dec_no hd).2] at hds
      exact superBack_yo x zeroSup a1 a2 l1 c1 l2 c2 s _ w h hl.1 hl.2 hfw hs hf hds (by decide) hen hz hdz
    · rw [(dec_yes hd).1, (dec_yes hd).2] at hds
      obtain ⟨fy, fs⟩ := dec_some hd
      have hey : enR y = (s, 0) := by rw [show enR y = (str (sect y), 0) from if_pos fy, ← fs, str_data]
      exact superBack_ys x y a1 a2 l1 c1 l2 c2 s _ w h hl.1 hl.2 hfw hs hf hds (fit_lens fy) hey hen hz hdz
  · have hen : enR x = (⟨#[]⟩, 1) := if_neg hf
    rcases hd : dec s.data.toList with _ | y
    · rw [(dec_no hd).1, (dec_no hd).2] at hds
      exact superBack_no x zeroSup a1 a2 l1 c1 l2 c2 s _ w h hl.1 hl.2 hfw hs hf hds (by decide) hen
    · rw [(dec_yes hd).1, (dec_yes hd).2] at hds
      obtain ⟨fy, fs⟩ := dec_some hd
      have hey : enR y = (s, 0) := by rw [show enR y = (str (sect y), 0) from if_pos fy, ← fs, str_data]
      exact superBack_ns x y a1 a2 l1 c1 l2 c2 s _ w h hl.1 hl.2 hfw hs hf hds (fit_lens fy) hey hen
end Go.Proofs.Ytigiaiddnbpcmaa
