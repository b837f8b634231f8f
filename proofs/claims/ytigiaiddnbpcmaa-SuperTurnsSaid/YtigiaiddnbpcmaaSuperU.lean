/-
  The law SuperTurns, walked.
-/
import Derived.Test.YtigiaiddnbpcmaaSuperS
set_option linter.unusedVariables false
set_option maxRecDepth 4000
namespace Go.Proofs.Ytigiaiddnbpcmaa
open Go.RowKit SuperP
open Wire (IntsAt)
open StampP (zeros torn_first torn_more)

/-- Three boxed superblocks, and the tears. -/
structure Bq (w0 w : World) (B : Nat) (x y z t : Array Value) : Prop where
  below : Below B w0 w
  c0 : w.heap[B]? = some (.cells x 24 (0, 0))
  c1 : w.heap[B + 1]? = some (.cells y 24 (0, 0))
  c2 : w.heap[B + 2]? = some (.cells z 24 (0, 0))
  c3 : w.heap[B + 3]? = some (.cells t 39 (0, 0))
theorem Bq.keep {w0 w w' : World} {B : Nat} {x y z t : Array Value} (h : Bq w0 w B x y z t) (hb : Below w.heap.size w w') : Bq w0 w' B x y z t := by
  have h1 := (Array.getElem?_eq_some_iff.1 h.c3).1
  exact ⟨h.below.trans (hb.mono (by omega)), (hb.block B (by omega)).trans h.c0, (hb.block (B + 1) (by omega)).trans h.c1, (hb.block (B + 2) (by omega)).trans h.c2, (hb.block (B + 3) h1).trans h.c3⟩
theorem Bq.drew {w0 w : World} {B : Nat} {x y z t : Array Value} (h : Bq w0 w B x y z t) : Bq w0 w.drew B x y z t := ⟨h.below.drew, h.c0, h.c1, h.c2, h.c3⟩
theorem bq_new (w : World) (x y z t : Array Value) : Bq w ((((w.alloc (.cells x 24)).alloc (.cells y 24)).alloc (.cells z 24)).alloc (.cells t 39)) w.heap.size x y z t := by
  have h := bt_new w x y
  have e2 : ((w.alloc (.cells x 24)).alloc (.cells y 24)).heap.size = w.heap.size + 2 := by simp
  have e3 : (((w.alloc (.cells x 24)).alloc (.cells y 24)).alloc (.cells z 24)).heap.size = w.heap.size + 3 := by simp
  have k2 := heap_alloc_new ((w.alloc (.cells x 24)).alloc (.cells y 24)) (.cells z 24)
  have k3 := heap_alloc_new (((w.alloc (.cells x 24)).alloc (.cells y 24)).alloc (.cells z 24)) (.cells t 39)
  rw [e2] at k2
  rw [e3] at k3
  exact ⟨(h.below.alloc (by rw [e2]; omega) _).alloc (by rw [e3]; omega) _, (Below.heap_alloc _ _ _ (by rw [e3]; omega)).trans ((Below.heap_alloc _ _ _ (by rw [e2]; omega)).trans h.c0), (Below.heap_alloc _ _ _ (by rw [e3]; omega)).trans ((Below.heap_alloc _ _ _ (by rw [e2]; omega)).trans h.c1), (Below.heap_alloc _ _ _ (by rw [e3]; omega)).trans k2, k3⟩
theorem superTurns_x (x y z : Sup) (a1 : Option Addr) (l1 c1 : Nat) (b1 : Option Addr) (m1 d1 : Nat) (a2 : Option Addr) (l2 c2 : Nat) (b2 : Option Addr) (m2 d2 : Nat) (a3 : Option Addr) (l3 c3 : Nat) (b3 : Option Addr) (m3 d3 : Nat) (t0 t1 t2 t3 : Int) (w : World) (hx : SupAt w x a1 l1 b1 m1) (hy : SupAt w y a2 l2 b2 m2) (hz : SupAt w z a3 l3 b3 m3) (hf1 : fewB x = false) :
    Calls Try.prog 6 #[supV x (.slice a1 l1 c1) (.slice b1 m1 d1), supV y (.slice a2 l2 c2) (.slice b2 m2 d2), supV z (.slice a3 l3 c3) (.slice b3 m3 d3), .agg #[.int .i64 t0, .int .i64 t1, .int .i64 t2, .int .i64 t3]] w fun e w' => e = .returned (.bool true) ∧ Below w.heap.size w w' := by
  have h0 := bq_new w #[.int .i64 x.gen, .int .i64 x.base, .int .i64 x.size, .int .i64 x.cg, .slice a1 l1 c1, .slice b1 m1 d1] #[.int .i64 y.gen, .int .i64 y.base, .int .i64 y.size, .int .i64 y.cg, .slice a2 l2 c2, .slice b2 m2 d2] #[.int .i64 z.gen, .int .i64 z.base, .int .i64 z.size, .int .i64 z.cg, .slice a3 l3 c3, .slice b3 m3 d3] #[.int .i64 t0, .int .i64 t1, .int .i64 t2, .int .i64 t3]
  have hfx := few_any x a1 b1 l1 c1 m1 d1 _ (hx.keep h0.below)
  rw [show (decide (x.chk.length ≤ 80) && decide (x.log.length ≤ 80)) = false from hf1] at hfx
  unfold supV at hfx ⊢
  have HX := Lib.hid hx; have HY := Lib.hid hy; have HZ := Lib.hid hz; have H0 := Lib.hid h0; have Hfalse := Lib.hid hfx
  clear h0 hfx hx hy hz
  go_enter Try.func6, Try.ntmps6
  go_wp2_with fail
  refine Hfalse.out.mono ?_
  rintro e w1 ⟨rfl, hb1⟩
  have H1 := Lib.hid (H0.out.keep hb1)
  clear hb1 H0 Hfalse
  go_wp2_with fail
  refine (awake_any _).mono ?_
  rintro e w9 ⟨rfl, hb9⟩
  have HB9 := Lib.hid (Wire.below_keep H1.out.below hb9 H1.out.below.size)
  clear hb9
  go_wp2_with fail
  go_ret
  exact ⟨rfl, HB9.out⟩
theorem superTurns_y (x y z : Sup) (a1 : Option Addr) (l1 c1 : Nat) (b1 : Option Addr) (m1 d1 : Nat) (a2 : Option Addr) (l2 c2 : Nat) (b2 : Option Addr) (m2 d2 : Nat) (a3 : Option Addr) (l3 c3 : Nat) (b3 : Option Addr) (m3 d3 : Nat) (t0 t1 t2 t3 : Int) (w : World) (hx : SupAt w x a1 l1 b1 m1) (hy : SupAt w y a2 l2 b2 m2) (hz : SupAt w z a3 l3 b3 m3) (hf1 : fewB x = true) (hf2 : fewB y = false) :
    Calls Try.prog 6 #[supV x (.slice a1 l1 c1) (.slice b1 m1 d1), supV y (.slice a2 l2 c2) (.slice b2 m2 d2), supV z (.slice a3 l3 c3) (.slice b3 m3 d3), .agg #[.int .i64 t0, .int .i64 t1, .int .i64 t2, .int .i64 t3]] w fun e w' => e = .returned (.bool true) ∧ Below w.heap.size w w' := by
  have h0 := bq_new w #[.int .i64 x.gen, .int .i64 x.base, .int .i64 x.size, .int .i64 x.cg, .slice a1 l1 c1, .slice b1 m1 d1] #[.int .i64 y.gen, .int .i64 y.base, .int .i64 y.size, .int .i64 y.cg, .slice a2 l2 c2, .slice b2 m2 d2] #[.int .i64 z.gen, .int .i64 z.base, .int .i64 z.size, .int .i64 z.cg, .slice a3 l3 c3, .slice b3 m3 d3] #[.int .i64 t0, .int .i64 t1, .int .i64 t2, .int .i64 t3]
  have hfx := few_any x a1 b1 l1 c1 m1 d1 _ (hx.keep h0.below)
  rw [show (decide (x.chk.length ≤ 80) && decide (x.log.length ≤ 80)) = true from hf1] at hfx
  unfold supV at hfx ⊢
  have HX := Lib.hid hx; have HY := Lib.hid hy; have HZ := Lib.hid hz; have H0 := Lib.hid h0; have Htrue := Lib.hid hfx
  clear h0 hfx hx hy hz
  go_enter Try.func6, Try.ntmps6
  go_wp2_with fail
  refine Htrue.out.mono ?_
  rintro e w1 ⟨rfl, hb1⟩
  have H1 := Lib.hid (H0.out.keep hb1)
  clear hb1 H0 Htrue
  have hff := few_any y a2 b2 l2 c2 m2 d2 w1 (HY.out.keep H1.out.below)
  rw [show (decide (y.chk.length ≤ 80) && decide (y.log.length ≤ 80)) = false from hf2] at hff
  unfold supV at hff
  obtain ⟨p0, p1, p2, p3, p4, p5⟩ := six_cells H1.out.c1
  have HFF := Lib.hid hff
  clear hff
  go_wp2_with fail
  refine HFF.out.mono ?_
  rintro e w2 ⟨rfl, hb⟩
  have H2 := Lib.hid (H1.out.keep hb)
  clear hb H1 HFF p0 p1 p2 p3 p4 p5
  go_wp2_with fail
  refine (awake_any _).mono ?_
  rintro e w9 ⟨rfl, hb9⟩
  have HB9 := Lib.hid (Wire.below_keep H2.out.below hb9 H2.out.below.size)
  clear hb9
  go_wp2_with fail
  go_ret
  exact ⟨rfl, HB9.out⟩
theorem superTurns_z (x y z : Sup) (a1 : Option Addr) (l1 c1 : Nat) (b1 : Option Addr) (m1 d1 : Nat) (a2 : Option Addr) (l2 c2 : Nat) (b2 : Option Addr) (m2 d2 : Nat) (a3 : Option Addr) (l3 c3 : Nat) (b3 : Option Addr) (m3 d3 : Nat) (t0 t1 t2 t3 : Int) (w : World) (hx : SupAt w x a1 l1 b1 m1) (hy : SupAt w y a2 l2 b2 m2) (hz : SupAt w z a3 l3 b3 m3) (hf1 : fewB x = true) (hf2 : fewB y = true) (hf3 : fewB z = false) :
    Calls Try.prog 6 #[supV x (.slice a1 l1 c1) (.slice b1 m1 d1), supV y (.slice a2 l2 c2) (.slice b2 m2 d2), supV z (.slice a3 l3 c3) (.slice b3 m3 d3), .agg #[.int .i64 t0, .int .i64 t1, .int .i64 t2, .int .i64 t3]] w fun e w' => e = .returned (.bool true) ∧ Below w.heap.size w w' := by
  have h0 := bq_new w #[.int .i64 x.gen, .int .i64 x.base, .int .i64 x.size, .int .i64 x.cg, .slice a1 l1 c1, .slice b1 m1 d1] #[.int .i64 y.gen, .int .i64 y.base, .int .i64 y.size, .int .i64 y.cg, .slice a2 l2 c2, .slice b2 m2 d2] #[.int .i64 z.gen, .int .i64 z.base, .int .i64 z.size, .int .i64 z.cg, .slice a3 l3 c3, .slice b3 m3 d3] #[.int .i64 t0, .int .i64 t1, .int .i64 t2, .int .i64 t3]
  have hfx := few_any x a1 b1 l1 c1 m1 d1 _ (hx.keep h0.below)
  rw [show (decide (x.chk.length ≤ 80) && decide (x.log.length ≤ 80)) = true from hf1] at hfx
  unfold supV at hfx ⊢
  have HX := Lib.hid hx; have HY := Lib.hid hy; have HZ := Lib.hid hz; have H0 := Lib.hid h0; have Htrue := Lib.hid hfx
  clear h0 hfx hx hy hz
  go_enter Try.func6, Try.ntmps6
  go_wp2_with fail
  refine Htrue.out.mono ?_
  rintro e w1 ⟨rfl, hb1⟩
  have H1 := Lib.hid (H0.out.keep hb1)
  clear hb1 H0 Htrue
  have hff := few_any y a2 b2 l2 c2 m2 d2 w1 (HY.out.keep H1.out.below)
  rw [show (decide (y.chk.length ≤ 80) && decide (y.log.length ≤ 80)) = true from hf2] at hff
  unfold supV at hff
  obtain ⟨p0, p1, p2, p3, p4, p5⟩ := six_cells H1.out.c1
  have HFF := Lib.hid hff
  clear hff
  go_wp2_with fail
  refine HFF.out.mono ?_
  rintro e w2 ⟨rfl, hb⟩
  have H2 := Lib.hid (H1.out.keep hb)
  clear hb H1 HFF p0 p1 p2 p3 p4 p5
  have hff := few_any z a3 b3 l3 c3 m3 d3 w2 (HZ.out.keep H2.out.below)
  rw [show (decide (z.chk.length ≤ 80) && decide (z.log.length ≤ 80)) = false from hf3] at hff
  unfold supV at hff
  obtain ⟨p0, p1, p2, p3, p4, p5⟩ := six_cells H2.out.c2
  have HFF := Lib.hid hff
  clear hff
  go_wp2_with fail
  refine HFF.out.mono ?_
  rintro e w3 ⟨rfl, hb⟩
  have H3 := Lib.hid (H2.out.keep hb)
  clear hb H2 HFF p0 p1 p2 p3 p4 p5
  go_wp2_with fail
  refine (awake_any _).mono ?_
  rintro e w9 ⟨rfl, hb9⟩
  have HB9 := Lib.hid (Wire.below_keep H3.out.below hb9 H3.out.below.size)
  clear hb9
  go_wp2_with fail
  go_ret
  exact ⟨rfl, HB9.out⟩
set_option maxHeartbeats 4000000 in
theorem superTurns_no (x y z : Sup) (a1 : Option Addr) (l1 c1 : Nat) (b1 : Option Addr) (m1 d1 : Nat) (a2 : Option Addr) (l2 c2 : Nat) (b2 : Option Addr) (m2 d2 : Nat) (a3 : Option Addr) (l3 c3 : Nat) (b3 : Option Addr) (m3 d3 : Nat) (t0 t1 t2 t3 : Int) (w : World) (hx : SupAt w x a1 l1 b1 m1) (hy : SupAt w y a2 l2 b2 m2) (hz : SupAt w z a3 l3 b3 m3) (hf1 : fewB x = true) (hf2 : fewB y = true) (hf3 : fewB z = true) (k1 : l1 ≤ 80 ∧ m1 ≤ 80) (k2 : l2 ≤ 80 ∧ m2 ≤ 80) (k3 : l3 ≤ 80 ∧ m3 ≤ 80) (A B C : ByteArray) (e1 e2 e3 : Int) (q1 : enR x = (A, e1)) (q2 : enR y = (B, e2)) (q3 : enR z = (C, e3))
    (hno : ¬ e1 = 0 ∨ (e1 = 0 ∧ ¬ e2 = 0) ∨ (e1 = 0 ∧ e2 = 0 ∧ ¬ e3 = 0) ∨ (e1 = 0 ∧ e2 = 0 ∧ e3 = 0 ∧ y.gen ≤ x.gen) ∨ (e1 = 0 ∧ e2 = 0 ∧ e3 = 0 ∧ ¬ y.gen ≤ x.gen ∧ x.gen ≤ z.gen)) :
    Calls Try.prog 6 #[supV x (.slice a1 l1 c1) (.slice b1 m1 d1), supV y (.slice a2 l2 c2) (.slice b2 m2 d2), supV z (.slice a3 l3 c3) (.slice b3 m3 d3), .agg #[.int .i64 t0, .int .i64 t1, .int .i64 t2, .int .i64 t3]] w fun e w' => e = .returned (.bool true) ∧ Below w.heap.size w w' := by
  have HE1 := Lib.hid q1; have HE2 := Lib.hid q2; have HE3 := Lib.hid q3
  clear q1 q2 q3
  have HL1 := Lib.hid k1; have HL2 := Lib.hid k2; have HL3 := Lib.hid k3
  clear k1 k2 k3
  have h0 := bq_new w #[.int .i64 x.gen, .int .i64 x.base, .int .i64 x.size, .int .i64 x.cg, .slice a1 l1 c1, .slice b1 m1 d1] #[.int .i64 y.gen, .int .i64 y.base, .int .i64 y.size, .int .i64 y.cg, .slice a2 l2 c2, .slice b2 m2 d2] #[.int .i64 z.gen, .int .i64 z.base, .int .i64 z.size, .int .i64 z.cg, .slice a3 l3 c3, .slice b3 m3 d3] #[.int .i64 t0, .int .i64 t1, .int .i64 t2, .int .i64 t3]
  have hfx := few_any x a1 b1 l1 c1 m1 d1 _ (hx.keep h0.below)
  rw [show (decide (x.chk.length ≤ 80) && decide (x.log.length ≤ 80)) = true from hf1] at hfx
  unfold supV at hfx ⊢
  have HX := Lib.hid hx; have HY := Lib.hid hy; have HZ := Lib.hid hz; have H0 := Lib.hid h0; have Htrue := Lib.hid hfx
  clear h0 hfx hx hy hz
  go_enter Try.func6, Try.ntmps6
  go_wp2_with fail
  refine Htrue.out.mono ?_
  rintro e w1 ⟨rfl, hb1⟩
  have H1 := Lib.hid (H0.out.keep hb1)
  clear hb1 H0 Htrue
  have hff := few_any y a2 b2 l2 c2 m2 d2 w1 (HY.out.keep H1.out.below)
  rw [show (decide (y.chk.length ≤ 80) && decide (y.log.length ≤ 80)) = true from hf2] at hff
  unfold supV at hff
  obtain ⟨p0, p1, p2, p3, p4, p5⟩ := six_cells H1.out.c1
  have HFF := Lib.hid hff
  clear hff
  go_wp2_with fail
  refine HFF.out.mono ?_
  rintro e w2 ⟨rfl, hb⟩
  have H2 := Lib.hid (H1.out.keep hb)
  clear hb H1 HFF p0 p1 p2 p3 p4 p5
  have hff := few_any z a3 b3 l3 c3 m3 d3 w2 (HZ.out.keep H2.out.below)
  rw [show (decide (z.chk.length ≤ 80) && decide (z.log.length ≤ 80)) = true from hf3] at hff
  unfold supV at hff
  obtain ⟨p0, p1, p2, p3, p4, p5⟩ := six_cells H2.out.c2
  have HFF := Lib.hid hff
  clear hff
  go_wp2_with fail
  refine HFF.out.mono ?_
  rintro e w3 ⟨rfl, hb⟩
  have H3 := Lib.hid (H2.out.keep hb)
  clear hb H2 HFF p0 p1 p2 p3 p4 p5
  have hen := encode_any x a1 b1 l1 c1 m1 d1 w3 (HX.out.keep H3.out.below) (by have := HL1.out.1; omega) (by have := HL1.out.2; omega)
  rw [HE1.out] at hen
  unfold supV at hen
  obtain ⟨p0, p1, p2, p3, p4, p5⟩ := six_cells H3.out.c0
  have HEN := Lib.hid hen
  clear hen
  go_wp2_with fail
  refine HEN.out.mono ?_
  rintro e w4 ⟨rfl, hb⟩
  have H4 := Lib.hid (H3.out.keep hb)
  clear hb H3 HEN p0 p1 p2 p3 p4 p5
  have hen := encode_any y a2 b2 l2 c2 m2 d2 w4 (HY.out.keep H4.out.below) (by have := HL2.out.1; omega) (by have := HL2.out.2; omega)
  rw [HE2.out] at hen
  unfold supV at hen
  obtain ⟨p0, p1, p2, p3, p4, p5⟩ := six_cells H4.out.c1
  have HEN := Lib.hid hen
  clear hen
  go_wp2_with fail
  refine HEN.out.mono ?_
  rintro e w5 ⟨rfl, hb⟩
  have H5 := Lib.hid (H4.out.keep hb)
  clear hb H4 HEN p0 p1 p2 p3 p4 p5
  have hen := encode_any z a3 b3 l3 c3 m3 d3 w5 (HZ.out.keep H5.out.below) (by have := HL3.out.1; omega) (by have := HL3.out.2; omega)
  rw [HE3.out] at hen
  unfold supV at hen
  obtain ⟨p0, p1, p2, p3, p4, p5⟩ := six_cells H5.out.c2
  have HEN := Lib.hid hen
  clear hen
  go_wp2_with fail
  refine HEN.out.mono ?_
  rintro e w6 ⟨rfl, hb⟩
  have H6 := Lib.hid (H5.out.keep hb)
  clear hb H5 HEN p0 p1 p2 p3 p4 p5
  obtain ⟨p0, p1, p2, p3, p4, p5⟩ := six_cells H6.out.c0
  obtain ⟨q0, q1, q2, q3, q4, q5⟩ := six_cells H6.out.c1
  obtain ⟨r0, r1, r2, r3, r4, r5⟩ := six_cells H6.out.c2
  rcases hno with h | ⟨rfl, h⟩ | ⟨rfl, rfl, h⟩ | ⟨rfl, rfl, rfl, h⟩ | ⟨rfl, rfl, rfl, h, h2⟩
  · have u1 : (e1 != 0) = true := by simpa using h
    go_wp2_with fail
    refine (awake_any _).mono ?_
    rintro e w9 ⟨rfl, hb9⟩
    have HB9 := Lib.hid (Wire.below_keep H6.out.below hb9 H6.out.below.size)
    clear hb9
    go_wp2_with fail
    go_ret
    exact ⟨rfl, HB9.out⟩
  · have u1 : (e2 != 0) = true := by simpa using h
    go_wp2_with fail
    refine (awake_any _).mono ?_
    rintro e w9 ⟨rfl, hb9⟩
    have HB9 := Lib.hid (Wire.below_keep H6.out.below hb9 H6.out.below.size)
    clear hb9
    go_wp2_with fail
    go_ret
    exact ⟨rfl, HB9.out⟩
  · have u1 : (e3 != 0) = true := by simpa using h
    go_wp2_with fail
    refine (awake_any _).mono ?_
    rintro e w9 ⟨rfl, hb9⟩
    have HB9 := Lib.hid (Wire.below_keep H6.out.below hb9 H6.out.below.size)
    clear hb9
    go_wp2_with fail
    go_ret
    exact ⟨rfl, HB9.out⟩
  · have u1 : decide (y.gen ≤ x.gen) = true := decide_eq_true h
    go_wp2_with fail
    refine (awake_any _).mono ?_
    rintro e w9 ⟨rfl, hb9⟩
    have HB9 := Lib.hid (Wire.below_keep H6.out.below hb9 H6.out.below.size)
    clear hb9
    go_wp2_with fail
    go_ret
    exact ⟨rfl, HB9.out⟩
  · have u1 : decide (y.gen ≤ x.gen) = false := decide_eq_false (by omega)
    have u2 : decide (x.gen ≤ z.gen) = true := decide_eq_true h2
    go_wp2_with fail
    refine (awake_any _).mono ?_
    rintro e w9 ⟨rfl, hb9⟩
    have HB9 := Lib.hid (Wire.below_keep H6.out.below hb9 H6.out.below.size)
    clear hb9
    go_wp2_with fail
    go_ret
    exact ⟨rfl, HB9.out⟩
end Go.Proofs.Ytigiaiddnbpcmaa
