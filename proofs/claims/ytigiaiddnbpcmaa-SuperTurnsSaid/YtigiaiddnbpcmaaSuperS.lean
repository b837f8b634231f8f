/-
  The law SuperTells, walked.
-/
import Derived.Test.YtigiaiddnbpcmaaSuperR
import Derived.Lib.QuietBelow
set_option linter.unusedVariables false
set_option maxRecDepth 4000
namespace Go.Proofs.Ytigiaiddnbpcmaa
open Go.RowKit SuperP
open Wire (IntsAt)

/-- Two boxed superblocks. -/
structure Bt (w0 w : World) (B : Nat) (x y : Array Value) : Prop where
  below : Below B w0 w
  c0 : w.heap[B]? = some (.cells x 24 (0, 0))
  c1 : w.heap[B + 1]? = some (.cells y 24 (0, 0))
theorem Bt.keep {w0 w w' : World} {B : Nat} {x y : Array Value} (h : Bt w0 w B x y) (hb : Below w.heap.size w w') : Bt w0 w' B x y := by
  have h1 := (Array.getElem?_eq_some_iff.1 h.c1).1
  exact ⟨h.below.trans (hb.mono (by omega)), (hb.block B (by omega)).trans h.c0, (hb.block (B + 1) h1).trans h.c1⟩
theorem bt_new (w : World) (x y : Array Value) : Bt w ((w.alloc (.cells x 24)).alloc (.cells y 24)) w.heap.size x y :=
  ⟨((Below.refl _ w).alloc (Nat.le_refl _) _).alloc (by simp) _, (Below.heap_alloc (w.alloc _) _ w.heap.size (by simp)).trans (heap_alloc_new w _), cells_second⟩
theorem superTells_x (x y : Sup) (a1 : Option Addr) (l1 c1 : Nat) (b1 : Option Addr) (m1 d1 : Nat) (a2 : Option Addr) (l2 c2 : Nat) (b2 : Option Addr) (m2 d2 : Nat) (s : ByteArray) (w : World) (hx : SupAt w x a1 l1 b1 m1) (hy : SupAt w y a2 l2 b2 m2) (hf1 : fewB x = false) :
    Calls Try.prog 3 #[supV x (.slice a1 l1 c1) (.slice b1 m1 d1), supV y (.slice a2 l2 c2) (.slice b2 m2 d2), .string s] w fun e w' => e = .returned (.bool true) ∧ Below w.heap.size w w' := by
  have h0 := bt_new w #[.int .i64 x.gen, .int .i64 x.base, .int .i64 x.size, .int .i64 x.cg, .slice a1 l1 c1, .slice b1 m1 d1] #[.int .i64 y.gen, .int .i64 y.base, .int .i64 y.size, .int .i64 y.cg, .slice a2 l2 c2, .slice b2 m2 d2]
  have hfx := few_any x a1 b1 l1 c1 m1 d1 _ (hx.keep h0.below)
  rw [show (decide (x.chk.length ≤ 80) && decide (x.log.length ≤ 80)) = false from hf1] at hfx
  unfold supV at hfx ⊢
  have HX := Lib.hid hx; have HY := Lib.hid hy; have H0 := Lib.hid h0; have Hfalse := Lib.hid hfx
  clear h0 hfx hx hy
  go_enter Try.func3, Try.ntmps3
  go_wp2_with fail
  refine Hfalse.out.mono ?_
  rintro e w1 ⟨rfl, hb1⟩
  have H1 := Lib.hid (H0.out.keep hb1)
  clear hb1 H0 Hfalse
  go_wp2_with fail
  refine (awake_any _).mono ?_
  rintro e w5 ⟨rfl, hb5⟩
  have HB5 := Lib.hid (Wire.below_keep H1.out.below hb5 H1.out.below.size)
  clear hb5
  go_wp2_with fail
  go_ret
  exact ⟨rfl, HB5.out⟩
theorem superTells_y (x y : Sup) (a1 : Option Addr) (l1 c1 : Nat) (b1 : Option Addr) (m1 d1 : Nat) (a2 : Option Addr) (l2 c2 : Nat) (b2 : Option Addr) (m2 d2 : Nat) (s : ByteArray) (w : World) (hx : SupAt w x a1 l1 b1 m1) (hy : SupAt w y a2 l2 b2 m2) (hf1 : fewB x = true) (hf2 : fewB y = false) :
    Calls Try.prog 3 #[supV x (.slice a1 l1 c1) (.slice b1 m1 d1), supV y (.slice a2 l2 c2) (.slice b2 m2 d2), .string s] w fun e w' => e = .returned (.bool true) ∧ Below w.heap.size w w' := by
  have h0 := bt_new w #[.int .i64 x.gen, .int .i64 x.base, .int .i64 x.size, .int .i64 x.cg, .slice a1 l1 c1, .slice b1 m1 d1] #[.int .i64 y.gen, .int .i64 y.base, .int .i64 y.size, .int .i64 y.cg, .slice a2 l2 c2, .slice b2 m2 d2]
  have hfx := few_any x a1 b1 l1 c1 m1 d1 _ (hx.keep h0.below)
  rw [show (decide (x.chk.length ≤ 80) && decide (x.log.length ≤ 80)) = true from hf1] at hfx
  unfold supV at hfx ⊢
  have HX := Lib.hid hx; have HY := Lib.hid hy; have H0 := Lib.hid h0; have Htrue := Lib.hid hfx
  clear h0 hfx hx hy
  go_enter Try.func3, Try.ntmps3
  go_wp2_with fail
  refine Htrue.out.mono ?_
  rintro e w1 ⟨rfl, hb1⟩
  have H1 := Lib.hid (H0.out.keep hb1)
  clear hb1 H0 Htrue
  have hfy := few_any y a2 b2 l2 c2 m2 d2 w1 (HY.out.keep H1.out.below)
  rw [show (decide (y.chk.length ≤ 80) && decide (y.log.length ≤ 80)) = false from hf2] at hfy
  unfold supV at hfy
  obtain ⟨p0, p1, p2, p3, p4, p5⟩ := six_cells H1.out.c0
  obtain ⟨q0, q1, q2, q3, q4, q5⟩ := six_cells H1.out.c1
  have Hfalse := Lib.hid hfy
  clear hfy
  go_wp2_with fail
  refine Hfalse.out.mono ?_
  rintro e w2 ⟨rfl, hb2⟩
  have H2 := Lib.hid (H1.out.keep hb2)
  clear hb2 H1 Hfalse p0 p1 p2 p3 p4 p5 q0 q1 q2 q3 q4 q5
  go_wp2_with fail
  refine (awake_any _).mono ?_
  rintro e w5 ⟨rfl, hb5⟩
  have HB5 := Lib.hid (Wire.below_keep H2.out.below hb5 H2.out.below.size)
  clear hb5
  go_wp2_with fail
  go_ret
  exact ⟨rfl, HB5.out⟩
theorem superTells_s (x y : Sup) (a1 : Option Addr) (l1 c1 : Nat) (b1 : Option Addr) (m1 d1 : Nat) (a2 : Option Addr) (l2 c2 : Nat) (b2 : Option Addr) (m2 d2 : Nat) (s : ByteArray) (w : World) (hx : SupAt w x a1 l1 b1 m1) (hy : SupAt w y a2 l2 b2 m2) (hf1 : fewB x = true) (hf2 : fewB y = true) (hs : 300 < s.size) (hss : s.size ≤ 9223372036854775807) :
    Calls Try.prog 3 #[supV x (.slice a1 l1 c1) (.slice b1 m1 d1), supV y (.slice a2 l2 c2) (.slice b2 m2 d2), .string s] w fun e w' => e = .returned (.bool true) ∧ Below w.heap.size w w' := by
  have t1 : decide ((300 : Int) < (s.size : Int)) = true := by simp; omega
  have h0 := bt_new w #[.int .i64 x.gen, .int .i64 x.base, .int .i64 x.size, .int .i64 x.cg, .slice a1 l1 c1, .slice b1 m1 d1] #[.int .i64 y.gen, .int .i64 y.base, .int .i64 y.size, .int .i64 y.cg, .slice a2 l2 c2, .slice b2 m2 d2]
  have hfx := few_any x a1 b1 l1 c1 m1 d1 _ (hx.keep h0.below)
  rw [show (decide (x.chk.length ≤ 80) && decide (x.log.length ≤ 80)) = true from hf1] at hfx
  unfold supV at hfx ⊢
  have HX := Lib.hid hx; have HY := Lib.hid hy; have H0 := Lib.hid h0; have Htrue := Lib.hid hfx
  clear h0 hfx hx hy
  go_enter Try.func3, Try.ntmps3
  go_wp2_with fail
  refine Htrue.out.mono ?_
  rintro e w1 ⟨rfl, hb1⟩
  have H1 := Lib.hid (H0.out.keep hb1)
  clear hb1 H0 Htrue
  have hfy := few_any y a2 b2 l2 c2 m2 d2 w1 (HY.out.keep H1.out.below)
  rw [show (decide (y.chk.length ≤ 80) && decide (y.log.length ≤ 80)) = true from hf2] at hfy
  unfold supV at hfy
  obtain ⟨p0, p1, p2, p3, p4, p5⟩ := six_cells H1.out.c0
  obtain ⟨q0, q1, q2, q3, q4, q5⟩ := six_cells H1.out.c1
  have Htrue := Lib.hid hfy
  clear hfy
  go_wp2_with fail
  refine Htrue.out.mono ?_
  rintro e w2 ⟨rfl, hb2⟩
  have H2 := Lib.hid (H1.out.keep hb2)
  clear hb2 H1 Htrue p0 p1 p2 p3 p4 p5 q0 q1 q2 q3 q4 q5
  go_wp2_with fail
  refine (awake_any _).mono ?_
  rintro e w5 ⟨rfl, hb5⟩
  have HB5 := Lib.hid (Wire.below_keep H2.out.below hb5 H2.out.below.size)
  clear hb5
  go_wp2_with fail
  go_ret
  exact ⟨rfl, HB5.out⟩
set_option maxHeartbeats 8000000 in
theorem superTells_walk (x y : Sup) (a1 : Option Addr) (l1 c1 : Nat) (b1 : Option Addr) (m1 d1 : Nat) (a2 : Option Addr) (l2 c2 : Nat) (b2 : Option Addr) (m2 d2 : Nat) (s : ByteArray) (w : World) (hx : SupAt w x a1 l1 b1 m1) (hy : SupAt w y a2 l2 b2 m2) (hf1 : fewB x = true) (hf2 : fewB y = true) (hs : s.size ≤ 300) (nx1 : a1 = none → c1 = 0) (nx2 : b1 = none → d1 = 0) (g0 : -9223372036854775808 ≤ x.gen) (g1 : x.gen ≤ 9223372036854775807) :
    Calls Try.prog 3 #[supV x (.slice a1 l1 c1) (.slice b1 m1 d1), supV y (.slice a2 l2 c2) (.slice b2 m2 d2), .string s] w fun e w' => e = .returned (.bool true) ∧ Below w.heap.size w w' := by
  have t1 : decide ((300 : Int) < (s.size : Int)) = false := by simp; omega
  have hl := few_lens hf1
  rw [hx.chk.1, hx.log.1] at hl
  have hds := fun w => decode_any s w (by omega)
  have hrs := fun w => rdecode_any s w (by omega)
  generalize decY s.data.toList = q at *
  generalize decE s.data.toList = er at *
  have HDS := Lib.hid hds; have HRS := Lib.hid hrs; have HL := Lib.hid hl; have G := Lib.hid (And.intro g0 g1); have NX := Lib.hid (And.intro nx1 nx2)
  clear hds hrs hs hl g0 g1 nx1 nx2
  have h0 := bt_new w #[.int .i64 x.gen, .int .i64 x.base, .int .i64 x.size, .int .i64 x.cg, .slice a1 l1 c1, .slice b1 m1 d1] #[.int .i64 y.gen, .int .i64 y.base, .int .i64 y.size, .int .i64 y.cg, .slice a2 l2 c2, .slice b2 m2 d2]
  have hfx := few_any x a1 b1 l1 c1 m1 d1 _ (hx.keep h0.below)
  rw [show (decide (x.chk.length ≤ 80) && decide (x.log.length ≤ 80)) = true from hf1] at hfx
  unfold supV at hfx ⊢
  have HX := Lib.hid hx; have HY := Lib.hid hy; have H0 := Lib.hid h0; have Htrue := Lib.hid hfx
  clear h0 hfx hx hy
  go_enter Try.func3, Try.ntmps3
  go_wp2_with fail
  refine Htrue.out.mono ?_
  rintro e w1 ⟨rfl, hb1⟩
  have H1 := Lib.hid (H0.out.keep hb1)
  clear hb1 H0 Htrue
  have hfy := few_any y a2 b2 l2 c2 m2 d2 w1 (HY.out.keep H1.out.below)
  rw [show (decide (y.chk.length ≤ 80) && decide (y.log.length ≤ 80)) = true from hf2] at hfy
  unfold supV at hfy
  obtain ⟨p0, p1, p2, p3, p4, p5⟩ := six_cells H1.out.c0
  obtain ⟨q0, q1, q2, q3, q4, q5⟩ := six_cells H1.out.c1
  have Htrue := Lib.hid hfy
  clear hfy
  go_wp2_with fail
  refine Htrue.out.mono ?_
  rintro e w2 ⟨rfl, hb2⟩
  have H2 := Lib.hid (H1.out.keep hb2)
  clear hb2 H1 Htrue p0 p1 p2 p3 p4 p5 q0 q1 q2 q3 q4 q5
  have hen := encode_any x a1 b1 l1 c1 m1 d1 w2 (HX.out.keep H2.out.below) (by have := HL.out.1; omega) (by have := HL.out.2; omega)
  have hrn := fun (w' : World) (hb : Below w.heap.size w w') => rencode_any x a1 b1 l1 c1 m1 d1 w' (HX.out.keep hb) (by have := HL.out.1; omega) (by have := HL.out.2; omega) NX.out.1 NX.out.2
  generalize (enR x).1 = tz at *
  generalize (enR x).2 = te at *
  unfold supV at hen hrn
  obtain ⟨p0, p1, p2, p3, p4, p5⟩ := six_cells H2.out.c0
  have HEN := Lib.hid hen; have HRN := Lib.hid hrn
  clear hen hrn
  go_wp2_with fail
  refine HEN.out.mono ?_
  rintro e w3 ⟨rfl, hb3⟩
  have H3 := Lib.hid (H2.out.keep hb3)
  clear hb3 H2 HEN p0 p1 p2 p3 p4 p5
  obtain ⟨p0, p1, p2, p3, p4, p5⟩ := six_cells H3.out.c0
  go_wp2_with fail
  refine (HRN.out _ H3.out.below).mono ?_
  rintro e w4 ⟨rfl, hb4⟩
  have H4 := Lib.hid (H3.out.keep hb4)
  clear hb4 H3 HRN p0 p1 p2 p3 p4 p5
  go_wp2_with fail
  refine (HDS.out _).mono ?_
  rintro e w5 ⟨⟨e1, f1, e2, f2, rfl, hq1, _, _, _, _⟩, hb5⟩
  simp only [supV]
  have h5 := H4.out.keep hb5
  have hbb := (Below.refl _ w5).alloc (Nat.le_refl _) (.cells #[.int .i64 q.gen, .int .i64 q.base, .int .i64 q.size, .int .i64 q.cg, .slice e1 q.chk.length f1, .slice e2 q.log.length f2] 24)
  have h6 := h5.keep hbb
  have hp6 := heap_alloc_new w5 (.cells #[.int .i64 q.gen, .int .i64 q.base, .int .i64 q.size, .int .i64 q.cg, .slice e1 q.chk.length f1, .slice e2 q.log.length f2] 24)
  have hq6 := hq1.keep hbb
  have H6 := Lib.hid h6; have HP6 := Lib.hid hp6; have HQ6 := Lib.hid hq6
  clear h5 hbb h6 hp6 hq6 hq1 hb5 H4 HDS
  go_wp2_with fail
  refine (HRS.out _).mono ?_
  rintro e w7 ⟨⟨h1, i1, h2, i2, rfl, hq2, _, _, _, _⟩, hb7⟩
  simp only [supV]
  have h7 := H6.out.keep hb7
  have hk5 := (Array.getElem?_eq_some_iff.1 HP6.out).1
  have hp7 := (hb7.block w5.heap.size hk5).trans HP6.out
  have hk7 := (Array.getElem?_eq_some_iff.1 hp7).1
  have hbb := (Below.refl _ w7).alloc (Nat.le_refl _) (.cells #[.int .i64 q.gen, .int .i64 q.base, .int .i64 q.size, .int .i64 q.cg, .slice h1 q.chk.length i1, .slice h2 q.log.length i2] 24)
  have H8 := Lib.hid (h7.keep hbb)
  have HP8 := Lib.hid ((Below.heap_alloc w7 (.cells #[.int .i64 q.gen, .int .i64 q.base, .int .i64 q.size, .int .i64 q.cg, .slice h1 q.chk.length i1, .slice h2 q.log.length i2] 24) _ hk7).trans hp7)
  have HQ8 := Lib.hid (heap_alloc_new w7 (.cells #[.int .i64 q.gen, .int .i64 q.base, .int .i64 q.size, .int .i64 q.cg, .slice h1 q.chk.length i1, .slice h2 q.log.length i2] 24))
  have HS1 := Lib.hid ((HQ6.out.keep hb7).keep hbb)
  have HS2 := Lib.hid (hq2.keep hbb)
  clear h7 hk5 hp7 hk7 hbb hq2 hb7 H6 HP6 HQ6 HRS
  go_wp2_with fail
  generalize w7.alloc (.cells #[.int .i64 q.gen, .int .i64 q.base, .int .i64 q.size, .int .i64 q.cg, .slice h1 q.chk.length i1, .slice h2 q.log.length i2] 24) = w8 at *
  generalize w7.heap.size = k7 at *
  generalize w5.heap.size = k5 at *
  have b8 := H8.out.below
  have C1 := Lib.hid (fun d os => Calls.regrown_of (by
    have := rsupsame_any q q e1 e2 h1 h2 q.chk.length f1 q.log.length f2 q.chk.length i1 q.log.length i2 (Sort.grow (redrawn w8 d) os) (HS1.out.keep (below_regrown w8 d os)) (HS2.out.keep (below_regrown w8 d os))
    rw [sameB_self] at this
    exact this))
  have kx := fun d os => HX.out.keep (b8.trans ((below_regrown w8 d os).mono b8.size))
  have ky := fun d os => HY.out.keep (b8.trans ((below_regrown w8 d os).mono b8.size))
  have C2 := Lib.hid (fun d os => Calls.regrown_of (supfit_any x a1 b1 l1 c1 m1 d1 (Sort.grow (redrawn w8 d) os) (kx d os) (by have := HL.out.1; omega) (by have := HL.out.2; omega)))
  have C3 := Lib.hid (fun d os => Calls.regrown_of (rsupfit_any x a1 b1 l1 c1 m1 d1 (Sort.grow (redrawn w8 d) os) (kx d os) (by have := HL.out.1; omega) (by have := HL.out.2; omega) NX.out.1 NX.out.2))
  have C4 := Lib.hid (fun d os => Calls.regrown_of ((slot_any x.gen (Sort.grow (redrawn w8 d) os) G.out.1 G.out.2).mono fun e w' h => ⟨h.1, h.2 ▸ Below.refl _ _⟩))
  have C5 := Lib.hid (fun d os => Calls.regrown_of ((rslot_any x.gen (Sort.grow (redrawn w8 d) os) G.out.1 G.out.2).mono fun e w' h => ⟨h.1, h.2 ▸ Below.refl _ _⟩))
  have C6 := Lib.hid (fun d os => Calls.regrown_of (supsame_any x y a1 b1 a2 b2 l1 c1 m1 d1 l2 c2 m2 d2 (Sort.grow (redrawn w8 d) os) (kx d os) (ky d os)))
  have C7 := Lib.hid (fun d os => Calls.regrown_of (rsupsame_any x y a1 b1 a2 b2 l1 c1 m1 d1 l2 c2 m2 d2 (Sort.grow (redrawn w8 d) os) (kx d os) (ky d os)))
  have C8 := Lib.hid (fun d os => Calls.regrown_of (awake_any (Sort.grow (redrawn w8 d) os)))
  unfold supV at C1 C2 C3 C6 C7
  generalize decide (Fit x) = fx at *
  generalize sameB x y = gx at *
  generalize slot x.gen = sx at *
  obtain ⟨p0, p1, p2, p3, p4, p5⟩ := six_cells H8.out.c0
  obtain ⟨q0, q1, q2, q3, q4, q5⟩ := six_cells H8.out.c1
  obtain ⟨r0, r1, r2, r3, r4, r5⟩ := six_cells HP8.out
  obtain ⟨s0, s1, s2, s3, s4, s5⟩ := six_cells HQ8.out
  have gp0 := fun d os => cell_regrown p0 d os
  have gp1 := fun d os => cell_regrown p1 d os
  have gp2 := fun d os => cell_regrown p2 d os
  have gp3 := fun d os => cell_regrown p3 d os
  have gp4 := fun d os => cell_regrown p4 d os
  have gp5 := fun d os => cell_regrown p5 d os
  have gq0 := fun d os => cell_regrown q0 d os
  have gq1 := fun d os => cell_regrown q1 d os
  have gq2 := fun d os => cell_regrown q2 d os
  have gq3 := fun d os => cell_regrown q3 d os
  have gq4 := fun d os => cell_regrown q4 d os
  have gq5 := fun d os => cell_regrown q5 d os
  have gr0 := fun d os => cell_regrown r0 d os
  have gr1 := fun d os => cell_regrown r1 d os
  have gr2 := fun d os => cell_regrown r2 d os
  have gr3 := fun d os => cell_regrown r3 d os
  have gr4 := fun d os => cell_regrown r4 d os
  have gr5 := fun d os => cell_regrown r5 d os
  have gs0 := fun d os => cell_regrown s0 d os
  have gs1 := fun d os => cell_regrown s1 d os
  have gs2 := fun d os => cell_regrown s2 d os
  have gs3 := fun d os => cell_regrown s3 d os
  have gs4 := fun d os => cell_regrown s4 d os
  have gs5 := fun d os => cell_regrown s5 d os
  have HB8 := Lib.hid b8
  clear kx ky b8 HX HY HL G NX H8 HP8 HQ8 HS1 HS2
  clear p0 p1 p2 p3 p4 p5 q0 q1 q2 q3 q4 q5 r0 r1 r2 r3 r4 r5 s0 s1 s2 s3 s4 s5
  refine wp_region_quiet_below (by kernel_rfl) (by kernel_rfl) ?_
  repeat (quiet_step (first | with_reducible exact C1.out _ _ | with_reducible exact C2.out _ _ | with_reducible exact C3.out _ _ | with_reducible exact C4.out _ _ | with_reducible exact C5.out _ _ | with_reducible exact C6.out _ _ | with_reducible exact C7.out _ _ | with_reducible exact C8.out _ _))
  refine wpQuiet_nil ?_
  intro _ hw'
  obtain ⟨⟨dq, osq⟩, hw''⟩ := hw'
  subst hw''
  go_wp2_with fail
  go_ret
  exact ⟨rfl, HB8.out.trans ((below_regrown w8 dq osq).mono HB8.out.size)⟩
end Go.Proofs.Ytigiaiddnbpcmaa
