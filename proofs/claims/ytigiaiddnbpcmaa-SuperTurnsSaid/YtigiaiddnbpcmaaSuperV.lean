/-
  The law SuperTurns, walked: the main way.
-/
import Derived.Test.YtigiaiddnbpcmaaSuperU
set_option linter.unusedVariables false
set_option maxRecDepth 4000
namespace Go.Proofs.Ytigiaiddnbpcmaa
open Go.RowKit SuperP
open Wire (IntsAt)
open StampP (zeros torn_first torn_more Torn)

theorem zeros_size : (str zeros).size = 128 := by rw [str_size, zeros, List.length_replicate]
theorem tear1 (z : Sup) (hz : Fit z) (t : Int) : ∃ r : ByteArray, r.size = 128 ∧ Torn (sect z) r.data.toList ∧ ∀ w, Calls Try.prog 21 #[.string (str zeros), .string (str (sect z)), .int .i64 t] w fun e w' => e = .returned (.string r) ∧ Below w.heap.size w w' := by
  have hl := sect_length hz
  obtain ⟨k, hk, h⟩ := torn_any (str zeros) (str (sect z)) t zeros_size (by rw [str_size, hl])
  have ht := torn_first hl hk
  exact ⟨str ((sect z).take k ++ zeros.drop k), ht.2.1, ht, h⟩
theorem tear2 (z : Sup) (o : ByteArray) (ho : Torn (sect z) o.data.toList) (t : Int) : ∃ r : ByteArray, r.size = 128 ∧ Torn (sect z) r.data.toList ∧ ∀ w, Calls Try.prog 21 #[.string o, .string (str zeros), .int .i64 t] w fun e w' => e = .returned (.string r) ∧ Below w.heap.size w w' := by
  obtain ⟨k, hk, h⟩ := torn_any o (str zeros) t (by have := ho.2.1; rw [Wire.len_list] at this; exact this) zeros_size
  have ht := torn_more ho hk
  exact ⟨str (zeros.take k ++ o.data.toList.drop k), ht.2.1, ht, h⟩
theorem tear_cells {w : World} {b : Nat} {t0 t1 t2 t3 : Value} (h : w.heap[b]? = some (.cells #[t0, t1, t2, t3] 39 (0, 0))) : (w.cell? ⟨b, 0, none⟩ = some t0 ∧ w.cell? ⟨b, 1, none⟩ = some t1) ∧ w.cell? ⟨b, 2, none⟩ = some t2 ∧ w.cell? ⟨b, 3, none⟩ = some t3 := by
  refine ⟨⟨?_, ?_⟩, ?_, ?_⟩ <;> (rw [Wire.cell_of_heap h]; rfl)
theorem best_x {x : Sup} {a r : ByteArray} (ha : a.size ≤ 1000000) (hr : r.size ≤ 1000000) (h : best a.data.toList r.data.toList = some (x, false)) (w : World) : Calls Try.prog 19 #[.string a, .string r] w (BestMade w x 0 0) := by
  have := sbest_any a r w ha hr
  obtain ⟨e1, e2, e3⟩ := best_is h
  rw [e1, e2, e3] at this
  exact this
theorem best_y {y : Sup} {a r : ByteArray} (ha : a.size ≤ 1000000) (hr : r.size ≤ 1000000) (h : best a.data.toList r.data.toList = some (y, true)) (w : World) : Calls Try.prog 19 #[.string a, .string r] w (BestMade w y 1 0) := by
  have := sbest_any a r w ha hr
  obtain ⟨e1, e2, e3⟩ := best_is h
  rw [e1, e2, e3] at this
  exact this
theorem torn_size {a : List UInt8} {r : ByteArray} (h : Torn a r.data.toList) : r.size ≤ 1000000 := by
  have := h.2.1
  rw [Wire.len_list] at this
  omega
set_option maxHeartbeats 8000000 in
theorem superTurns_walk (x y z : Sup) (a1 : Option Addr) (l1 c1 : Nat) (b1 : Option Addr) (m1 d1 : Nat) (a2 : Option Addr) (l2 c2 : Nat) (b2 : Option Addr) (m2 d2 : Nat) (a3 : Option Addr) (l3 c3 : Nat) (b3 : Option Addr) (m3 d3 : Nat) (t0 t1 t2 t3 : Int) (w : World) (hx : SupAt w x a1 l1 b1 m1) (hy : SupAt w y a2 l2 b2 m2) (hz : SupAt w z a3 l3 b3 m3) (hf1 : fewB x = true) (hf2 : fewB y = true) (hf3 : fewB z = true) (k1 : l1 ≤ 80 ∧ m1 ≤ 80) (k2 : l2 ≤ 80 ∧ m2 ≤ 80) (k3 : l3 ≤ 80 ∧ m3 ≤ 80) (fx : Fit x) (fy : Fit y) (fz : Fit z) (gy : x.gen < y.gen) (gz : z.gen < x.gen) :
    Calls Try.prog 6 #[supV x (.slice a1 l1 c1) (.slice b1 m1 d1), supV y (.slice a2 l2 c2) (.slice b2 m2 d2), supV z (.slice a3 l3 c3) (.slice b3 m3 d3), .agg #[.int .i64 t0, .int .i64 t1, .int .i64 t2, .int .i64 t3]] w fun e w' => e = .returned (.bool true) ∧ Below w.heap.size w w' := by
  have sa : (str (sect x)).size ≤ 1000000 := by rw [str_size, sect_length fx]; decide
  have sb : (str (sect y)).size ≤ 1000000 := by rw [str_size, sect_length fy]; decide
  have sc : (str (sect z)).size ≤ 1000000 := by rw [str_size, sect_length fz]; decide
  obtain ⟨s1, z1, n1, T1⟩ := tear1 z fz t0
  obtain ⟨s2, z2, n2, T2⟩ := tear2 z s1 n1 t1
  obtain ⟨s3, z3, n3, T3⟩ := tear2 z s2 n2 t2
  obtain ⟨s4, z4, n4, T4⟩ := tear2 z (str (sect z)) (torn_self (sect_length fz)) t2
  obtain ⟨s5, z5, n5, T5⟩ := tear1 y fy t3
  have nb : Torn (sect z) (str zeros).data.toList := by
    have := torn_first (sect_length fz) (Nat.zero_le 128)
    rw [List.take_zero, List.nil_append, List.drop_zero] at this
    exact this
  have hL : ∀ j, j < 6 → ∃ r : ByteArray, (#[.string (str (sect z)), .string s2, .string s3, .string s4, .string (str zeros), .string s5] : Array Value)[j]? = some (.string r) ∧ ((∀ w, Calls Try.prog 19 #[.string (str (sect x)), .string r] w (BestMade w x 0 0)) ∨ (j = 5 ∧ ∀ w, Calls Try.prog 19 #[.string (str (sect x)), .string r] w (BestMade w y 1 0))) := by
    intro j hj
    rcases (by omega : j = 0 ∨ j = 1 ∨ j = 2 ∨ j = 3 ∨ j = 4 ∨ j = 5) with rfl | rfl | rfl | rfl | rfl | rfl
    · exact ⟨_, rfl, .inl (best_x sa sc (best_elder fx fz gz (torn_self (sect_length fz))))⟩
    · exact ⟨_, rfl, .inl (best_x sa (torn_size n2) (best_elder fx fz gz n2))⟩
    · exact ⟨_, rfl, .inl (best_x sa (torn_size n3) (best_elder fx fz gz n3))⟩
    · exact ⟨_, rfl, .inl (best_x sa (torn_size n4) (best_elder fx fz gz n4))⟩
    · exact ⟨_, rfl, .inl (best_x sa (torn_size nb) (best_elder fx fz gz nb))⟩
    · rcases best_newer fx fy gy n5 with h | h
      · exact ⟨_, rfl, .inl (best_x sa (torn_size n5) h)⟩
      · exact ⟨_, rfl, .inr ⟨rfl, best_y sa (torn_size n5) h⟩⟩
  have hbb : ∀ w, Calls Try.prog 19 #[.string (str (sect x)), .string (str (sect y))] w (BestMade w y 1 0) := best_y sa sb (by
    have := best_both (dec_sect fx) (dec_sect fy)
    rw [if_pos gy] at this
    exact this)
  have hne : sameB y x = false := decide_eq_false fun e => by rw [e] at gy; omega
  have q1 : enR x = (str (sect x), 0) := if_pos fx
  have q2 : enR y = (str (sect y), 0) := if_pos fy
  have q3 : enR z = (str (sect z), 0) := if_pos fz
  have K5 := Lib.hid (fun w => rblank_any w)
  generalize str (sect x) = A at *
  generalize str (sect y) = B at *
  generalize str (sect z) = C at *
  generalize str zeros = bl at *
  have HE1 := Lib.hid q1; have HE2 := Lib.hid q2; have HE3 := Lib.hid q3
  have U1 := Lib.hid T1; have U2 := Lib.hid T2; have U3 := Lib.hid T3; have U4 := Lib.hid T4; have U5 := Lib.hid T5
  have HLS := Lib.hid hL; have HBB := Lib.hid hbb; have HNE := Lib.hid hne
  have u1 : decide (y.gen ≤ x.gen) = false := decide_eq_false (by omega)
  have u2 : decide (x.gen ≤ z.gen) = false := decide_eq_false (by omega)
  have hal : Try.prog.arrayLen 39 = 4 := by kernel_rfl
  clear q1 q2 q3 T1 T2 T3 T4 T5 hL hbb hne z1 z2 z3 z4 z5 n1 n2 n3 n4 n5 nb sa sb sc fx fy fz gy gz
  have HL1 := Lib.hid k1; have HL2 := Lib.hid k2; have HL3 := Lib.hid k3
  clear k1 k2 k3
  have h0 := bq_new w #[.int .i64 x.gen, .int .i64 x.base, .int .i64 x.size, .int .i64 x.cg, .slice a1 l1 c1, .slice b1 m1 d1] #[.int .i64 y.gen, .int .i64 y.base, .int .i64 y.size, .int .i64 y.cg, .slice a2 l2 c2, .slice b2 m2 d2] #[.int .i64 z.gen, .int .i64 z.base, .int .i64 z.size, .int .i64 z.cg, .slice a3 l3 c3, .slice b3 m3 d3] #[.int .i64 t0, .int .i64 t1, .int .i64 t2, .int .i64 t3]
  have hfx := few_any x a1 b1 l1 c1 m1 d1 _ (hx.keep h0.below)
  rw [show (decide (x.chk.length ≤ 80) && decide (x.log.length ≤ 80)) = true from hf1] at hfx
  unfold supV at hfx ⊢
  have HX := Lib.hid hx; have HY := Lib.hid hy; have HZ := Lib.hid hz; have H0 := Lib.hid h0; have Htrue := Lib.hid hfx
  clear h0 hfx hx hy hz
  go_enter Try.func6, Try.ntmps6
  go_wp2_with fail
  refine Htrue.out.mono ?_
  rintro e w1 ⟨rfl, hb1⟩
  have H1 := Lib.hid (H0.out.keep hb1)
  clear hb1 H0 Htrue
  have hff := few_any y a2 b2 l2 c2 m2 d2 w1 (HY.out.keep H1.out.below)
  rw [show (decide (y.chk.length ≤ 80) && decide (y.log.length ≤ 80)) = true from hf2] at hff
  unfold supV at hff
  obtain ⟨p0, p1, p2, p3, p4, p5⟩ := six_cells H1.out.c1
  have HFF := Lib.hid hff
  clear hff
  go_wp2_with fail
  refine HFF.out.mono ?_
  rintro e w2 ⟨rfl, hb⟩
  have H2 := Lib.hid (H1.out.keep hb)
  clear hb H1 HFF p0 p1 p2 p3 p4 p5
  have hff := few_any z a3 b3 l3 c3 m3 d3 w2 (HZ.out.keep H2.out.below)
  rw [show (decide (z.chk.length ≤ 80) && decide (z.log.length ≤ 80)) = true from hf3] at hff
  unfold supV at hff
  obtain ⟨p0, p1, p2, p3, p4, p5⟩ := six_cells H2.out.c2
  have HFF := Lib.hid hff
  clear hff
  go_wp2_with fail
  refine HFF.out.mono ?_
  rintro e w3 ⟨rfl, hb⟩
  have H3 := Lib.hid (H2.out.keep hb)
  clear hb H2 HFF p0 p1 p2 p3 p4 p5
  have hen := encode_any x a1 b1 l1 c1 m1 d1 w3 (HX.out.keep H3.out.below) (by have := HL1.out.1; omega) (by have := HL1.out.2; omega)
  rw [HE1.out] at hen
  unfold supV at hen
  obtain ⟨p0, p1, p2, p3, p4, p5⟩ := six_cells H3.out.c0
  have HEN := Lib.hid hen
  clear hen
  go_wp2_with fail
  refine HEN.out.mono ?_
  rintro e w4 ⟨rfl, hb⟩
  have H4 := Lib.hid (H3.out.keep hb)
  clear hb H3 HEN p0 p1 p2 p3 p4 p5
  have hen := encode_any y a2 b2 l2 c2 m2 d2 w4 (HY.out.keep H4.out.below) (by have := HL2.out.1; omega) (by have := HL2.out.2; omega)
  rw [HE2.out] at hen
  unfold supV at hen
  obtain ⟨p0, p1, p2, p3, p4, p5⟩ := six_cells H4.out.c1
  have HEN := Lib.hid hen
  clear hen
  go_wp2_with fail
  refine HEN.out.mono ?_
  rintro e w5 ⟨rfl, hb⟩
  have H5 := Lib.hid (H4.out.keep hb)
  clear hb H4 HEN p0 p1 p2 p3 p4 p5
  have hen := encode_any z a3 b3 l3 c3 m3 d3 w5 (HZ.out.keep H5.out.below) (by have := HL3.out.1; omega) (by have := HL3.out.2; omega)
  rw [HE3.out] at hen
  unfold supV at hen
  obtain ⟨p0, p1, p2, p3, p4, p5⟩ := six_cells H5.out.c2
  have HEN := Lib.hid hen
  clear hen
  go_wp2_with fail
  refine HEN.out.mono ?_
  rintro e w6 ⟨rfl, hb⟩
  have H6 := Lib.hid (H5.out.keep hb)
  clear hb H5 HEN p0 p1 p2 p3 p4 p5
  obtain ⟨p0, p1, p2, p3, p4, p5⟩ := six_cells H6.out.c0
  obtain ⟨q0, q1, q2, q3, q4, q5⟩ := six_cells H6.out.c1
  obtain ⟨r0, r1, r2, r3, r4, r5⟩ := six_cells H6.out.c2
  go_wp2_with fail
  clear p0 p1 p2 p3 p4 p5 q0 q1 q2 q3 q4 q5 r0 r1 r2 r3 r4 r5 u1 u2
  have hq0 := H6.out.drew
  have hc0 := tear_cells hq0.c3
  go_region_held3 (fun w' => w'.cell? ⟨w.heap.size + 3, 0, none⟩ = some (.int .i64 t0) ∧ w'.cell? ⟨w.heap.size + 3, 1, none⟩ = some (.int .i64 t1))
    (first | with_reducible exact ⟨hc0.1.1, hc0.1.2⟩ | with_reducible exact ⟨hc1.1.1, hc1.1.2⟩ | with_reducible exact ⟨hc2.1.1, hc2.1.2⟩ | with_reducible exact ⟨hc3.1.1, hc3.1.2⟩ | with_reducible exact ⟨hc4.1.1, hc4.1.2⟩)
    (first
      | (go_at_call 21; have hqq := hq3; with_reducible refine (U2.out _).mono ?_; rintro e x4 ⟨rfl, hb4⟩; have hq4 := hq3.keep hb4; clear hqq; have hc4 := tear_cells hq4.c3)
      | (go_at_call 22; have hqq := hq2; with_reducible refine (K5.out _).mono ?_; rintro e x3 ⟨rfl, hb3⟩; have hq3 := hq2.keep hb3; clear hqq; have hc3 := tear_cells hq3.c3)
      | (go_at_call 21; have hqq := hq1; with_reducible refine (U1.out _).mono ?_; rintro e x2 ⟨rfl, hb2⟩; have hq2 := hq1.keep hb2; clear hqq; have hc2 := tear_cells hq2.c3)
      | (go_at_call 22; have hqq := hq0; with_reducible refine (K5.out _).mono ?_; rintro e x1 ⟨rfl, hb1⟩; have hq1 := hq0.keep hb1; clear hqq; have hc1 := tear_cells hq1.c3))
  have H7 := Lib.hid hq4
  clear hq0 hq1 hq2 hq3 hq4 hc0 hc1 hc2 hc3 hc4 hb1 hb2 hb3 hb4 H6
  go_wp2_with fail
  have hq0 := H7.out.drew
  have hc0 := tear_cells hq0.c3
  go_region_held3 (fun w' => w'.cell? ⟨w.heap.size + 3, 2, none⟩ = some (.int .i64 t2) ∧ w'.cell? ⟨w.heap.size + 3, 3, none⟩ = some (.int .i64 t3))
    (first | with_reducible exact ⟨hc0.2.1, hc0.2.2⟩ | with_reducible exact ⟨hc1.2.1, hc1.2.2⟩ | with_reducible exact ⟨hc2.2.1, hc2.2.2⟩ | with_reducible exact ⟨hc3.2.1, hc3.2.2⟩ | with_reducible exact ⟨hc4.2.1, hc4.2.2⟩ | with_reducible exact ⟨hc5.2.1, hc5.2.2⟩ | with_reducible exact ⟨hc6.2.1, hc6.2.2⟩ | with_reducible exact ⟨hc7.2.1, hc7.2.2⟩ | with_reducible exact ⟨Lib.cell?_alloc_some _ hc7.2.1, Lib.cell?_alloc_some _ hc7.2.2⟩)
    (first
      | (go_at_call 21; have hqq := hq6; with_reducible refine (U5.out _).mono ?_; rintro e x7 ⟨rfl, hb7⟩; have hq7 := hq6.keep hb7; clear hqq; have hc7 := tear_cells hq7.c3)
      | (go_at_call 22; have hqq := hq5; with_reducible refine (K5.out _).mono ?_; rintro e x6 ⟨rfl, hb6⟩; have hq6 := hq5.keep hb6; clear hqq; have hc6 := tear_cells hq6.c3)
      | (go_at_call 22; have hqq := hq4; with_reducible refine (K5.out _).mono ?_; rintro e x5 ⟨rfl, hb5⟩; have hq5 := hq4.keep hb5; clear hqq; have hc5 := tear_cells hq5.c3)
      | (go_at_call 21; have hqq := hq3; with_reducible refine (U4.out _).mono ?_; rintro e x4 ⟨rfl, hb4⟩; have hq4 := hq3.keep hb4; clear hqq; have hc4 := tear_cells hq4.c3)
      | (go_at_call 22; have hqq := hq2; with_reducible refine (K5.out _).mono ?_; rintro e x3 ⟨rfl, hb3⟩; have hq3 := hq2.keep hb3; clear hqq; have hc3 := tear_cells hq3.c3)
      | (go_at_call 21; have hqq := hq1; with_reducible refine (U3.out _).mono ?_; rintro e x2 ⟨rfl, hb2⟩; have hq2 := hq1.keep hb2; clear hqq; have hc2 := tear_cells hq2.c3)
      | (go_at_call 22; have hqq := hq0; with_reducible refine (K5.out _).mono ?_; rintro e x1 ⟨rfl, hb1⟩; have hq1 := hq0.keep hb1; clear hqq; have hc1 := tear_cells hq1.c3))
  have hq8 := hq7.keep ((Below.refl _ x7).alloc (Nat.le_refl _) (.cells #[.string C, .string s2, .string s3, .string s4, .string bl, .string s5] 9))
  have hs8 := heap_alloc_new x7 (.cells #[.string C, .string s2, .string s3, .string s4, .string bl, .string s5] 9)
  have H8 := Lib.hid hq8; have HS8 := Lib.hid hs8
  clear hq0 hq1 hq2 hq3 hq4 hq5 hq6 hq7 hq8 hs8 hc0 hc1 hc2 hc3 hc4 hc5 hc6 hc7 hb1 hb2 hb3 hb4 hb5 hb6 hb7 H7 U1 U2 U3 U4 U5 K5
  generalize x7.alloc (.cells #[.string C, .string s2, .string s3, .string s4, .string bl, .string s5] 9) = w8 at *
  generalize x7.heap.size = kl at *
  go_wp2_with fail
  go_loopw [17] (fun i wr => ∃ j : Nat, j ≤ 6 ∧ i = .int .i64 (j : Int) ∧ Hid (Bq w wr w.heap.size #[.int .i64 x.gen, .int .i64 x.base, .int .i64 x.size, .int .i64 x.cg, .slice a1 l1 c1, .slice b1 m1 d1] #[.int .i64 y.gen, .int .i64 y.base, .int .i64 y.size, .int .i64 y.cg, .slice a2 l2 c2, .slice b2 m2 d2] #[.int .i64 z.gen, .int .i64 z.base, .int .i64 z.size, .int .i64 z.cg, .slice a3 l3 c3, .slice b3 m3 d3] #[.int .i64 t0, .int .i64 t1, .int .i64 t2, .int .i64 t3]) ∧ Hid (wr.heap[kl]? = some (.cells #[.string C, .string s2, .string s3, .string s4, .string bl, .string s5] 9 (0, 0)))) (fun i _ => 6 - (intOf i).toNat)
  case atStart => exact ⟨0, by omega, rfl, H8, HS8⟩
  case round =>
    obtain ⟨j, hj, rfl, hQ, hS⟩ := hrel
    by_cases hlt : j < 6
    · obtain ⟨r, hr, hc⟩ := HLS.out j hlt
      have dcell : wr.cell? ⟨kl, j, none⟩ = some (.string r) := (Wire.cell_of_heap hS.out).trans hr
      have hj6 : (j : Int) < 6 := by omega
      have hkl := (Array.getElem?_eq_some_iff.1 hS.out).1
      clear hr
      rcases hc with hc | ⟨rfl, hc⟩
      · have HC := Lib.hid hc
        clear hc
        go_wp2_with fail
        refine (HC.out _).mono ?_
        rintro e x8 ⟨⟨u1, v1, u2, v2, rfl, hs, _, _⟩, hb⟩
        simp only [supV]
        have hbb := (Below.refl _ x8).alloc (Nat.le_refl _) (.cells #[.int .i64 x.gen, .int .i64 x.base, .int .i64 x.size, .int .i64 x.cg, .slice u1 x.chk.length v1, .slice u2 x.log.length v2] 24)
        have hq1 := hQ.out.keep hb
        have hq2 := hq1.keep hbb
        have hs1 := (hb.block kl hkl).trans hS.out
        have hs2 := (hbb.block kl (Array.getElem?_eq_some_iff.1 hs1).1).trans hs1
        have hn2 := heap_alloc_new x8 (.cells #[.int .i64 x.gen, .int .i64 x.base, .int .i64 x.size, .int .i64 x.cg, .slice u1 x.chk.length v1, .slice u2 x.log.length v2] 24)
        have hsm := supsame_any x x u1 u2 a1 b1 x.chk.length v1 x.log.length v2 l1 c1 m1 d1 _ (hs.keep hbb) (HX.out.keep hq2.below)
        rw [sameB_self] at hsm
        unfold supV at hsm
        obtain ⟨p0, p1, p2, p3, p4, p5⟩ := six_cells hn2
        obtain ⟨q0, q1, q2, q3, q4, q5⟩ := six_cells hq2.c0
        have HSM := Lib.hid hsm; have HQ2 := Lib.hid hq2; have HS2 := Lib.hid hs2
        clear hbb hq1 hq2 hs1 hs2 hn2 hsm hs hb hQ hS hkl dcell HC
        go_wp2_with fail
        refine HSM.out.mono ?_
        rintro e x9 ⟨rfl, hb9⟩
        have HQ9 := Lib.hid (HQ2.out.keep hb9)
        have HS9 := Lib.hid ((hb9.block kl (Array.getElem?_eq_some_iff.1 HS2.out).1).trans HS2.out)
        clear hb9 HQ2 HS2 HSM p0 p1 p2 p3 p4 p5 q0 q1 q2 q3 q4 q5
        go_wp2_with fail
        go_roundw
        case rel => exact ⟨j + 1, by omega, by go_num, HQ9, HS9⟩
        case measure => simp [intOf]; omega
      · have HC := Lib.hid hc
        clear hc
        go_wp2_with fail
        refine (HC.out _).mono ?_
        rintro e x8 ⟨⟨u1, v1, u2, v2, rfl, hs, _, _⟩, hb⟩
        simp only [supV]
        have hbb := (Below.refl _ x8).alloc (Nat.le_refl _) (.cells #[.int .i64 y.gen, .int .i64 y.base, .int .i64 y.size, .int .i64 y.cg, .slice u1 y.chk.length v1, .slice u2 y.log.length v2] 24)
        have hq1 := hQ.out.keep hb
        have hq2 := hq1.keep hbb
        have hs1 := (hb.block kl hkl).trans hS.out
        have hs2 := (hbb.block kl (Array.getElem?_eq_some_iff.1 hs1).1).trans hs1
        have hn2 := heap_alloc_new x8 (.cells #[.int .i64 y.gen, .int .i64 y.base, .int .i64 y.size, .int .i64 y.cg, .slice u1 y.chk.length v1, .slice u2 y.log.length v2] 24)
        have hsu := hs.keep hbb
        have hsm := supsame_any y x u1 u2 a1 b1 y.chk.length v1 y.log.length v2 l1 c1 m1 d1 _ hsu (HX.out.keep hq2.below)
        rw [HNE.out] at hsm
        unfold supV at hsm
        obtain ⟨p0, p1, p2, p3, p4, p5⟩ := six_cells hn2
        obtain ⟨q0, q1, q2, q3, q4, q5⟩ := six_cells hq2.c0
        have HSM := Lib.hid hsm; have HQ2 := Lib.hid hq2; have HS2 := Lib.hid hs2; have HSU := Lib.hid hsu; have HN2 := Lib.hid hn2
        clear hbb hq1 hq2 hs1 hs2 hn2 hsm hs hb hQ hS hkl dcell HC hsu
        go_wp2_with fail
        refine HSM.out.mono ?_
        rintro e x9 ⟨rfl, hb9⟩
        have hn9 := (hb9.block x8.heap.size (Array.getElem?_eq_some_iff.1 HN2.out).1).trans HN2.out
        have hq9 := HQ2.out.keep hb9
        have hsm := supsame_any y y u1 u2 a2 b2 y.chk.length v1 y.log.length v2 l2 c2 m2 d2 _ (HSU.out.keep hb9) (HY.out.keep hq9.below)
        rw [sameB_self] at hsm
        unfold supV at hsm
        have HS9 := Lib.hid ((hb9.block kl (Array.getElem?_eq_some_iff.1 HS2.out).1).trans HS2.out)
        have HQ9 := Lib.hid hq9; have HSM9 := Lib.hid hsm
        clear p0 p1 p2 p3 p4 p5 q0 q1 q2 q3 q4 q5
        obtain ⟨p0, p1, p2, p3, p4, p5⟩ := six_cells hn9
        obtain ⟨q0, q1, q2, q3, q4, q5⟩ := six_cells hq9.c1
        clear hb9 hn9 hq9 hsm HQ2 HS2 HSM HSU HN2
        go_wp2_with fail
        refine HSM9.out.mono ?_
        rintro e x10 ⟨rfl, hb10⟩
        have HQ10 := Lib.hid (HQ9.out.keep hb10)
        have HS10 := Lib.hid ((hb10.block kl (Array.getElem?_eq_some_iff.1 HS9.out).1).trans HS9.out)
        clear hb10 HQ9 HS9 HSM9 p0 p1 p2 p3 p4 p5 q0 q1 q2 q3 q4 q5
        go_wp2_with fail
        go_roundw
        case rel => exact ⟨6, by omega, by go_num, HQ10, HS10⟩
        case measure => simp [intOf]
    · obtain rfl : j = 6 := by omega
      go_wp2_with fail
      refine (HBB.out _).mono ?_
      rintro e x8 ⟨⟨u1, v1, u2, v2, rfl, hs, _, _⟩, hb⟩
      simp only [supV]
      have hbb := (Below.refl _ x8).alloc (Nat.le_refl _) (.cells #[.int .i64 y.gen, .int .i64 y.base, .int .i64 y.size, .int .i64 y.cg, .slice u1 y.chk.length v1, .slice u2 y.log.length v2] 24)
      have hq2 := (hQ.out.keep hb).keep hbb
      have hn2 := heap_alloc_new x8 (.cells #[.int .i64 y.gen, .int .i64 y.base, .int .i64 y.size, .int .i64 y.cg, .slice u1 y.chk.length v1, .slice u2 y.log.length v2] 24)
      have hsm := supsame_any y y u1 u2 a2 b2 y.chk.length v1 y.log.length v2 l2 c2 m2 d2 _ (hs.keep hbb) (HY.out.keep hq2.below)
      rw [sameB_self] at hsm
      unfold supV at hsm
      obtain ⟨p0, p1, p2, p3, p4, p5⟩ := six_cells hn2
      obtain ⟨q0, q1, q2, q3, q4, q5⟩ := six_cells hq2.c1
      have HSM := Lib.hid hsm; have HQ2 := Lib.hid hq2
      clear hbb hq2 hn2 hsm hs hb hQ hS HLS HBB HNE
      go_wp2_with fail
      refine HSM.out.mono ?_
      rintro e x9 ⟨rfl, hb9⟩
      have HQ9 := Lib.hid (HQ2.out.keep hb9)
      clear hb9 HQ2 HSM p0 p1 p2 p3 p4 p5 q0 q1 q2 q3 q4 q5
      go_wp2_with fail
      refine (awake_any _).mono ?_
      rintro e x11 ⟨rfl, hb11⟩
      have HBZ := Lib.hid (Wire.below_keep HQ9.out.below hb11 HQ9.out.below.size)
      clear hb11
      go_wp2_with fail
      go_ret
      exact ⟨rfl, HBZ.out⟩
end Go.Proofs.Ytigiaiddnbpcmaa
