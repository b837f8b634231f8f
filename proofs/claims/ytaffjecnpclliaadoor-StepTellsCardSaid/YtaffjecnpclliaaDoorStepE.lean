/-
  The contract of the document's Text: any step; what was there stays as it was.
-/
import Derived.Test.YtaffjecnpclliaaDoorStepD
set_option linter.unusedVariables false
set_option linter.unusedSimpArgs false
set_option maxRecDepth 4000
namespace Go.Proofs.YtaffjecnpclliaaDoor.Step
open Go.RowKit StP
open Go.Proofs.YtaffjecnpclliaaDoor.Kt

theorem rdigits_say (n : Int) (s : ByteArray) (hs : bs (Lib.itoa n) = s) (h0 : 0 ≤ n) (h1 : n ≤ 100) (w : World) : Calls Tryd.prog 30 #[.int .i64 n] w fun e w' => e = .returned (.string s) ∧ Below w.heap.size w w' := by
  have h := Num.rdigits_any n w (by omega) (by omega)
  refine h.mono ?_
  rintro e w' ⟨rfl, hb⟩
  exact ⟨by rw [← hs]; rfl, hb⟩
theorem rop_below (n : Int) (s : ByteArray) (hs : bs (opL n) = s) (w : World) : Calls Tryd.prog 28 #[.int .i64 n] w fun e w' => e = .returned (.string s) ∧ Below w.heap.size w w' := by
  refine (rop_is n s hs w).mono ?_
  rintro e w' ⟨rfl, rfl⟩
  exact ⟨rfl, Below.refl _ _⟩
theorem rcl_below (n : Int) (s : ByteArray) (hs : bs (clL n) = s) (w : World) : Calls Tryd.prog 29 #[.int .i64 n] w fun e w' => e = .returned (.string s) ∧ Below w.heap.size w w' := by
  refine (rcl_is n s hs w).mono ?_
  rintro e w' ⟨rfl, rfl⟩
  exact ⟨rfl, Below.refl _ _⟩
theorem data_append (a b : ByteArray) : (a ++ b).data.toList = a.data.toList ++ b.data.toList := by
  simp [ByteArray.data_append]
theorem bs_size (l : List UInt8) : (bs l).size = l.length := by simp [bs, ByteArray.size]

set_option maxHeartbeats 8000000 in
theorem rtext_any (x0 x1 x2 x3 x4 x5 : Int) (w : World) :
    Calls Tryd.prog 12 #[.agg #[.int .i64 x0, .int .i64 x1, .int .i64 x2, .int .i64 x3, .int .i64 x4, .int .i64 x5]] w fun e w' => e = .returned (.string (bs (textS ⟨x0, x1, x2, x3, x4, x5⟩))) ∧ Below w.heap.size w w' := by
  have hB0 := bx6_new 23 w (.int .i64 x0) (.int .i64 x1) (.int .i64 x2) (.int .i64 x3) (.int .i64 x4) (.int .i64 x5)
  obtain ⟨w0, hw0⟩ : ∃ w0, w.alloc (.cells #[.int .i64 x0, .int .i64 x1, .int .i64 x2, .int .i64 x3, .int .i64 x4, .int .i64 x5] 23) = w0 := ⟨_, rfl⟩
  rw [hw0] at hB0
  have HW := Lib.hid hw0
  have HB0 := Lib.hid hB0
  obtain ⟨d0, d1, d2, d3, d4, d5⟩ := cells6 hB0.box
  obtain ⟨s, hs⟩ : ∃ s, bs (textS ⟨x0, x1, x2, x3, x4, x5⟩) = s := ⟨_, rfl⟩
  rw [hs]
  have HV := Lib.hid hs
  clear hw0 hB0 hs
  cases h1 : fitS ⟨x0, x1, x2, x3, x4, x5⟩ with
  | false =>
    have CV := Lib.hid (rfit_is x0 x1 x2 x3 x4 x5 false h1)
    have HE : Hid ((⟨#[]⟩ : ByteArray) = s) := by show _ = _; rw [← HV.out, text_no h1]; rfl
    clear h1
    go_enter Tryd.func12, Tryd.ntmps12
    go_wp2_with fail
    rw [show w.alloc (.cells #[.int .i64 x0, .int .i64 x1, .int .i64 x2, .int .i64 x3, .int .i64 x4, .int .i64 x5] 23) = w0 from HW.out]
    go_wp2_with fail
    refine (CV.out w0).mono ?_
    rintro e w1 ⟨rfl, hb⟩
    have HB1 := Lib.hid (HB0.out.keep hb)
    clear hb d0 d1 d2 d3 d4 d5
    go_wp2_with fail
    go_ret
    exact ⟨ret_str HE.out, HB1.out.bel⟩
  | true =>
    have CV := Lib.hid (rfit_is x0 x1 x2 x3 x4 x5 true h1)
    have ho := fitS_of h1
    have HL2 : Hid (0 ≤ x2) := by show _ ≤ _; have := ho.tries0; simp only at this; omega
    have HU2 : Hid (x2 ≤ 100) := by show _ ≤ _; have := ho.tries1; simp only at this; omega
    have HL3 : Hid (0 ≤ x3) := by show _ ≤ _; have := ho.base0; simp only at this; omega
    have HU3 : Hid (x3 ≤ 100) := by show _ ≤ _; have := ho.base1; simp only at this; omega
    have HL4 : Hid (0 ≤ x4) := by show _ ≤ _; have := ho.cap0; simp only at this; omega
    have HU4 : Hid (x4 ≤ 100) := by show _ ≤ _; have := ho.cap1; simp only at this; omega
    have HL5 : Hid (0 ≤ x5) := by show _ ≤ _; have := ho.wait0; simp only at this; omega
    have HU5 : Hid (x5 ≤ 100) := by show _ ≤ _; have := ho.wait1; simp only at this; omega
    obtain ⟨D0, hD0⟩ : ∃ D0, bs (opL x0) = D0 := ⟨_, rfl⟩
    obtain ⟨D1, hD1⟩ : ∃ D1, bs (clL x1) = D1 := ⟨_, rfl⟩
    obtain ⟨D2, hD2⟩ : ∃ D2, bs (Lib.itoa x2) = D2 := ⟨_, rfl⟩
    obtain ⟨D3, hD3⟩ : ∃ D3, bs (Lib.itoa x3) = D3 := ⟨_, rfl⟩
    obtain ⟨D4, hD4⟩ : ∃ D4, bs (Lib.itoa x4) = D4 := ⟨_, rfl⟩
    obtain ⟨D5, hD5⟩ : ∃ D5, bs (Lib.itoa x5) = D5 := ⟨_, rfl⟩
    have hZ0 : D0.size ≤ 21 := by rw [← hD0, bs_size, opL_len]; omega
    have hZ1 : D1.size ≤ 21 := by rw [← hD1, bs_size]; have := clL_len x1; omega
    have hZ2 : D2.size ≤ 21 := by rw [← hD2, bs_size]; exact itoa_fit_len HL2.out HU2.out
    have hZ3 : D3.size ≤ 21 := by rw [← hD3, bs_size]; exact itoa_fit_len HL3.out HU3.out
    have hZ4 : D4.size ≤ 21 := by rw [← hD4, bs_size]; exact itoa_fit_len HL4.out HU4.out
    have hZ5 : D5.size ≤ 21 := by rw [← hD5, bs_size]; exact itoa_fit_len HL5.out HU5.out
    have HD0 := Lib.hid hD0
    have HD1 := Lib.hid hD1
    have HD2 := Lib.hid hD2
    have HD3 := Lib.hid hD3
    have HD4 := Lib.hid hD4
    have HD5 := Lib.hid hD5
    have H1 := Lib.hid h1
    clear h1 ho hD0 hD1 hD2 hD3 hD4 hD5
    obtain ⟨T1, hT1⟩ : ∃ T1 : ByteArray, D0 ++ ⟨#[47]⟩ = T1 := ⟨_, rfl⟩
    have sT1 : T1.size = D0.size + 1 := by rw [← hT1, ByteArray.size_append]; first | done | rfl
    have zT1 : ¬ (9223372036854775807 < D0.size + 1) := by omega
    obtain ⟨T2, hT2⟩ : ∃ T2 : ByteArray, T1 ++ D1 = T2 := ⟨_, rfl⟩
    have sT2 : T2.size = T1.size + D1.size := by rw [← hT2, ByteArray.size_append]; first | done | rfl
    have zT2 : ¬ (9223372036854775807 < T1.size + D1.size) := by omega
    obtain ⟨T3, hT3⟩ : ∃ T3 : ByteArray, T2 ++ ⟨#[47]⟩ = T3 := ⟨_, rfl⟩
    have sT3 : T3.size = T2.size + 1 := by rw [← hT3, ByteArray.size_append]; first | done | rfl
    have zT3 : ¬ (9223372036854775807 < T2.size + 1) := by omega
    obtain ⟨T4, hT4⟩ : ∃ T4 : ByteArray, T3 ++ D2 = T4 := ⟨_, rfl⟩
    have sT4 : T4.size = T3.size + D2.size := by rw [← hT4, ByteArray.size_append]; first | done | rfl
    have zT4 : ¬ (9223372036854775807 < T3.size + D2.size) := by omega
    obtain ⟨T5, hT5⟩ : ∃ T5 : ByteArray, T4 ++ ⟨#[47]⟩ = T5 := ⟨_, rfl⟩
    have sT5 : T5.size = T4.size + 1 := by rw [← hT5, ByteArray.size_append]; first | done | rfl
    have zT5 : ¬ (9223372036854775807 < T4.size + 1) := by omega
    obtain ⟨T6, hT6⟩ : ∃ T6 : ByteArray, T5 ++ D3 = T6 := ⟨_, rfl⟩
    have sT6 : T6.size = T5.size + D3.size := by rw [← hT6, ByteArray.size_append]; first | done | rfl
    have zT6 : ¬ (9223372036854775807 < T5.size + D3.size) := by omega
    obtain ⟨T7, hT7⟩ : ∃ T7 : ByteArray, T6 ++ ⟨#[47]⟩ = T7 := ⟨_, rfl⟩
    have sT7 : T7.size = T6.size + 1 := by rw [← hT7, ByteArray.size_append]; first | done | rfl
    have zT7 : ¬ (9223372036854775807 < T6.size + 1) := by omega
    obtain ⟨T8, hT8⟩ : ∃ T8 : ByteArray, T7 ++ D4 = T8 := ⟨_, rfl⟩
    have sT8 : T8.size = T7.size + D4.size := by rw [← hT8, ByteArray.size_append]; first | done | rfl
    have zT8 : ¬ (9223372036854775807 < T7.size + D4.size) := by omega
    obtain ⟨T9, hT9⟩ : ∃ T9 : ByteArray, T8 ++ ⟨#[47]⟩ = T9 := ⟨_, rfl⟩
    have sT9 : T9.size = T8.size + 1 := by rw [← hT9, ByteArray.size_append]; first | done | rfl
    have zT9 : ¬ (9223372036854775807 < T8.size + 1) := by omega
    obtain ⟨T10, hT10⟩ : ∃ T10 : ByteArray, T9 ++ D5 = T10 := ⟨_, rfl⟩
    have sT10 : T10.size = T9.size + D5.size := by rw [← hT10, ByteArray.size_append]; first | done | rfl
    have zT10 : ¬ (9223372036854775807 < T9.size + D5.size) := by omega
    have HE : Hid (T10 = s) := by
      show _ = _
      rw [← HV.out]
      apply str_eq
      rw [← hT10, data_append, ← hT9, data_append, ← hT8, data_append, ← hT7, data_append, ← hT6, data_append, ← hT5, data_append, ← hT4, data_append, ← hT3, data_append, ← hT2, data_append, ← hT1, data_append, ← HD0.out, ← HD1.out, ← HD2.out, ← HD3.out, ← HD4.out, ← HD5.out]
      show _ = textS _
      unfold textS
      rw [if_pos H1.out]
      unfold partsS
      simp only [join_cons2, Lib.join_one]
      simp [bs]
    clear sT1 sT2 sT3 sT4 sT5 sT6 sT7 sT8 sT9 sT10 hZ0 hZ1 hZ2 hZ3 hZ4 hZ5
    go_enter Tryd.func12, Tryd.ntmps12
    go_wp2_with fail
    rw [show w.alloc (.cells #[.int .i64 x0, .int .i64 x1, .int .i64 x2, .int .i64 x3, .int .i64 x4, .int .i64 x5] 23) = w0 from HW.out]
    go_wp2_with fail
    refine (CV.out w0).mono ?_
    rintro e w1 ⟨rfl, hb⟩
    have HB1 := Lib.hid (HB0.out.keep hb)
    clear hb d0 d1 d2 d3 d4 d5
    have C0 := Lib.hid (fun d os => Calls.regrown_of (rop_below x0 D0 HD0.out (Sort.grow (redrawn w1 d) os)))
    have C1 := Lib.hid (fun d os => Calls.regrown_of (rcl_below x1 D1 HD1.out (Sort.grow (redrawn w1 d) os)))
    have C2 := Lib.hid (fun d os => Calls.regrown_of (rdigits_say x2 D2 HD2.out HL2.out HU2.out (Sort.grow (redrawn w1 d) os)))
    have C3 := Lib.hid (fun d os => Calls.regrown_of (rdigits_say x3 D3 HD3.out HL3.out HU3.out (Sort.grow (redrawn w1 d) os)))
    have C4 := Lib.hid (fun d os => Calls.regrown_of (rdigits_say x4 D4 HD4.out HL4.out HU4.out (Sort.grow (redrawn w1 d) os)))
    have C5 := Lib.hid (fun d os => Calls.regrown_of (rdigits_say x5 D5 HD5.out HL5.out HU5.out (Sort.grow (redrawn w1 d) os)))
    obtain ⟨e0, e1, e2, e3, e4, e5⟩ := cells6 HB1.out.box
    have r0 := fun d os => cell_regrown e0 d os
    have r1 := fun d os => cell_regrown e1 d os
    have r2 := fun d os => cell_regrown e2 d os
    have r3 := fun d os => cell_regrown e3 d os
    have r4 := fun d os => cell_regrown e4 d os
    have r5 := fun d os => cell_regrown e5 d os
    clear e0 e1 e2 e3 e4 e5
    go_wp2_with fail
    refine wp_region_qw (by kernel_rfl) (by kernel_rfl) ?_
    iterate 29 (refine qw_take (by kernel_rfl) (fun K hK => ?_); go_simp; first | (refine hK _ ?_; clear hK K) | (apply Exists.intro; refine ⟨fun _ => ?_, hK _ ?_⟩; (first | with_reducible exact C0.out _ _ | with_reducible exact C1.out _ _ | with_reducible exact C2.out _ _ | with_reducible exact C3.out _ _ | with_reducible exact C4.out _ _ | with_reducible exact C5.out _ _); clear hK K))
    refine qw_nil ?_
    intro _ hw'
    obtain ⟨⟨dq, osq⟩, hw''⟩ := hw'
    subst hw''
    have HBL := Lib.hid (HB1.out.keep (below_regrown w1 dq osq))
    clear r0 r1 r2 r3 r4 r5 C0 C1 C2 C3 C4 C5 HB1
    generalize Sort.grow (redrawn w1 dq) osq = wl at *
    go_wp2_with fail
    go_ret
    exact ⟨ret_str HE.out, HBL.out.bel⟩
end Go.Proofs.YtaffjecnpclliaaDoor.Step
