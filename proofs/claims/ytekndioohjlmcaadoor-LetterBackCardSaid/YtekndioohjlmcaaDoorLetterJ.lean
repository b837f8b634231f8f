/-
  The contract of the document's Text: any letter; what was there stays as it was.
-/
import Derived.Test.YtekndioohjlmcaaDoorLetterI
set_option linter.unusedVariables false
set_option linter.unusedSimpArgs false
set_option maxRecDepth 4000
namespace Go.Proofs.YtekndioohjlmcaaDoor.Letter
open Go.RowKit LeP
open Go.Proofs.YtekndioohjlmcaaDoor.Kt

theorem rdigits_say (n : Int) (s : ByteArray) (hs : bs (Lib.itoa n) = s) (h0 : 0 ≤ n) (h1 : n ≤ 1099511627776) (w : World) : Calls Tryd.prog 26 #[.int .i64 n] w fun e w' => e = .returned (.string s) ∧ Below w.heap.size w w' := by
  have h := Num.rdigits_any n w (by omega) (by omega)
  refine h.mono ?_
  rintro e w' ⟨rfl, hb⟩
  exact ⟨by rw [← hs]; rfl, hb⟩
theorem data_append (a b : ByteArray) : (a ++ b).data.toList = a.data.toList ++ b.data.toList := by
  simp [ByteArray.data_append]

set_option maxHeartbeats 8000000 in
theorem rtext_any (x0 x1 : Int) (x2 : Bool) (x3 x4 : Int) (w : World) :
    Calls Tryd.prog 12 #[.agg #[.int .i64 x0, .int .i64 x1, .bool x2, .int .i64 x3, .int .i64 x4]] w fun e w' => e = .returned (.string (bs (textL ⟨x0, x1, x2, x3, x4⟩))) ∧ Below w.heap.size w w' := by
  have hB0 := bx5_new 24 w (.int .i64 x0) (.int .i64 x1) (.bool x2) (.int .i64 x3) (.int .i64 x4)
  obtain ⟨w0, hw0⟩ : ∃ w0, w.alloc (.cells #[.int .i64 x0, .int .i64 x1, .bool x2, .int .i64 x3, .int .i64 x4] 24) = w0 := ⟨_, rfl⟩
  rw [hw0] at hB0
  have HW := Lib.hid hw0
  have HB0 := Lib.hid hB0
  obtain ⟨d0, d1, d2, d3, d4⟩ := cells5 hB0.box
  obtain ⟨s, hs⟩ : ∃ s, bs (textL ⟨x0, x1, x2, x3, x4⟩) = s := ⟨_, rfl⟩
  rw [hs]
  have HV := Lib.hid hs
  clear hw0 hB0 hs
  cases h1 : oneL ⟨x0, x1, x2, x3, x4⟩ with
  | false =>
    have CV := Lib.hid (rone_is x0 x1 x2 x3 x4 false h1)
    have HE : Hid ((⟨#[]⟩ : ByteArray) = s) := by show _ = _; rw [← HV.out]; unfold textL; rw [h1]; rfl
    clear h1
    go_enter Tryd.func12, Tryd.ntmps12
    go_wp2_with fail
    rw [show w.alloc (.cells #[.int .i64 x0, .int .i64 x1, .bool x2, .int .i64 x3, .int .i64 x4] 24) = w0 from HW.out]
    go_wp2_with fail
    refine (CV.out w0).mono ?_
    rintro e w1 ⟨rfl, hb⟩
    have HB1 := Lib.hid (HB0.out.keep hb)
    clear hb d0 d1 d2 d3 d4
    go_wp2_with fail
    go_ret
    exact ⟨ret_str HE.out, HB1.out.bel⟩
  | true =>
    have CV := Lib.hid (rone_is x0 x1 x2 x3 x4 true h1)
    have ho := oneL_iff.1 h1
    have s0 : 0 ≤ x0 := by have := ho.saga0; simp only at this; omega
    have HS0 := Lib.hid s0
    have HS1 : Hid (x0 ≤ 1099511627776) := ho.saga1
    have HP0 : Hid (0 ≤ x1) := ho.step0
    have p1 : x1 ≤ 1099511627776 := by have := ho.step1; simp only at this; omega
    have HP1 := Lib.hid p1
    have HA0 : Hid (0 ≤ x4) := ho.at0
    have HA1 : Hid (x4 ≤ 1099511627776) := ho.at1
    have hwhy : x3 = 7 ∨ x3 = 8 := ho.why
    obtain ⟨D0, hD0⟩ : ∃ D0, bs (Lib.itoa x0) = D0 := ⟨_, rfl⟩
    obtain ⟨D1, hD1⟩ : ∃ D1, bs (Lib.itoa x1) = D1 := ⟨_, rfl⟩
    obtain ⟨D4, hD4⟩ : ∃ D4, bs (Lib.itoa x4) = D4 := ⟨_, rfl⟩
    have hZ0 : D0.size ≤ 21 := by rw [← hD0]; exact itoa_len HS0.out HS1.out
    have hZ1 : D1.size ≤ 21 := by rw [← hD1]; exact itoa_len HP0.out HP1.out
    have hZ4 : D4.size ≤ 21 := by rw [← hD4]; exact itoa_len HA0.out HA1.out
    have HD0 := Lib.hid hD0; have HD1 := Lib.hid hD1; have HD4 := Lib.hid hD4
    have H1 := Lib.hid h1
    clear h1 ho s0 p1 hD0 hD1 hD4
    rcases hwhy with rfl | rfl
    · cases x2 with
      | true =>
        obtain ⟨T1, hT1⟩ : ∃ T1 : ByteArray, (⟨#[115, 97, 103, 97, 32]⟩ : ByteArray) ++ D0 = T1 := ⟨_, rfl⟩
        have sT1 : T1.size = 5 + D0.size := by rw [← hT1, ByteArray.size_append]; first | done | rfl
        have zT1 : ¬ (9223372036854775807 < 5 + D0.size) := by omega
        obtain ⟨T2, hT2⟩ : ∃ T2 : ByteArray, T1 ++ ⟨#[32, 115, 116, 101, 112, 32]⟩ = T2 := ⟨_, rfl⟩
        have sT2 : T2.size = T1.size + 6 := by rw [← hT2, ByteArray.size_append]; first | done | rfl
        have zT2 : ¬ (9223372036854775807 < T1.size + 6) := by omega
        obtain ⟨T3, hT3⟩ : ∃ T3 : ByteArray, T2 ++ D1 = T3 := ⟨_, rfl⟩
        have sT3 : T3.size = T2.size + D1.size := by rw [← hT3, ByteArray.size_append]; first | done | rfl
        have zT3 : ¬ (9223372036854775807 < T2.size + D1.size) := by omega
        obtain ⟨T4, hT4⟩ : ∃ T4 : ByteArray, T3 ++ ⟨#[32, 98, 97, 99, 107]⟩ = T4 := ⟨_, rfl⟩
        have sT4 : T4.size = T3.size + 5 := by rw [← hT4, ByteArray.size_append]; first | done | rfl
        have zT4 : ¬ (9223372036854775807 < T3.size + 5) := by omega
        obtain ⟨T5, hT5⟩ : ∃ T5 : ByteArray, T4 ++ ⟨#[32, 116, 114, 105, 101, 115]⟩ = T5 := ⟨_, rfl⟩
        have sT5 : T5.size = T4.size + 6 := by rw [← hT5, ByteArray.size_append]; first | done | rfl
        have zT5 : ¬ (9223372036854775807 < T4.size + 6) := by omega
        obtain ⟨T6, hT6⟩ : ∃ T6 : ByteArray, T5 ++ ⟨#[32, 97, 116, 32]⟩ = T6 := ⟨_, rfl⟩
        have sT6 : T6.size = T5.size + 4 := by rw [← hT6, ByteArray.size_append]; first | done | rfl
        have zT6 : ¬ (9223372036854775807 < T5.size + 4) := by omega
        obtain ⟨T7, hT7⟩ : ∃ T7 : ByteArray, T6 ++ D4 = T7 := ⟨_, rfl⟩
        have sT7 : T7.size = T6.size + D4.size := by rw [← hT7, ByteArray.size_append]; first | done | rfl
        have zT7 : ¬ (9223372036854775807 < T6.size + D4.size) := by omega
        have HE : Hid (T7 = s) := by
          show _ = _
          rw [← HV.out]
          apply str_eq
          rw [← hT7, data_append, ← hT6, data_append, ← hT5, data_append, ← hT4, data_append, ← hT3, data_append, ← hT2, data_append, ← hT1, data_append, ← HD0.out, ← HD1.out, ← HD4.out]
          show _ = textL _
          unfold textL
          rw [if_pos H1.out, join_words]
          simp [tailL, whyL, bs, wSaga, wStep, wBack, wTries, wParked, wAt]
        clear sT1 sT2 sT3 sT4 sT5 sT6 sT7 hZ0 hZ1 hZ4
        go_enter Tryd.func12, Tryd.ntmps12
        go_wp2_with fail
        rw [show w.alloc (.cells #[.int .i64 x0, .int .i64 x1, .bool true, .int .i64 7, .int .i64 x4] 24) = w0 from HW.out]
        go_wp2_with fail
        refine (CV.out w0).mono ?_
        rintro e w1 ⟨rfl, hb⟩
        have HB1 := Lib.hid (HB0.out.keep hb)
        clear hb d0 d1 d2 d3 d4
        have C0 := Lib.hid (fun d os => Calls.regrown_of (rdigits_say x0 D0 HD0.out HS0.out HS1.out (Sort.grow (redrawn w1 d) os)))
        have C1 := Lib.hid (fun d os => Calls.regrown_of (rdigits_say x1 D1 HD1.out HP0.out HP1.out (Sort.grow (redrawn w1 d) os)))
        obtain ⟨e0, e1, e2, e3, e4⟩ := cells5 HB1.out.box
        have r0 := fun d os => cell_regrown e0 d os
        have r1 := fun d os => cell_regrown e1 d os
        clear e0 e1 e2 e3 e4
        go_wp2_with fail
        refine wp_region_qw (by kernel_rfl) (by kernel_rfl) ?_
        iterate 10 (refine qw_take (by kernel_rfl) (fun K hK => ?_); go_simp; first | (refine hK _ ?_; clear hK K) | (apply Exists.intro; refine ⟨fun _ => ?_, hK _ ?_⟩; (first | with_reducible exact C0.out _ _ | with_reducible exact C1.out _ _); clear hK K))
        refine qw_nil ?_
        intro _ hw'
        obtain ⟨⟨dq, osq⟩, hw''⟩ := hw'
        subst hw''
        have HBL := Lib.hid (HB1.out.keep (below_regrown w1 dq osq))
        clear r0 r1 C0 C1 HB1
        generalize Sort.grow (redrawn w1 dq) osq = wl at *
        obtain ⟨e0, e1, e2, e3, e4⟩ := cells5 HBL.out.box
        have C4 := Lib.hid (rdigits_say x4 D4 HD4.out HA0.out HA1.out wl)
        go_wp2_with fail
        refine C4.out.mono ?_
        rintro e w9 ⟨rfl, hb⟩
        have HBE := Lib.hid (HBL.out.keep hb)
        clear hb
        go_wp2_with fail
        go_ret
        exact ⟨ret_str HE.out, HBE.out.bel⟩
      | false =>
        obtain ⟨T1, hT1⟩ : ∃ T1 : ByteArray, (⟨#[115, 97, 103, 97, 32]⟩ : ByteArray) ++ D0 = T1 := ⟨_, rfl⟩
        have sT1 : T1.size = 5 + D0.size := by rw [← hT1, ByteArray.size_append]; first | done | rfl
        have zT1 : ¬ (9223372036854775807 < 5 + D0.size) := by omega
        obtain ⟨T2, hT2⟩ : ∃ T2 : ByteArray, T1 ++ ⟨#[32, 115, 116, 101, 112, 32]⟩ = T2 := ⟨_, rfl⟩
        have sT2 : T2.size = T1.size + 6 := by rw [← hT2, ByteArray.size_append]; first | done | rfl
        have zT2 : ¬ (9223372036854775807 < T1.size + 6) := by omega
        obtain ⟨T3, hT3⟩ : ∃ T3 : ByteArray, T2 ++ D1 = T3 := ⟨_, rfl⟩
        have sT3 : T3.size = T2.size + D1.size := by rw [← hT3, ByteArray.size_append]; first | done | rfl
        have zT3 : ¬ (9223372036854775807 < T2.size + D1.size) := by omega
        obtain ⟨T5, hT5⟩ : ∃ T5 : ByteArray, T3 ++ ⟨#[32, 116, 114, 105, 101, 115]⟩ = T5 := ⟨_, rfl⟩
        have sT5 : T5.size = T3.size + 6 := by rw [← hT5, ByteArray.size_append]; first | done | rfl
        have zT5 : ¬ (9223372036854775807 < T3.size + 6) := by omega
        obtain ⟨T6, hT6⟩ : ∃ T6 : ByteArray, T5 ++ ⟨#[32, 97, 116, 32]⟩ = T6 := ⟨_, rfl⟩
        have sT6 : T6.size = T5.size + 4 := by rw [← hT6, ByteArray.size_append]; first | done | rfl
        have zT6 : ¬ (9223372036854775807 < T5.size + 4) := by omega
        obtain ⟨T7, hT7⟩ : ∃ T7 : ByteArray, T6 ++ D4 = T7 := ⟨_, rfl⟩
        have sT7 : T7.size = T6.size + D4.size := by rw [← hT7, ByteArray.size_append]; first | done | rfl
        have zT7 : ¬ (9223372036854775807 < T6.size + D4.size) := by omega
        have HE : Hid (T7 = s) := by
          show _ = _
          rw [← HV.out]
          apply str_eq
          rw [← hT7, data_append, ← hT6, data_append, ← hT5, data_append, ← hT3, data_append, ← hT2, data_append, ← hT1, data_append, ← HD0.out, ← HD1.out, ← HD4.out]
          show _ = textL _
          unfold textL
          rw [if_pos H1.out, join_words]
          simp [tailL, whyL, bs, wSaga, wStep, wBack, wTries, wParked, wAt]
        clear sT1 sT2 sT3 sT5 sT6 sT7 hZ0 hZ1 hZ4
        go_enter Tryd.func12, Tryd.ntmps12
        go_wp2_with fail
        rw [show w.alloc (.cells #[.int .i64 x0, .int .i64 x1, .bool false, .int .i64 7, .int .i64 x4] 24) = w0 from HW.out]
        go_wp2_with fail
        refine (CV.out w0).mono ?_
        rintro e w1 ⟨rfl, hb⟩
        have HB1 := Lib.hid (HB0.out.keep hb)
        clear hb d0 d1 d2 d3 d4
        have C0 := Lib.hid (fun d os => Calls.regrown_of (rdigits_say x0 D0 HD0.out HS0.out HS1.out (Sort.grow (redrawn w1 d) os)))
        have C1 := Lib.hid (fun d os => Calls.regrown_of (rdigits_say x1 D1 HD1.out HP0.out HP1.out (Sort.grow (redrawn w1 d) os)))
        obtain ⟨e0, e1, e2, e3, e4⟩ := cells5 HB1.out.box
        have r0 := fun d os => cell_regrown e0 d os
        have r1 := fun d os => cell_regrown e1 d os
        clear e0 e1 e2 e3 e4
        go_wp2_with fail
        refine wp_region_qw (by kernel_rfl) (by kernel_rfl) ?_
        iterate 10 (refine qw_take (by kernel_rfl) (fun K hK => ?_); go_simp; first | (refine hK _ ?_; clear hK K) | (apply Exists.intro; refine ⟨fun _ => ?_, hK _ ?_⟩; (first | with_reducible exact C0.out _ _ | with_reducible exact C1.out _ _); clear hK K))
        refine qw_nil ?_
        intro _ hw'
        obtain ⟨⟨dq, osq⟩, hw''⟩ := hw'
        subst hw''
        have HBL := Lib.hid (HB1.out.keep (below_regrown w1 dq osq))
        clear r0 r1 C0 C1 HB1
        generalize Sort.grow (redrawn w1 dq) osq = wl at *
        obtain ⟨e0, e1, e2, e3, e4⟩ := cells5 HBL.out.box
        have C4 := Lib.hid (rdigits_say x4 D4 HD4.out HA0.out HA1.out wl)
        go_wp2_with fail
        refine C4.out.mono ?_
        rintro e w9 ⟨rfl, hb⟩
        have HBE := Lib.hid (HBL.out.keep hb)
        clear hb
        go_wp2_with fail
        go_ret
        exact ⟨ret_str HE.out, HBE.out.bel⟩
    · cases x2 with
      | true =>
        obtain ⟨T1, hT1⟩ : ∃ T1 : ByteArray, (⟨#[115, 97, 103, 97, 32]⟩ : ByteArray) ++ D0 = T1 := ⟨_, rfl⟩
        have sT1 : T1.size = 5 + D0.size := by rw [← hT1, ByteArray.size_append]; first | done | rfl
        have zT1 : ¬ (9223372036854775807 < 5 + D0.size) := by omega
        obtain ⟨T2, hT2⟩ : ∃ T2 : ByteArray, T1 ++ ⟨#[32, 115, 116, 101, 112, 32]⟩ = T2 := ⟨_, rfl⟩
        have sT2 : T2.size = T1.size + 6 := by rw [← hT2, ByteArray.size_append]; first | done | rfl
        have zT2 : ¬ (9223372036854775807 < T1.size + 6) := by omega
        obtain ⟨T3, hT3⟩ : ∃ T3 : ByteArray, T2 ++ D1 = T3 := ⟨_, rfl⟩
        have sT3 : T3.size = T2.size + D1.size := by rw [← hT3, ByteArray.size_append]; first | done | rfl
        have zT3 : ¬ (9223372036854775807 < T2.size + D1.size) := by omega
        obtain ⟨T4, hT4⟩ : ∃ T4 : ByteArray, T3 ++ ⟨#[32, 98, 97, 99, 107]⟩ = T4 := ⟨_, rfl⟩
        have sT4 : T4.size = T3.size + 5 := by rw [← hT4, ByteArray.size_append]; first | done | rfl
        have zT4 : ¬ (9223372036854775807 < T3.size + 5) := by omega
        obtain ⟨T5, hT5⟩ : ∃ T5 : ByteArray, T4 ++ ⟨#[32, 112, 97, 114, 107, 101, 100]⟩ = T5 := ⟨_, rfl⟩
        have sT5 : T5.size = T4.size + 7 := by rw [← hT5, ByteArray.size_append]; first | done | rfl
        have zT5 : ¬ (9223372036854775807 < T4.size + 7) := by omega
        obtain ⟨T6, hT6⟩ : ∃ T6 : ByteArray, T5 ++ ⟨#[32, 97, 116, 32]⟩ = T6 := ⟨_, rfl⟩
        have sT6 : T6.size = T5.size + 4 := by rw [← hT6, ByteArray.size_append]; first | done | rfl
        have zT6 : ¬ (9223372036854775807 < T5.size + 4) := by omega
        obtain ⟨T7, hT7⟩ : ∃ T7 : ByteArray, T6 ++ D4 = T7 := ⟨_, rfl⟩
        have sT7 : T7.size = T6.size + D4.size := by rw [← hT7, ByteArray.size_append]; first | done | rfl
        have zT7 : ¬ (9223372036854775807 < T6.size + D4.size) := by omega
        have HE : Hid (T7 = s) := by
          show _ = _
          rw [← HV.out]
          apply str_eq
          rw [← hT7, data_append, ← hT6, data_append, ← hT5, data_append, ← hT4, data_append, ← hT3, data_append, ← hT2, data_append, ← hT1, data_append, ← HD0.out, ← HD1.out, ← HD4.out]
          show _ = textL _
          unfold textL
          rw [if_pos H1.out, join_words]
          simp [tailL, whyL, bs, wSaga, wStep, wBack, wTries, wParked, wAt]
        clear sT1 sT2 sT3 sT4 sT5 sT6 sT7 hZ0 hZ1 hZ4
        go_enter Tryd.func12, Tryd.ntmps12
        go_wp2_with fail
        rw [show w.alloc (.cells #[.int .i64 x0, .int .i64 x1, .bool true, .int .i64 8, .int .i64 x4] 24) = w0 from HW.out]
        go_wp2_with fail
        refine (CV.out w0).mono ?_
        rintro e w1 ⟨rfl, hb⟩
        have HB1 := Lib.hid (HB0.out.keep hb)
        clear hb d0 d1 d2 d3 d4
        have C0 := Lib.hid (fun d os => Calls.regrown_of (rdigits_say x0 D0 HD0.out HS0.out HS1.out (Sort.grow (redrawn w1 d) os)))
        have C1 := Lib.hid (fun d os => Calls.regrown_of (rdigits_say x1 D1 HD1.out HP0.out HP1.out (Sort.grow (redrawn w1 d) os)))
        obtain ⟨e0, e1, e2, e3, e4⟩ := cells5 HB1.out.box
        have r0 := fun d os => cell_regrown e0 d os
        have r1 := fun d os => cell_regrown e1 d os
        clear e0 e1 e2 e3 e4
        go_wp2_with fail
        refine wp_region_qw (by kernel_rfl) (by kernel_rfl) ?_
        iterate 10 (refine qw_take (by kernel_rfl) (fun K hK => ?_); go_simp; first | (refine hK _ ?_; clear hK K) | (apply Exists.intro; refine ⟨fun _ => ?_, hK _ ?_⟩; (first | with_reducible exact C0.out _ _ | with_reducible exact C1.out _ _); clear hK K))
        refine qw_nil ?_
        intro _ hw'
        obtain ⟨⟨dq, osq⟩, hw''⟩ := hw'
        subst hw''
        have HBL := Lib.hid (HB1.out.keep (below_regrown w1 dq osq))
        clear r0 r1 C0 C1 HB1
        generalize Sort.grow (redrawn w1 dq) osq = wl at *
        obtain ⟨e0, e1, e2, e3, e4⟩ := cells5 HBL.out.box
        have C4 := Lib.hid (rdigits_say x4 D4 HD4.out HA0.out HA1.out wl)
        go_wp2_with fail
        refine C4.out.mono ?_
        rintro e w9 ⟨rfl, hb⟩
        have HBE := Lib.hid (HBL.out.keep hb)
        clear hb
        go_wp2_with fail
        go_ret
        exact ⟨ret_str HE.out, HBE.out.bel⟩
      | false =>
        obtain ⟨T1, hT1⟩ : ∃ T1 : ByteArray, (⟨#[115, 97, 103, 97, 32]⟩ : ByteArray) ++ D0 = T1 := ⟨_, rfl⟩
        have sT1 : T1.size = 5 + D0.size := by rw [← hT1, ByteArray.size_append]; first | done | rfl
        have zT1 : ¬ (9223372036854775807 < 5 + D0.size) := by omega
        obtain ⟨T2, hT2⟩ : ∃ T2 : ByteArray, T1 ++ ⟨#[32, 115, 116, 101, 112, 32]⟩ = T2 := ⟨_, rfl⟩
        have sT2 : T2.size = T1.size + 6 := by rw [← hT2, ByteArray.size_append]; first | done | rfl
        have zT2 : ¬ (9223372036854775807 < T1.size + 6) := by omega
        obtain ⟨T3, hT3⟩ : ∃ T3 : ByteArray, T2 ++ D1 = T3 := ⟨_, rfl⟩
        have sT3 : T3.size = T2.size + D1.size := by rw [← hT3, ByteArray.size_append]; first | done | rfl
        have zT3 : ¬ (9223372036854775807 < T2.size + D1.size) := by omega
        obtain ⟨T5, hT5⟩ : ∃ T5 : ByteArray, T3 ++ ⟨#[32, 112, 97, 114, 107, 101, 100]⟩ = T5 := ⟨_, rfl⟩
        have sT5 : T5.size = T3.size + 7 := by rw [← hT5, ByteArray.size_append]; first | done | rfl
        have zT5 : ¬ (9223372036854775807 < T3.size + 7) := by omega
        obtain ⟨T6, hT6⟩ : ∃ T6 : ByteArray, T5 ++ ⟨#[32, 97, 116, 32]⟩ = T6 := ⟨_, rfl⟩
        have sT6 : T6.size = T5.size + 4 := by rw [← hT6, ByteArray.size_append]; first | done | rfl
        have zT6 : ¬ (9223372036854775807 < T5.size + 4) := by omega
        obtain ⟨T7, hT7⟩ : ∃ T7 : ByteArray, T6 ++ D4 = T7 := ⟨_, rfl⟩
        have sT7 : T7.size = T6.size + D4.size := by rw [← hT7, ByteArray.size_append]; first | done | rfl
        have zT7 : ¬ (9223372036854775807 < T6.size + D4.size) := by omega
        have HE : Hid (T7 = s) := by
          show _ = _
          rw [← HV.out]
          apply str_eq
          rw [← hT7, data_append, ← hT6, data_append, ← hT5, data_append, ← hT3, data_append, ← hT2, data_append, ← hT1, data_append, ← HD0.out, ← HD1.out, ← HD4.out]
          show _ = textL _
          unfold textL
          rw [if_pos H1.out, join_words]
          simp [tailL, whyL, bs, wSaga, wStep, wBack, wTries, wParked, wAt]
        clear sT1 sT2 sT3 sT5 sT6 sT7 hZ0 hZ1 hZ4
        go_enter Tryd.func12, Tryd.ntmps12
        go_wp2_with fail
        rw [show w.alloc (.cells #[.int .i64 x0, .int .i64 x1, .bool false, .int .i64 8, .int .i64 x4] 24) = w0 from HW.out]
        go_wp2_with fail
        refine (CV.out w0).mono ?_
        rintro e w1 ⟨rfl, hb⟩
        have HB1 := Lib.hid (HB0.out.keep hb)
        clear hb d0 d1 d2 d3 d4
        have C0 := Lib.hid (fun d os => Calls.regrown_of (rdigits_say x0 D0 HD0.out HS0.out HS1.out (Sort.grow (redrawn w1 d) os)))
        have C1 := Lib.hid (fun d os => Calls.regrown_of (rdigits_say x1 D1 HD1.out HP0.out HP1.out (Sort.grow (redrawn w1 d) os)))
        obtain ⟨e0, e1, e2, e3, e4⟩ := cells5 HB1.out.box
        have r0 := fun d os => cell_regrown e0 d os
        have r1 := fun d os => cell_regrown e1 d os
        clear e0 e1 e2 e3 e4
        go_wp2_with fail
        refine wp_region_qw (by kernel_rfl) (by kernel_rfl) ?_
        iterate 10 (refine qw_take (by kernel_rfl) (fun K hK => ?_); go_simp; first | (refine hK _ ?_; clear hK K) | (apply Exists.intro; refine ⟨fun _ => ?_, hK _ ?_⟩; (first | with_reducible exact C0.out _ _ | with_reducible exact C1.out _ _); clear hK K))
        refine qw_nil ?_
        intro _ hw'
        obtain ⟨⟨dq, osq⟩, hw''⟩ := hw'
        subst hw''
        have HBL := Lib.hid (HB1.out.keep (below_regrown w1 dq osq))
        clear r0 r1 C0 C1 HB1
        generalize Sort.grow (redrawn w1 dq) osq = wl at *
        obtain ⟨e0, e1, e2, e3, e4⟩ := cells5 HBL.out.box
        have C4 := Lib.hid (rdigits_say x4 D4 HD4.out HA0.out HA1.out wl)
        go_wp2_with fail
        refine C4.out.mono ?_
        rintro e w9 ⟨rfl, hb⟩
        have HBE := Lib.hid (HBL.out.keep hb)
        clear hb
        go_wp2_with fail
        go_ret
        exact ⟨ret_str HE.out, HBE.out.bel⟩
end Go.Proofs.YtekndioohjlmcaaDoor.Letter
