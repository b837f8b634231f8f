/-
  The contracts of both Texts: any key, the program's where the table of the powers of ten stands; what was there stays as it was.
-/
import Derived.Test.YtcdinaoenhonbaaDoorKeyA
import Derived.Test.YtcdinaoenhonbaaDoorNumH
import Derived.Lib.ItoaLen
set_option linter.unusedVariables false
set_option linter.unusedSimpArgs false
set_option maxRecDepth 4000
namespace Go.Proofs.YtcdinaoenhonbaaDoor.Key
open Go.RowKit KeyP
open Go.Proofs.YtcdinaoenhonbaaDoor.Kt

theorem digits_say (n : Int) (s : ByteArray) (hs : bs (Lib.itoa n) = s) (h0 : 0 ≤ n) (h1 : n ≤ 1099511627776) (w : World) (hv : Num.Tab w) : Calls Tryd.prog 23 #[.int .i64 n] w fun e w' => e = .returned (.string s) ∧ Below w.heap.size w w' :=
  Num.digits_is n s w (by omega) (by omega) hv (by rw [← hs, data_bs])
theorem rdigits_say (n : Int) (s : ByteArray) (hs : bs (Lib.itoa n) = s) (h0 : 0 ≤ n) (h1 : n ≤ 1099511627776) (w : World) : Calls Tryd.prog 24 #[.int .i64 n] w fun e w' => e = .returned (.string s) ∧ Below w.heap.size w w' := by
  have h := Num.rdigits_any n w (by omega) (by omega)
  refine h.mono ?_
  rintro e w' ⟨rfl, hb⟩
  exact ⟨by rw [← hs]; rfl, hb⟩

set_option maxHeartbeats 4000000 in
theorem text_any (x0 x1 : Int) (x2 : Bool) (w : World) (hv : Num.Tab w) : Calls Tryd.prog 12 #[kv x0 x1 x2] w fun e w' => e = .returned (.string (bs (textK ⟨x0, x1, x2⟩))) ∧ Below w.heap.size w w' := by
  have hB0 := bx3_new 25 w (.int .i64 x0) (.int .i64 x1) (.bool x2)
  obtain ⟨w0, hw0⟩ : ∃ w0, w.alloc (.cells #[.int .i64 x0, .int .i64 x1, .bool x2] 25) = w0 := ⟨_, rfl⟩
  rw [hw0] at hB0
  have HW := Lib.hid hw0
  have HB0 := Lib.hid hB0
  have HT := Lib.hid (fun W (hb : Below w.heap.size w W) => hv.keep hb)
  clear hv
  obtain ⟨d0, d1, d2⟩ := cells3 hB0.box
  obtain ⟨s, hs⟩ : ∃ s, bs (textK ⟨x0, x1, x2⟩) = s := ⟨_, rfl⟩
  rw [hs]
  have HV := Lib.hid hs
  clear hw0 hB0 hs
  cases h1 : fitK ⟨x0, x1, x2⟩ with
  | false =>
    have CV := Lib.hid (fit_is x0 x1 x2 false h1)
    have HE : Hid ((⟨#[]⟩ : ByteArray) = s) := by show _ = _; rw [← HV.out, text_no h1]; rfl
    clear h1
    go_enter Tryd.func12, Tryd.ntmps12
    go_wp2_with fail
    rw [show w.alloc (.cells #[.int .i64 x0, .int .i64 x1, .bool x2] 25) = w0 from HW.out]
    go_wp2_with fail
    refine (CV.out w0).mono ?_
    rintro e w1 ⟨rfl, hb⟩
    have HB1 := Lib.hid (HB0.out.keep hb)
    clear hb d0 d1 d2
    go_wp2_with fail
    go_ret
    exact ⟨ret_str HE.out, HB1.out.bel⟩
  | true =>
    have CV := Lib.hid (fit_is x0 x1 x2 true h1)
    have ho := fitK_iff.1 h1
    have HL0 : Hid (0 ≤ x0) := by show _ ≤ _; have := ho.saga0; simp only at this; omega
    have HU0 : Hid (x0 ≤ 1099511627776) := ho.saga1
    have HL1 : Hid (0 ≤ x1) := ho.step0
    have HU1 : Hid (x1 ≤ 1099511627776) := by show _ ≤ _; have := ho.step1; simp only at this; omega
    obtain ⟨D0, hD0⟩ : ∃ D0, bs (Lib.itoa x0) = D0 := ⟨_, rfl⟩
    obtain ⟨D1, hD1⟩ : ∃ D1, bs (Lib.itoa x1) = D1 := ⟨_, rfl⟩
    have hZ0 : D0.size ≤ 21 := by rw [← hD0, bs_size]; exact Lib.itoa_length_le x0 (by have := HL0.out; omega) (by have := HU0.out; omega)
    have hZ1 : D1.size ≤ 21 := by rw [← hD1, bs_size]; exact Lib.itoa_length_le x1 (by have := HL1.out; omega) (by have := HU1.out; omega)
    have HD0 := Lib.hid hD0
    have HD1 := Lib.hid hD1
    have H1 := Lib.hid h1
    clear h1 ho hD0 hD1
    cases x2 with
    | true =>
      obtain ⟨T1, hT1⟩ : ∃ T1 : ByteArray, D0 ++ ⟨#[46]⟩ = T1 := ⟨_, rfl⟩
      have sT1 : T1.size = D0.size + 1 := by rw [← hT1, ByteArray.size_append]; rfl
      have zT1 : ¬ (9223372036854775807 < D0.size + 1) := by omega
      obtain ⟨T2, hT2⟩ : ∃ T2 : ByteArray, T1 ++ D1 = T2 := ⟨_, rfl⟩
      have sT2 : T2.size = T1.size + D1.size := by rw [← hT2, ByteArray.size_append]
      have zT2 : ¬ (9223372036854775807 < T1.size + D1.size) := by omega
      obtain ⟨T3, hT3⟩ : ∃ T3 : ByteArray, T2 ++ ⟨#[45]⟩ = T3 := ⟨_, rfl⟩
      have zT3 : ¬ (9223372036854775807 < T2.size + 1) := by omega
      have HE : Hid (T3 = s) := by
        show _ = _
        rw [← HV.out]
        apply str_bs
        rw [← hT3, data_append, ← hT2, data_append, ← hT1, data_append, ← HD0.out, ← HD1.out, data_bs, data_bs, text_yes H1.out]
        simp [coreK, tailK]
      clear sT1 sT2 hZ0 hZ1
      go_enter Tryd.func12, Tryd.ntmps12
      go_wp2_with fail
      rw [show w.alloc (.cells #[.int .i64 x0, .int .i64 x1, .bool true] 25) = w0 from HW.out]
      go_wp2_with fail
      refine (CV.out w0).mono ?_
      rintro e w1 ⟨rfl, hb⟩
      have HB1 := Lib.hid (HB0.out.keep hb)
      clear hb d0 d1 d2
      have C0 := Lib.hid (fun d os => Calls.regrown_of (digits_say x0 D0 HD0.out HL0.out HU0.out (Sort.grow (redrawn w1 d) os) (HT.out (Sort.grow (redrawn w1 d) os) (below_keep HB1.out.bel (below_regrown w1 d os) HB1.out.bel.size))))
      have C1 := Lib.hid (fun d os => Calls.regrown_of (digits_say x1 D1 HD1.out HL1.out HU1.out (Sort.grow (redrawn w1 d) os) (HT.out (Sort.grow (redrawn w1 d) os) (below_keep HB1.out.bel (below_regrown w1 d os) HB1.out.bel.size))))
      obtain ⟨e0, e1, _⟩ := cells3 HB1.out.box
      have r0 := fun d os => cell_regrown e0 d os
      have r1 := fun d os => cell_regrown e1 d os
      clear e0 e1
      go_wp2_with fail
      refine wp_region_qw (by kernel_rfl) (by kernel_rfl) ?_
      iterate 9 (refine qw_take (by kernel_rfl) (fun K hK => ?_); go_simp; first | (refine hK _ ?_; clear hK K) | (apply Exists.intro; refine ⟨fun _ => ?_, hK _ ?_⟩; (first | with_reducible exact C0.out _ _ | with_reducible exact C1.out _ _); clear hK K))
      refine qw_nil ?_
      intro _ hw'
      obtain ⟨⟨dq, osq⟩, hw''⟩ := hw'
      subst hw''
      have HBL := Lib.hid (HB1.out.keep (below_regrown w1 dq osq))
      clear r0 r1 C0 C1 HB1
      generalize Sort.grow (redrawn w1 dq) osq = wl at *
      obtain ⟨_, _, k2⟩ := cells3 HBL.out.box
      go_wp2_with fail
      go_ret
      exact ⟨ret_str HE.out, HBL.out.bel⟩
    | false =>
      obtain ⟨T1, hT1⟩ : ∃ T1 : ByteArray, D0 ++ ⟨#[46]⟩ = T1 := ⟨_, rfl⟩
      have sT1 : T1.size = D0.size + 1 := by rw [← hT1, ByteArray.size_append]; rfl
      have zT1 : ¬ (9223372036854775807 < D0.size + 1) := by omega
      obtain ⟨T2, hT2⟩ : ∃ T2 : ByteArray, T1 ++ D1 = T2 := ⟨_, rfl⟩
      have sT2 : T2.size = T1.size + D1.size := by rw [← hT2, ByteArray.size_append]
      have zT2 : ¬ (9223372036854775807 < T1.size + D1.size) := by omega
      have HE : Hid (T2 = s) := by
        show _ = _
        rw [← HV.out]
        apply str_bs
        rw [← hT2, data_append, ← hT1, data_append, ← HD0.out, ← HD1.out, data_bs, data_bs, text_yes H1.out]
        simp [coreK, tailK]
      clear sT1 sT2 hZ0 hZ1
      go_enter Tryd.func12, Tryd.ntmps12
      go_wp2_with fail
      rw [show w.alloc (.cells #[.int .i64 x0, .int .i64 x1, .bool false] 25) = w0 from HW.out]
      go_wp2_with fail
      refine (CV.out w0).mono ?_
      rintro e w1 ⟨rfl, hb⟩
      have HB1 := Lib.hid (HB0.out.keep hb)
      clear hb d0 d1 d2
      have C0 := Lib.hid (fun d os => Calls.regrown_of (digits_say x0 D0 HD0.out HL0.out HU0.out (Sort.grow (redrawn w1 d) os) (HT.out (Sort.grow (redrawn w1 d) os) (below_keep HB1.out.bel (below_regrown w1 d os) HB1.out.bel.size))))
      have C1 := Lib.hid (fun d os => Calls.regrown_of (digits_say x1 D1 HD1.out HL1.out HU1.out (Sort.grow (redrawn w1 d) os) (HT.out (Sort.grow (redrawn w1 d) os) (below_keep HB1.out.bel (below_regrown w1 d os) HB1.out.bel.size))))
      obtain ⟨e0, e1, _⟩ := cells3 HB1.out.box
      have r0 := fun d os => cell_regrown e0 d os
      have r1 := fun d os => cell_regrown e1 d os
      clear e0 e1
      go_wp2_with fail
      refine wp_region_qw (by kernel_rfl) (by kernel_rfl) ?_
      iterate 9 (refine qw_take (by kernel_rfl) (fun K hK => ?_); go_simp; first | (refine hK _ ?_; clear hK K) | (apply Exists.intro; refine ⟨fun _ => ?_, hK _ ?_⟩; (first | with_reducible exact C0.out _ _ | with_reducible exact C1.out _ _); clear hK K))
      refine qw_nil ?_
      intro _ hw'
      obtain ⟨⟨dq, osq⟩, hw''⟩ := hw'
      subst hw''
      have HBL := Lib.hid (HB1.out.keep (below_regrown w1 dq osq))
      clear r0 r1 C0 C1 HB1
      generalize Sort.grow (redrawn w1 dq) osq = wl at *
      obtain ⟨_, _, k2⟩ := cells3 HBL.out.box
      go_wp2_with fail
      go_ret
      exact ⟨ret_str HE.out, HBL.out.bel⟩

set_option maxHeartbeats 4000000 in
theorem rtext_any (x0 x1 : Int) (x2 : Bool) (w : World) : Calls Tryd.prog 13 #[kv x0 x1 x2] w fun e w' => e = .returned (.string (bs (textK ⟨x0, x1, x2⟩))) ∧ Below w.heap.size w w' := by
  have hB0 := bx3_new 23 w (.int .i64 x0) (.int .i64 x1) (.bool x2)
  obtain ⟨w0, hw0⟩ : ∃ w0, w.alloc (.cells #[.int .i64 x0, .int .i64 x1, .bool x2] 23) = w0 := ⟨_, rfl⟩
  rw [hw0] at hB0
  have HW := Lib.hid hw0
  have HB0 := Lib.hid hB0
  obtain ⟨d0, d1, d2⟩ := cells3 hB0.box
  obtain ⟨s, hs⟩ : ∃ s, bs (textK ⟨x0, x1, x2⟩) = s := ⟨_, rfl⟩
  rw [hs]
  have HV := Lib.hid hs
  clear hw0 hB0 hs
  cases h1 : fitK ⟨x0, x1, x2⟩ with
  | false =>
    have CV := Lib.hid (rfit_is x0 x1 x2 false h1)
    have HE : Hid ((⟨#[]⟩ : ByteArray) = s) := by show _ = _; rw [← HV.out, text_no h1]; rfl
    clear h1
    go_enter Tryd.func13, Tryd.ntmps13
    go_wp2_with fail
    rw [show w.alloc (.cells #[.int .i64 x0, .int .i64 x1, .bool x2] 23) = w0 from HW.out]
    go_wp2_with fail
    refine (CV.out w0).mono ?_
    rintro e w1 ⟨rfl, hb⟩
    have HB1 := Lib.hid (HB0.out.keep hb)
    clear hb d0 d1 d2
    go_wp2_with fail
    go_ret
    exact ⟨ret_str HE.out, HB1.out.bel⟩
  | true =>
    have CV := Lib.hid (rfit_is x0 x1 x2 true h1)
    have ho := fitK_iff.1 h1
    have HL0 : Hid (0 ≤ x0) := by show _ ≤ _; have := ho.saga0; simp only at this; omega
    have HU0 : Hid (x0 ≤ 1099511627776) := ho.saga1
    have HL1 : Hid (0 ≤ x1) := ho.step0
    have HU1 : Hid (x1 ≤ 1099511627776) := by show _ ≤ _; have := ho.step1; simp only at this; omega
    obtain ⟨D0, hD0⟩ : ∃ D0, bs (Lib.itoa x0) = D0 := ⟨_, rfl⟩
    obtain ⟨D1, hD1⟩ : ∃ D1, bs (Lib.itoa x1) = D1 := ⟨_, rfl⟩
    have hZ0 : D0.size ≤ 21 := by rw [← hD0, bs_size]; exact Lib.itoa_length_le x0 (by have := HL0.out; omega) (by have := HU0.out; omega)
    have hZ1 : D1.size ≤ 21 := by rw [← hD1, bs_size]; exact Lib.itoa_length_le x1 (by have := HL1.out; omega) (by have := HU1.out; omega)
    have HD0 := Lib.hid hD0
    have HD1 := Lib.hid hD1
    have H1 := Lib.hid h1
    clear h1 ho hD0 hD1
    cases x2 with
    | true =>
      obtain ⟨T1, hT1⟩ : ∃ T1 : ByteArray, D0 ++ ⟨#[46]⟩ = T1 := ⟨_, rfl⟩
      have sT1 : T1.size = D0.size + 1 := by rw [← hT1, ByteArray.size_append]; rfl
      have zT1 : ¬ (9223372036854775807 < D0.size + 1) := by omega
      obtain ⟨T2, hT2⟩ : ∃ T2 : ByteArray, T1 ++ D1 = T2 := ⟨_, rfl⟩
      have sT2 : T2.size = T1.size + D1.size := by rw [← hT2, ByteArray.size_append]
      have zT2 : ¬ (9223372036854775807 < T1.size + D1.size) := by omega
      obtain ⟨T3, hT3⟩ : ∃ T3 : ByteArray, T2 ++ ⟨#[45]⟩ = T3 := ⟨_, rfl⟩
      have zT3 : ¬ (9223372036854775807 < T2.size + 1) := by omega
      have HE : Hid (T3 = s) := by
        show _ = _
        rw [← HV.out]
        apply str_bs
        rw [← hT3, data_append, ← hT2, data_append, ← hT1, data_append, ← HD0.out, ← HD1.out, data_bs, data_bs, text_yes H1.out]
        simp [coreK, tailK]
      clear sT1 sT2 hZ0 hZ1
      go_enter Tryd.func13, Tryd.ntmps13
      go_wp2_with fail
      rw [show w.alloc (.cells #[.int .i64 x0, .int .i64 x1, .bool true] 23) = w0 from HW.out]
      go_wp2_with fail
      refine (CV.out w0).mono ?_
      rintro e w1 ⟨rfl, hb⟩
      have HB1 := Lib.hid (HB0.out.keep hb)
      clear hb d0 d1 d2
      have C0 := Lib.hid (fun d os => Calls.regrown_of (rdigits_say x0 D0 HD0.out HL0.out HU0.out (Sort.grow (redrawn w1 d) os)))
      have C1 := Lib.hid (fun d os => Calls.regrown_of (rdigits_say x1 D1 HD1.out HL1.out HU1.out (Sort.grow (redrawn w1 d) os)))
      obtain ⟨e0, e1, _⟩ := cells3 HB1.out.box
      have r0 := fun d os => cell_regrown e0 d os
      have r1 := fun d os => cell_regrown e1 d os
      clear e0 e1
      go_wp2_with fail
      refine wp_region_qw (by kernel_rfl) (by kernel_rfl) ?_
      iterate 9 (refine qw_take (by kernel_rfl) (fun K hK => ?_); go_simp; first | (refine hK _ ?_; clear hK K) | (apply Exists.intro; refine ⟨fun _ => ?_, hK _ ?_⟩; (first | with_reducible exact C0.out _ _ | with_reducible exact C1.out _ _); clear hK K))
      refine qw_nil ?_
      intro _ hw'
      obtain ⟨⟨dq, osq⟩, hw''⟩ := hw'
      subst hw''
      have HBL := Lib.hid (HB1.out.keep (below_regrown w1 dq osq))
      clear r0 r1 C0 C1 HB1
      generalize Sort.grow (redrawn w1 dq) osq = wl at *
      obtain ⟨_, _, k2⟩ := cells3 HBL.out.box
      go_wp2_with fail
      go_ret
      exact ⟨ret_str HE.out, HBL.out.bel⟩
    | false =>
      obtain ⟨T1, hT1⟩ : ∃ T1 : ByteArray, D0 ++ ⟨#[46]⟩ = T1 := ⟨_, rfl⟩
      have sT1 : T1.size = D0.size + 1 := by rw [← hT1, ByteArray.size_append]; rfl
      have zT1 : ¬ (9223372036854775807 < D0.size + 1) := by omega
      obtain ⟨T2, hT2⟩ : ∃ T2 : ByteArray, T1 ++ D1 = T2 := ⟨_, rfl⟩
      have sT2 : T2.size = T1.size + D1.size := by rw [← hT2, ByteArray.size_append]
      have zT2 : ¬ (9223372036854775807 < T1.size + D1.size) := by omega
      have HE : Hid (T2 = s) := by
        show _ = _
        rw [← HV.out]
        apply str_bs
        rw [← hT2, data_append, ← hT1, data_append, ← HD0.out, ← HD1.out, data_bs, data_bs, text_yes H1.out]
        simp [coreK, tailK]
      clear sT1 sT2 hZ0 hZ1
      go_enter Tryd.func13, Tryd.ntmps13
      go_wp2_with fail
      rw [show w.alloc (.cells #[.int .i64 x0, .int .i64 x1, .bool false] 23) = w0 from HW.out]
      go_wp2_with fail
      refine (CV.out w0).mono ?_
      rintro e w1 ⟨rfl, hb⟩
      have HB1 := Lib.hid (HB0.out.keep hb)
      clear hb d0 d1 d2
      have C0 := Lib.hid (fun d os => Calls.regrown_of (rdigits_say x0 D0 HD0.out HL0.out HU0.out (Sort.grow (redrawn w1 d) os)))
      have C1 := Lib.hid (fun d os => Calls.regrown_of (rdigits_say x1 D1 HD1.out HL1.out HU1.out (Sort.grow (redrawn w1 d) os)))
      obtain ⟨e0, e1, _⟩ := cells3 HB1.out.box
      have r0 := fun d os => cell_regrown e0 d os
      have r1 := fun d os => cell_regrown e1 d os
      clear e0 e1
      go_wp2_with fail
      refine wp_region_qw (by kernel_rfl) (by kernel_rfl) ?_
      iterate 9 (refine qw_take (by kernel_rfl) (fun K hK => ?_); go_simp; first | (refine hK _ ?_; clear hK K) | (apply Exists.intro; refine ⟨fun _ => ?_, hK _ ?_⟩; (first | with_reducible exact C0.out _ _ | with_reducible exact C1.out _ _); clear hK K))
      refine qw_nil ?_
      intro _ hw'
      obtain ⟨⟨dq, osq⟩, hw''⟩ := hw'
      subst hw''
      have HBL := Lib.hid (HB1.out.keep (below_regrown w1 dq osq))
      clear r0 r1 C0 C1 HB1
      generalize Sort.grow (redrawn w1 dq) osq = wl at *
      obtain ⟨_, _, k2⟩ := cells3 HBL.out.box
      go_wp2_with fail
      go_ret
      exact ⟨ret_str HE.out, HBL.out.bel⟩

theorem text_is (x0 x1 : Int) (x2 : Bool) (t : ByteArray) (ht : bs (textK ⟨x0, x1, x2⟩) = t) (w : World) (hv : Num.Tab w) : Calls Tryd.prog 12 #[kv x0 x1 x2] w fun e w' => e = .returned (.string t) ∧ Below w.heap.size w w' := by
  rw [← ht]; exact text_any x0 x1 x2 w hv
theorem rtext_is (x0 x1 : Int) (x2 : Bool) (t : ByteArray) (ht : bs (textK ⟨x0, x1, x2⟩) = t) (w : World) : Calls Tryd.prog 13 #[kv x0 x1 x2] w fun e w' => e = .returned (.string t) ∧ Below w.heap.size w w' := by
  rw [← ht]; exact rtext_any x0 x1 x2 w
end Go.Proofs.YtcdinaoenhonbaaDoor.Key
