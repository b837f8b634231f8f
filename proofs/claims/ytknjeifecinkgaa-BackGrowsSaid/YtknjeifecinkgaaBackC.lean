/-
  The laws BackTells and BackGrows, walked: any numbers; nothing is touched.
-/
import Derived.Test.YtknjeifecinkgaaBackB
import Derived.OpenShut
set_option linter.unusedVariables false
namespace Go.Proofs.Ytknjeifecinkgaa
open Go.RowKit BackP

theorem backTells_walk (t b c k : Int) (w : World) (hk : k ≤ 9223372036854775807) : Calls Try.prog 3 #[.int .i64 t, .int .i64 b, .int .i64 c, .int .i64 k] w fun e w' => e = .returned (.bool true) ∧ w = w' := by
  have h1 := fit_any t b c
  have h2 := rfit_any t b c
  have h3 := fun w => delay_any b c k w hk
  have h4 := fun w => rdelay_any b c k w hk
  have h5 := whole_any t b c
  have h6 := rwhole_any t b c
  have h7 := last_any t k
  have h8 := rlast_any t k
  generalize fitV t b c = v1 at *
  generalize delayV b c k = v2 at *
  generalize wholeV t b c = v3 at *
  generalize lastV t k = v4 at *
  have H1 := Lib.hid h1; have H2 := Lib.hid h2; have H3 := Lib.hid h3; have H4 := Lib.hid h4; have H5 := Lib.hid h5; have H6 := Lib.hid h6; have H7 := Lib.hid h7; have H8 := Lib.hid h8
  clear h1 h2 h3 h4 h5 h6 h7 h8
  go_enter Try.func3, Try.ntmps3
  go_wp2_with fail
  refine (H1.out _).mono ?_
  rintro e w' ⟨rfl, rfl⟩
  go_wp2_with fail
  refine (H2.out _).mono ?_
  rintro e w' ⟨rfl, rfl⟩
  go_wp2_with fail
  refine (H3.out _).mono ?_
  rintro e w' ⟨rfl, rfl⟩
  go_wp2_with fail
  refine (H4.out _).mono ?_
  rintro e w' ⟨rfl, rfl⟩
  go_wp2_with fail
  refine (H5.out _).mono ?_
  rintro e w' ⟨rfl, rfl⟩
  go_wp2_with fail
  refine (H6.out _).mono ?_
  rintro e w' ⟨rfl, rfl⟩
  go_wp2_with fail
  refine (H7.out _).mono ?_
  rintro e w' ⟨rfl, rfl⟩
  go_wp2_with fail
  refine (H8.out _).mono ?_
  rintro e w' ⟨rfl, rfl⟩
  go_wp2_with fail
  refine (awake_any _).mono ?_
  rintro e w' ⟨rfl, rfl⟩
  go_wp2_with fail
  go_ret
  exact ⟨rfl, rfl⟩
set_option maxHeartbeats 1600000 in
theorem backGrows_walk (a0 a1 a2 : Int) (w : World) (h0 : 0 ≤ a0) (h0' : a0 ≤ 255) (h1 : 0 ≤ a1) (h1' : a1 ≤ 255) (h2 : 0 ≤ a2) (h2' : a2 ≤ 255) :
    Calls Try.prog 4 #[.int .u8 a0, .int .u8 a1, .int .u8 a2] w fun e w' => e = .returned (.bool true) ∧ w = w' := by
  obtain ⟨t, ht⟩ : ∃ t, a0 % 6 = t := ⟨_, rfl⟩
  obtain ⟨c0, hc0⟩ : ∃ c0, a2 % 32 = c0 := ⟨_, rfl⟩
  obtain ⟨c, hc⟩ : ∃ c, 1 + c0 = c := ⟨_, rfl⟩
  obtain ⟨b0, hb0⟩ : ∃ b0, a1 % c = b0 := ⟨_, rfl⟩
  obtain ⟨b, hb⟩ : ∃ b, 1 + b0 = b := ⟨_, rfl⟩
  have hc1 : 1 ≤ c := by omega
  have hc2 : c ≤ 32 := by omega
  have hb1 : 1 ≤ b := by have := Int.emod_nonneg a1 (show c ≠ 0 by omega); omega
  have hb2 : b ≤ c := by have := Int.emod_lt_of_pos a1 (show 0 < c by omega); omega
  have ht0 : 0 ≤ t := by omega
  have ht5 : t ≤ 5 := by omega
  have hf : fitV t b c = true := fitV_iff.2 ⟨ht0, ht5, hc1, hc2, hb1, hb2⟩
  have hf0 := fit_tries hf
  have hw := whole_bounds hf
  have g1 := fit_any t b c
  have g2 := fun w => delay_any b c 1 w (by decide)
  have g3 := fun w => delay_any b c 0 w (by decide)
  have g4 := whole_any t b c
  rw [hf] at g1
  rw [delay_one hf0] at g2
  rw [delay_no (.inr (by decide))] at g3
  generalize wholeV t b c = n at *
  obtain ⟨t1, ht1⟩ : ∃ t1, t + 1 = t1 := ⟨_, rfl⟩
  rw [ht1] at hw
  obtain ⟨q, hq⟩ : ∃ q, t1 * c = q := ⟨_, rfl⟩
  have hq6 : t1 * c ≤ 6 * c := Int.mul_le_mul_of_nonneg_right (by omega) (by omega)
  rw [hq] at hw hq6
  obtain ⟨hw1, hw2⟩ := hw
  have hq1 : q ≤ 192 := by omega
  have hq0 : 1 ≤ q := by omega
  have ht11 : t1 ≤ 6 := by omega
  have ht10 : 1 ≤ t1 := by omega
  have hb00 : 0 ≤ b0 := by omega
  have hb01 : b0 ≤ 31 := by omega
  have hc00 : 0 ≤ c0 := by omega
  have hc01 : c0 ≤ 31 := by omega
  have G1 := Lib.hid g1; have G2 := Lib.hid g2; have G3 := Lib.hid g3; have G4 := Lib.hid g4
  have HF := Lib.hid hf0
  clear hf hf0 g1 g2 g3 g4 hq6
  go_enter Try.func4, Try.ntmps4
  go_wp2_with fail
  refine (G1.out _).mono ?_
  rintro e w' ⟨rfl, rfl⟩
  go_wp2_with fail
  refine (G2.out _).mono ?_
  rintro e w' ⟨rfl, rfl⟩
  go_wp2_with fail
  refine (G3.out _).mono ?_
  rintro e w' ⟨rfl, rfl⟩
  go_wp2_with fail
  go_loopw [10] (fun i wr => ∃ j : Nat, j ≤ 40 ∧ i = .int .i64 ((j : Int) + 1) ∧ wr = w) (fun i _ => 41 - (intOf i).toNat)
  case atStart => exact ⟨0, by omega, rfl, rfl⟩
  case round =>
    obtain ⟨j, hj, rfl, rfl⟩ := hrel
    by_cases hlt : j < 40
    · have hn := delay_next (k := (j : Int) + 1) HF.out (by omega)
      have d1 := fun w => delay_any b c ((j : Int) + 1) w (by omega)
      have d2 := fun w => delay_any b c ((j : Int) + 1 + 1) w (by omega)
      obtain ⟨i, hi⟩ : ∃ i : Int, (j : Int) + 1 = i := ⟨_, rfl⟩
      rw [hi] at hn d1 d2 ⊢
      obtain ⟨i2, hi2⟩ : ∃ i2 : Int, i + 1 = i2 := ⟨_, rfl⟩
      rw [hi2] at hn d2
      generalize delayV b c i = x at *
      generalize delayV b c i2 = y at *
      obtain ⟨n1, n2, n3, n4⟩ := hn
      have hi0 : 1 ≤ i := by omega
      have hi40 : i ≤ 40 := by omega
      have D1 := Lib.hid d1; have D2 := Lib.hid d2
      have HI := Lib.hid hi
      clear d1 d2 hi
      by_cases hx : 2 * x ≤ c
      · obtain rfl : y = 2 * x := by omega
        clear n4
        go_wp2_with fail
        refine (D1.out _).mono ?_
        rintro e w' ⟨rfl, rfl⟩
        go_wp2_with fail
        refine (D2.out _).mono ?_
        rintro e w' ⟨rfl, rfl⟩
        go_wp2_with fail
        go_roundw
        case rel => exact ⟨j + 1, by omega, by rw [← hi2, ← HI.out]; go_num, by trivial⟩
        case measure => have := HI.out; simp [intOf]; omega
      · obtain rfl : y = c := by omega
        have hx3 : y < 2 * x := by omega
        clear n4 hx
        go_wp2_with fail
        refine (D1.out _).mono ?_
        rintro e w' ⟨rfl, rfl⟩
        go_wp2_with fail
        refine (D2.out _).mono ?_
        rintro e w' ⟨rfl, rfl⟩
        go_wp2_with fail
        go_roundw
        case rel => exact ⟨j + 1, by omega, by rw [← hi2, ← HI.out]; go_num, by trivial⟩
        case measure => have := HI.out; simp [intOf]; omega
    · obtain rfl : j = 40 := by omega
      go_wp2_with fail
      refine (G4.out _).mono ?_
      rintro e w' ⟨rfl, rfl⟩
      go_wp2_with fail
      refine (awake_any _).mono ?_
      rintro e w' ⟨rfl, rfl⟩
      go_wp2_with fail
      go_ret
      exact ⟨rfl, rfl⟩
namespace Contract
theorem backTells (a0 a1 a2 a3 : Int) (W : World) (w0 : (Lit.int .i64 a0).wf = true) (w1 : (Lit.int .i64 a1).wf = true) (w2 : (Lit.int .i64 a2).wf = true) (w3 : (Lit.int .i64 a3).wf = true) :
    Calls Try.prog 3 #[.int .i64 a0, .int .i64 a1, .int .i64 a2, .int .i64 a3] W fun e w' => e = .returned (.bool true) ∧ Below W.heap.size W w' := by
  refine (backTells_walk a0 a1 a2 a3 W (bounds_i64 w3).2).mono ?_
  rintro e w' ⟨rfl, rfl⟩
  exact ⟨rfl, Below.refl _ _⟩
theorem backGrows (a0 a1 a2 : Int) (W : World) (w0 : (Lit.int .u8 a0).wf = true) (w1 : (Lit.int .u8 a1).wf = true) (w2 : (Lit.int .u8 a2).wf = true) :
    Calls Try.prog 4 #[.int .u8 a0, .int .u8 a1, .int .u8 a2] W fun e w' => e = .returned (.bool true) ∧ Below W.heap.size W w' := by
  have b0 := bounds_u8 w0
  have b1 := bounds_u8 w1
  have b2 := bounds_u8 w2
  refine (backGrows_walk a0 a1 a2 W b0.1 b0.2 b1.1 b1.2 b2.1 b2.2).mono ?_
  rintro e w' ⟨rfl, rfl⟩
  exact ⟨rfl, Below.refl _ _⟩
end Contract
end Go.Proofs.Ytknjeifecinkgaa
