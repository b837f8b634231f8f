/-
  The contracts of back's Whole and of the document's, and of the laws' own awake: nothing is touched.
-/
import Derived.Test.YtknjeifecinkgaaBackA
set_option linter.unusedVariables false
namespace Go.Proofs.Ytknjeifecinkgaa
open Go.RowKit BackP

theorem sumD_small {b c : Int} (h : fitV 0 b c = true) {j : Nat} (hj : j ≤ 5) : 0 ≤ sumD b c j ∧ sumD b c j ≤ 160 := by
  have hs := sumD_bounds h j
  obtain ⟨_, _, h1, h2, h3, h4⟩ := fitV_iff.1 h
  have hm : (j : Int) * c ≤ 5 * c := Int.mul_le_mul_of_nonneg_right (by omega) (by omega)
  omega
theorem delay_small {b c k : Int} (h : fitV 0 b c = true) (hk : 1 ≤ k) : 1 ≤ delayV b c k ∧ delayV b c k ≤ 32 := by
  have hn := delay_next h hk
  obtain ⟨_, _, h1, h2, h3, h4⟩ := fitV_iff.1 h
  omega
theorem whole_any (t b c : Int) (w : World) : Calls Try.prog 9 #[.int .i64 t, .int .i64 b, .int .i64 c] w fun e w' => e = .returned (.int .i64 (wholeV t b c)) ∧ w = w' := by
  have hp := fit_any t b c
  cases hf : fitV t b c with
  | false =>
    rw [show wholeV t b c = 0 by unfold wholeV; rw [hf]; rfl]
    rw [hf] at hp
    have H := Lib.hid hp; clear hp hf
    go_enter Try.func9, Try.ntmps9
    go_wp2_with fail
    refine (H.out _).mono ?_
    rintro e w' ⟨rfl, rfl⟩
    go_wp2_with fail
    go_ret
    exact ⟨rfl, rfl⟩
  | true =>
    rw [hf] at hp
    obtain ⟨ht0, ht5, hc1, hc2, hb1, hb2⟩ := fitV_iff.1 hf
    have hf0 := fit_tries hf
    obtain ⟨m, rfl⟩ : ∃ m : Nat, t = (m : Int) := ⟨t.toNat, by omega⟩
    have hm5 : m ≤ 5 := by omega
    obtain ⟨v, hv⟩ : ∃ v, c + sumD b c m = v := ⟨_, rfl⟩
    rw [show wholeV (m : Int) b c = v by unfold wholeV; rw [if_pos hf, Int.toNat_natCast, hv]]
    have HV := Lib.hid hv
    have HF := Lib.hid hf0
    have H := Lib.hid hp; clear hp hf hv hf0 ht0 ht5
    go_enter Try.func9, Try.ntmps9
    go_wp2_with fail
    refine (H.out _).mono ?_
    rintro e w' ⟨rfl, rfl⟩
    go_wp2_with fail
    go_loopw [7, 16] (fun x i wr => ∃ j : Nat, j ≤ m ∧ x = .int .i64 (c + sumD b c j) ∧ i = .int .i64 (j : Int) ∧ wr = w) (fun _ i _ => m - (intOf i).toNat)
    case atStart => exact ⟨0, by omega, by simp [sumD], rfl, rfl⟩
    case round =>
      obtain ⟨j, hj, rfl, rfl, rfl⟩ := hrel
      have hs := sumD_small HF.out (j := j) (by omega)
      obtain ⟨x, hx⟩ : ∃ x, c + sumD b c j = x := ⟨_, rfl⟩
      have hx1 : 0 ≤ x := by omega
      have hx2 : x ≤ 192 := by omega
      rw [hx]
      by_cases hlt : j < m
      · have hd := delay_any b c ((j : Int) + 1) wr (by omega)
        have hs1 := delay_small (k := (j : Int) + 1) HF.out (by omega)
        have hn : c + sumD b c (j + 1) = x + delayV b c ((j : Int) + 1) := by rw [sumD, ← hx]; omega
        generalize delayV b c ((j : Int) + 1) = y at *
        obtain ⟨hs2, hs3⟩ := hs1
        obtain ⟨i, hi⟩ : ∃ i : Int, (j : Int) + 1 = i := ⟨_, rfl⟩
        rw [hi] at hd
        have HD := Lib.hid hd
        have HN := Lib.hid hn
        have HI := Lib.hid hi.symm
        have hib : i ≤ 6 := by omega
        have hib0 : 1 ≤ i := by omega
        clear hd hn hx hs
        go_wp2_with fail
        refine HD.out.mono ?_
        rintro e w' ⟨rfl, rfl⟩
        go_wp2_with fail
        go_roundw
        case rel => exact ⟨j + 1, by omega, by rw [HN.out], by rw [← hi]; go_num, by trivial⟩
        case measure => simp [intOf]; omega
      · obtain rfl : j = m := by omega
        rw [HV.out] at hx
        subst hx
        clear hs
        go_wp2
        go_ret
        exact ⟨rfl, rfl⟩
theorem rwhole_any (t b c : Int) (w : World) : Calls Try.prog 10 #[.int .i64 t, .int .i64 b, .int .i64 c] w fun e w' => e = .returned (.int .i64 (wholeV t b c)) ∧ w = w' := by
  have hp := rfit_any t b c
  cases hf : fitV t b c with
  | false =>
    rw [show wholeV t b c = 0 by unfold wholeV; rw [hf]; rfl]
    rw [hf] at hp
    have H := Lib.hid hp; clear hp hf
    go_enter Try.func10, Try.ntmps10
    go_wp2_with fail
    refine (H.out _).mono ?_
    rintro e w' ⟨rfl, rfl⟩
    go_wp2_with fail
    go_ret
    exact ⟨rfl, rfl⟩
  | true =>
    rw [hf] at hp
    obtain ⟨ht0, ht5, hc1, hc2, hb1, hb2⟩ := fitV_iff.1 hf
    have hf0 := fit_tries hf
    obtain ⟨m, rfl⟩ : ∃ m : Nat, t = (m : Int) := ⟨t.toNat, by omega⟩
    have hm5 : m ≤ 5 := by omega
    obtain ⟨v, hv⟩ : ∃ v, c + sumD b c m = v := ⟨_, rfl⟩
    rw [show wholeV (m : Int) b c = v by unfold wholeV; rw [if_pos hf, Int.toNat_natCast, hv]]
    have HV := Lib.hid hv
    have HF := Lib.hid hf0
    have H := Lib.hid hp; clear hp hf hv hf0 ht0 ht5
    go_enter Try.func10, Try.ntmps10
    go_wp2_with fail
    refine (H.out _).mono ?_
    rintro e w' ⟨rfl, rfl⟩
    go_wp2_with fail
    go_loopw [7, 8] (fun x i wr => ∃ j : Nat, j ≤ m ∧ x = .int .i64 (c + sumD b c j) ∧ i = .int .i64 ((j : Int) + 1) ∧ wr = w) (fun _ i _ => m + 1 - (intOf i).toNat)
    case atStart => exact ⟨0, by omega, by simp [sumD], rfl, rfl⟩
    case round =>
      obtain ⟨j, hj, rfl, rfl, rfl⟩ := hrel
      have hs := sumD_small HF.out (j := j) (by omega)
      obtain ⟨x, hx⟩ : ∃ x, c + sumD b c j = x := ⟨_, rfl⟩
      have hx1 : 0 ≤ x := by omega
      have hx2 : x ≤ 192 := by omega
      rw [hx]
      by_cases hlt : j < m
      · have hd := rdelay_any b c ((j : Int) + 1) wr (by omega)
        have hs1 := delay_small (k := (j : Int) + 1) HF.out (by omega)
        have hn : c + sumD b c (j + 1) = x + delayV b c ((j : Int) + 1) := by rw [sumD, ← hx]; omega
        generalize delayV b c ((j : Int) + 1) = y at *
        obtain ⟨hs2, hs3⟩ := hs1
        obtain ⟨i, hi⟩ : ∃ i : Int, (j : Int) + 1 = i := ⟨_, rfl⟩
        rw [hi] at hd ⊢
        have HD := Lib.hid hd
        have HN := Lib.hid hn
        have HI := Lib.hid hi
        have hib : i ≤ (m : Int) := by omega
        have hib0 : 1 ≤ i := by omega
        clear hd hn hx hs hi
        go_wp2_with fail
        refine HD.out.mono ?_
        rintro e w' ⟨rfl, rfl⟩
        go_wp2_with fail
        go_roundw
        case rel => exact ⟨j + 1, by omega, by rw [HN.out], by rw [← HI.out]; go_num, by trivial⟩
        case measure => have := HI.out; simp [intOf]; omega
      · obtain rfl : j = m := by omega
        rw [HV.out] at hx
        subst hx
        obtain ⟨i, hi⟩ : ∃ i : Int, (j : Int) + 1 = i := ⟨_, rfl⟩
        have hib : (j : Int) < i := by omega
        rw [hi]
        clear hs hi
        go_wp2
        go_ret
        exact ⟨rfl, rfl⟩
theorem awake_any (w : World) : Calls Try.prog 13 #[] w fun e w' => e = .returned (.bool true) ∧ w = w' := by
  have h1 : ∀ w, Calls Try.prog 7 #[.int .i64 2, .int .i64 5, .int .i64 1] w fun e w' => e = .returned (.int .i64 2) ∧ w = w' := fun w => delay_any 2 5 1 w (by decide)
  have h2 : ∀ w, Calls Try.prog 7 #[.int .i64 2, .int .i64 5, .int .i64 2] w fun e w' => e = .returned (.int .i64 4) ∧ w = w' := fun w => delay_any 2 5 2 w (by decide)
  have h3 : ∀ w, Calls Try.prog 7 #[.int .i64 2, .int .i64 5, .int .i64 3] w fun e w' => e = .returned (.int .i64 5) ∧ w = w' := fun w => delay_any 2 5 3 w (by decide)
  have h4 : ∀ w, Calls Try.prog 7 #[.int .i64 2, .int .i64 5, .int .i64 9] w fun e w' => e = .returned (.int .i64 5) ∧ w = w' := fun w => delay_any 2 5 9 w (by decide)
  have h5 : ∀ w, Calls Try.prog 9 #[.int .i64 2, .int .i64 2, .int .i64 5] w fun e w' => e = .returned (.int .i64 11) ∧ w = w' := fun w => whole_any 2 2 5 w
  have h6 : ∀ w, Calls Try.prog 11 #[.int .i64 2, .int .i64 3] w fun e w' => e = .returned (.bool true) ∧ w = w' := fun w => last_any 2 3 w
  have h7 : ∀ w, Calls Try.prog 11 #[.int .i64 2, .int .i64 2] w fun e w' => e = .returned (.bool false) ∧ w = w' := fun w => last_any 2 2 w
  have H1 := Lib.hid h1; have H2 := Lib.hid h2; have H3 := Lib.hid h3; have H4 := Lib.hid h4; have H5 := Lib.hid h5; have H6 := Lib.hid h6; have H7 := Lib.hid h7
  clear h1 h2 h3 h4 h5 h6 h7
  go_enter Try.func13, Try.ntmps13
  go_wp2_with fail
  refine (H1.out _).mono ?_
  rintro e w' ⟨rfl, rfl⟩
  go_wp2_with fail
  refine (H2.out _).mono ?_
  rintro e w' ⟨rfl, rfl⟩
  go_wp2_with fail
  refine (H3.out _).mono ?_
  rintro e w' ⟨rfl, rfl⟩
  go_wp2_with fail
  refine (H4.out _).mono ?_
  rintro e w' ⟨rfl, rfl⟩
  go_wp2_with fail
  refine (H5.out _).mono ?_
  rintro e w' ⟨rfl, rfl⟩
  go_wp2_with fail
  refine (H6.out _).mono ?_
  rintro e w' ⟨rfl, rfl⟩
  go_wp2_with fail
  refine (H7.out _).mono ?_
  rintro e w' ⟨rfl, rfl⟩
  go_wp2_with fail
  go_ret
  exact ⟨rfl, rfl⟩
end Go.Proofs.Ytknjeifecinkgaa
