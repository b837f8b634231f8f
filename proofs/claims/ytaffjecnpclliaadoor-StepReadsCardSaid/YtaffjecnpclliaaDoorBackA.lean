/-
  The contracts of back's functions and of the document's: any numbers; nothing is touched.
-/
import Derived.Test.YtaffjecnpclliaaDoorBackPlain
import Derived.Test.YtaffjecnpclliaaDoorChecked
import Derived.WalkKit
import Derived.Lib.Hide
import Derived.Below
import Derived.WalkLawsBesides
import Derived.WalkSpells
import Derived.BigQuiet
import Derived.LoopTactic
import Derived.WalkMore
set_option linter.unusedVariables false
set_option maxRecDepth 4000
namespace Go.Proofs.YtaffjecnpclliaaDoor.Back
open Go.RowKit BackP

theorem fit_no {t b c : Int} (h : ¬ (0 ≤ t ∧ t ≤ 5 ∧ 1 ≤ c ∧ c ≤ 32 ∧ 1 ≤ b ∧ b ≤ c)) : fitV t b c = false := by
  cases e : fitV t b c with
  | false => rfl
  | true => exact absurd (fitV_iff.1 e) h
theorem paced_any (b c : Int) (w : World) : Calls Tryd.prog 38 #[.int .i64 b, .int .i64 c] w fun e w' => e = .returned (.bool (fitV 0 b c)) ∧ w = w' := by
  by_cases h1 : 1 ≤ b
  · by_cases h2 : b ≤ c
    · by_cases h3 : c ≤ 32
      · rw [fitV_iff.2 (by omega)]
        go_enter Tryd.func38, Tryd.ntmps38
        go_wp2
        go_ret
        exact ⟨rfl, rfl⟩
      · rw [fit_no (by omega)]
        go_enter Tryd.func38, Tryd.ntmps38
        go_wp2
        go_ret
        exact ⟨rfl, rfl⟩
    · rw [fit_no (by omega)]
      go_enter Tryd.func38, Tryd.ntmps38
      go_wp2
      go_ret
      exact ⟨rfl, rfl⟩
  · rw [fit_no (by omega)]
    go_enter Tryd.func38, Tryd.ntmps38
    go_wp2
    go_ret
    exact ⟨rfl, rfl⟩
theorem fit_any (t b c : Int) (w : World) : Calls Tryd.prog 18 #[.int .i64 t, .int .i64 b, .int .i64 c] w fun e w' => e = .returned (.bool (fitV t b c)) ∧ w = w' := by
  by_cases h1 : 0 ≤ t
  · by_cases h2 : t ≤ 5
    · have e : fitV t b c = fitV 0 b c := by
        cases e : fitV 0 b c with
        | true => rw [fitV_iff] at e ⊢; omega
        | false => exact fit_no fun h => by rw [fitV_iff.2 (show 0 ≤ (0 : Int) ∧ (0 : Int) ≤ 5 ∧ 1 ≤ c ∧ c ≤ 32 ∧ 1 ≤ b ∧ b ≤ c by omega)] at e; cases e
      rw [e]; clear e
      have h := paced_any b c
      generalize fitV 0 b c = v at *
      have H := Lib.hid h; clear h
      go_enter Tryd.func18, Tryd.ntmps18
      go_wp2_with fail
      refine (H.out _).mono ?_
      rintro e w' ⟨rfl, rfl⟩
      go_wp2_with fail
      go_ret
      exact ⟨rfl, rfl⟩
    · rw [fit_no (by omega)]
      go_enter Tryd.func18, Tryd.ntmps18
      go_wp2
      go_ret
      exact ⟨rfl, rfl⟩
  · rw [fit_no (by omega)]
    go_enter Tryd.func18, Tryd.ntmps18
    go_wp2
    go_ret
    exact ⟨rfl, rfl⟩
theorem rfit_any (t b c : Int) (w : World) : Calls Tryd.prog 20 #[.int .i64 t, .int .i64 b, .int .i64 c] w fun e w' => e = .returned (.bool (fitV t b c)) ∧ w = w' := by
  by_cases h1 : 0 ≤ t
  · by_cases h2 : t ≤ 5
    · by_cases h3 : 1 ≤ c
      · by_cases h4 : c ≤ 32
        · by_cases h5 : 1 ≤ b
          · by_cases h6 : b ≤ c
            · rw [fitV_iff.2 (by omega)]
              go_enter Tryd.func20, Tryd.ntmps20
              go_wp2
              go_ret
              exact ⟨rfl, rfl⟩
            · rw [fit_no (by omega)]
              go_enter Tryd.func20, Tryd.ntmps20
              go_wp2
              go_ret
              exact ⟨rfl, rfl⟩
          · rw [fit_no (by omega)]
            go_enter Tryd.func20, Tryd.ntmps20
            go_wp2
            go_ret
            exact ⟨rfl, rfl⟩
        · rw [fit_no (by omega)]
          go_enter Tryd.func20, Tryd.ntmps20
          go_wp2
          go_ret
          exact ⟨rfl, rfl⟩
      · rw [fit_no (by omega)]
        go_enter Tryd.func20, Tryd.ntmps20
        go_wp2
        go_ret
        exact ⟨rfl, rfl⟩
    · rw [fit_no (by omega)]
      go_enter Tryd.func20, Tryd.ntmps20
      go_wp2
      go_ret
      exact ⟨rfl, rfl⟩
  · rw [fit_no (by omega)]
    go_enter Tryd.func20, Tryd.ntmps20
    go_wp2
    go_ret
    exact ⟨rfl, rfl⟩
def lastV (t k : Int) : Bool := decide (t < k)
/-- Once it is met the cap stays. -/
theorem dl_stay {c b : Int} (hc : 1 ≤ c) (hb : 1 ≤ b) {j : Nat} (h : dl c j b = c) : ∀ m, j ≤ m → dl c m b = c := by
  intro m hm
  obtain ⟨d, rfl⟩ : ∃ d, m = j + d := ⟨m - j, by omega⟩
  clear hm
  induction d with
  | zero => exact h
  | succ d ih => rw [← Nat.add_assoc, dl_succ hc _ b hb, ih]; omega
set_option maxRecDepth 4000 in
theorem delay_any (b c k : Int) (w : World) (hk : k ≤ 9223372036854775807) : Calls Tryd.prog 31 #[.int .i64 b, .int .i64 c, .int .i64 k] w fun e w' => e = .returned (.int .i64 (delayV b c k)) ∧ w = w' := by
  by_cases h1 : k < 1
  · rw [delay_no (.inr h1)]
    go_enter Tryd.func31, Tryd.ntmps31
    go_wp2
    go_step3
    go_wp2
    rw [Exit.noGoto_ret]
    go_ret
    exact ⟨rfl, rfl⟩
  have hp := paced_any b c
  cases hf : fitV 0 b c with
  | false =>
    rw [delay_no (.inl hf)]
    rw [hf] at hp
    have H := Lib.hid hp; clear hp hf
    go_enter Tryd.func31, Tryd.ntmps31
    go_wp2_with fail
    go_step3
    go_wp2_with fail
    refine (H.out _).mono ?_
    rintro e w' ⟨rfl, rfl⟩
    go_wp2_with fail
    rw [Exit.noGoto_ret]
    go_ret
    exact ⟨rfl, rfl⟩
  | true =>
    rw [hf] at hp
    obtain ⟨_, _, hc1, hc2, hb1, hb2⟩ := fitV_iff.1 hf
    obtain ⟨m, hm⟩ : ∃ m : Nat, k - 1 = (m : Int) := ⟨(k - 1).toNat, by omega⟩
    have hv : delayV b c k = dl c m b := by rw [delay_yes hf (by omega)]; congr 1; omega
    rw [hv]
    have h1t : decide (k < 1) = false := decide_eq_false h1
    have hmb : (m : Int) ≤ 9223372036854775806 := by omega
    obtain ⟨v, hv2⟩ : ∃ v, dl c m b = v := ⟨_, rfl⟩
    rw [hv2]
    have HV := Lib.hid hv2
    have H := Lib.hid hp; clear hp hf hv hv2
    go_enter Tryd.func31, Tryd.ntmps31
    go_wp2_with fail
    go_step3
    go_wp2_with fail
    refine (H.out _).mono ?_
    rintro e w' ⟨rfl, rfl⟩
    go_wp2_with fail
    go_step3
    go_wp2_with fail
    go_loopw [7, 19] (fun x i wr => ∃ j : Nat, j ≤ m ∧ x = .int .i64 (dl c j b) ∧ i = .int .i64 (j : Int) ∧ wr = w) (fun _ i _ => m - (intOf i).toNat)
    case atStart => exact ⟨0, by omega, by show _ = Value.int .i64 (min b c); rw [show min b c = b by omega], rfl, rfl⟩
    case round =>
      obtain ⟨j, hj, rfl, rfl, rfl⟩ := hrel
      have hd := dl_bounds (c := c) j b hb1
      have hd1 := hd.1 hb2
      have hd2 := hd.2
      have hs := dl_succ hc1 j b hb1
      clear hd
      obtain ⟨x, hx⟩ : ∃ x, dl c j b = x := ⟨_, rfl⟩
      rw [hx] at hd1 hd2 hs ⊢
      obtain ⟨y, hy⟩ : ∃ y, 2 * x = y := ⟨_, rfl⟩
      have hyb : 2 ≤ y ∧ y ≤ 64 := by omega
      obtain ⟨hy1, hy2⟩ := hyb
      rw [hy] at hs
      by_cases hlt : j < m
      · by_cases hfull : dl c (j + 1) b = c
        · have hv := dl_stay hc1 hb1 hfull m (by omega)
          rw [HV.out] at hv
          have hmin : c ≤ y := by rw [hs] at hfull; omega
          have HX := Lib.hid hx
          clear hx hs hfull
          subst hv
          by_cases heq : y = v
          · subst heq
            clear hmin
            go_wp2_with fail
            first | go_ret | (rw [Exit.noGoto_ret]; go_ret)
            exact ⟨rfl, rfl⟩
          · have hmin2 : v < y := by omega
            clear hmin heq
            go_wp2_with fail
            first | go_ret | (rw [Exit.noGoto_ret]; go_ret)
            exact ⟨rfl, rfl⟩
        · have hmin : y < c := by rw [hs] at hfull; omega
          have hn : dl c (j + 1) b = y := by rw [hs]; omega
          have hyc : (y == c) = false := beq_eq_false_iff_ne.2 (by omega)
          have HN := Lib.hid hn
          clear hx hs hfull hn
          go_wp2_with fail
          go_roundw
          case rel => exact ⟨j + 1, by omega, by rw [HN.out], by go_num, by trivial⟩
          case measure => simp [intOf]; omega
      · obtain rfl : j = m := by omega
        rw [HV.out] at hx
        clear hs hy
        subst hx
        go_wp2
        first | go_ret | (rw [Exit.noGoto_ret]; go_ret)
        exact ⟨rfl, rfl⟩
/-- What the document's loop still has to double. -/
theorem rdelay_any (b c k : Int) (w : World) (hk : k ≤ 9223372036854775807) : Calls Tryd.prog 32 #[.int .i64 b, .int .i64 c, .int .i64 k] w fun e w' => e = .returned (.int .i64 (delayV b c k)) ∧ w = w' := by
  have hp := rfit_any 0 b c
  cases hf : fitV 0 b c with
  | false =>
    rw [delay_no (.inl hf)]
    rw [hf] at hp
    have H := Lib.hid hp; clear hp hf
    go_enter Tryd.func32, Tryd.ntmps32
    go_wp2_with fail
    refine (H.out _).mono ?_
    rintro e w' ⟨rfl, rfl⟩
    go_wp2_with fail
    go_ret
    exact ⟨rfl, rfl⟩
  | true =>
    rw [hf] at hp
    by_cases h1 : k < 1
    · rw [delay_no (.inr h1)]
      have H := Lib.hid hp; clear hp hf
      go_enter Tryd.func32, Tryd.ntmps32
      go_wp2_with fail
      refine (H.out _).mono ?_
      rintro e w' ⟨rfl, rfl⟩
      go_wp2_with fail
      go_ret
      exact ⟨rfl, rfl⟩
    obtain ⟨_, _, hc1, hc2, hb1, hb2⟩ := fitV_iff.1 hf
    obtain ⟨m, hm⟩ : ∃ m : Nat, (k - 1).toNat = m := ⟨_, rfl⟩
    have hv : delayV b c k = dl c m b := by rw [delay_yes hf (by omega), hm]
    rw [hv]
    have h1t : decide (k < 1) = false := decide_eq_false h1
    obtain ⟨v, hv2⟩ : ∃ v, dl c m b = v := ⟨_, rfl⟩
    rw [hv2]
    have HV := Lib.hid hv2
    have HM := Lib.hid (show k = (m : Int) + 1 by omega)
    have H := Lib.hid hp; clear hp hf hv hv2 hm
    go_enter Tryd.func32, Tryd.ntmps32
    go_wp2_with fail
    refine (H.out _).mono ?_
    rintro e w' ⟨rfl, rfl⟩
    go_wp2_with fail
    go_loopw [7, 8] (fun x i wr => ∃ (j : Nat) (n : Int), j ≤ m ∧ x = .int .i64 n ∧ i = .int .i64 ((j : Int) + 1) ∧ 1 ≤ n ∧ n ≤ 64 ∧ Hid (dl c (m - j) n = v) ∧ wr = w) (fun _ i _ => m + 1 - (intOf i).toNat)
    case atStart => exact ⟨0, b, by omega, rfl, rfl, hb1, by omega, HV, rfl⟩
    case round =>
      obtain ⟨j, n, hj, rfl, rfl, hn1, hn2, HD, rfl⟩ := hrel
      have hkm := HM.out
      obtain ⟨i, hi⟩ : ∃ i : Int, (j : Int) + 1 = i := ⟨_, rfl⟩
      by_cases hlt : j < m
      · by_cases hfull : n < c
        · have hik : i < k := by omega
          have hi1 : 1 ≤ i := by omega
          have hd := HD.out
          have hnx : dl c (m - (j + 1)) (2 * n) = v := by
            rw [show m - j = (m - (j + 1)) + 1 by omega, dl, if_pos hfull] at hd
            exact hd
          have HN := Lib.hid hnx
          have HI := Lib.hid hi
          have HK := Lib.hid hkm
          clear hnx hd HD hkm
          rw [hi]
          clear hi
          go_wp2_with fail
          go_roundw
          case rel => exact ⟨j + 1, 2 * n, by omega, rfl, by rw [← HI.out]; go_num, by omega, by omega, HN, by trivial⟩
          case measure => have := HI.out; simp [intOf]; omega
        · have hd := HD.out
          rw [dl_full hfull] at hd
          have hik : i < k := by omega
          have hnf : decide (n < c) = false := decide_eq_false hfull
          subst hd
          clear HD hkm
          rw [hi]
          clear hi
          by_cases heq : n = c
          · subst heq
            go_wp2
            go_ret
            exact ⟨rfl, rfl⟩
          · have hcn : c < n := by omega
            clear heq
            go_wp2
            go_ret
            exact ⟨rfl, rfl⟩
      · obtain rfl : j = m := by omega
        have hd := HD.out
        rw [Nat.sub_self] at hd
        have hik : ¬ i < k := by omega
        have hkf : decide (i < k) = false := decide_eq_false hik
        clear HD hkm
        rw [hi]
        clear hi
        by_cases hfull : n < c
        · obtain rfl : n = v := by rw [← hd]; show n = min n c; omega
          clear hd
          go_wp2
          go_ret
          exact ⟨rfl, rfl⟩
        · obtain rfl : c = v := by rw [← hd]; show c = min n c; omega
          clear hd
          by_cases heq : n = c
          · subst heq
            go_wp2
            go_ret
            exact ⟨rfl, rfl⟩
          · have hcn : c < n := by omega
            clear heq
            go_wp2
            go_ret
            exact ⟨rfl, rfl⟩
end Go.Proofs.YtaffjecnpclliaaDoor.Back
