/-
  The contracts of the document's Less, Shift, Times, Sum and of num.Sum: any numbers of 64 bits; the world is as it was.
-/
import Derived.Test.YtmieghihapkgeaaDoorNumB
namespace Go.Proofs.YtmieghihapkgeaaDoor
open Go.RowKit NumP

theorem rless_any (a b : Int) (w : World) :
    Calls Tryd.prog 11 #[.int .i64 a, .int .i64 b] w fun e w' => e = .returned (.tuple #[.int .i64 (lessP a b).1, .int .i64 (lessP a b).2]) ∧ w = w' := by
  rcases amt_cases a with ⟨ea, h0, h1⟩ | ⟨ea, _⟩
  · rcases amt_cases b with ⟨eb, h2, h3⟩ | ⟨eb, _⟩
    · by_cases k : a < b
      · rw [lessP_short (by rw [ea, eb]; rfl) k]
        go_enter Tryd.func11, Tryd.ntmps11
        go_wp2_with (go_at_call 13; refine (rfit_any _ _).mono ?_; rintro e w' ⟨rfl, rfl⟩)
        go_ret2
        exact ⟨rfl, rfl⟩
      · rw [lessP_yes (by rw [ea, eb]; rfl) k]
        go_enter Tryd.func11, Tryd.ntmps11
        go_wp2_with (go_at_call 13; refine (rfit_any _ _).mono ?_; rintro e w' ⟨rfl, rfl⟩)
        go_ret2
        exact ⟨rfl, rfl⟩
    · rw [lessP_no (by rw [ea, eb]; rfl)]
      go_enter Tryd.func11, Tryd.ntmps11
      go_wp2_with (go_at_call 13; refine (rfit_any _ _).mono ?_; rintro e w' ⟨rfl, rfl⟩)
      go_ret2
      exact ⟨rfl, rfl⟩
  · rw [lessP_no (by rw [ea]; rfl)]
    go_enter Tryd.func11, Tryd.ntmps11
    go_wp2_with (go_at_call 13; refine (rfit_any _ _).mono ?_; rintro e w' ⟨rfl, rfl⟩)
    go_ret2
    exact ⟨rfl, rfl⟩
theorem rtimes_any (a b : Int) (w : World) :
    Calls Tryd.prog 17 #[.int .i64 a, .int .i64 b] w fun e w' => e = .returned (.tuple #[.int .i64 (timesP a b).1, .int .i64 (timesP a b).2]) ∧ w = w' := by
  rcases amt_cases a with ⟨ea, h0, h1⟩ | ⟨ea, _⟩
  · rcases amt_cases b with ⟨eb, h2, h3⟩ | ⟨eb, _⟩
    · by_cases hb1 : 1 ≤ b
      · have ht := times_test (a := a) hb1
        by_cases k : 1099511627776 < a * b
        · rw [timesP_over (by rw [ea, eb]; rfl) k]
          have k2 : 1099511627776 / b < a := ht.2 k
          clear ht k
          go_enter Tryd.func17, Tryd.ntmps17
          go_wp2_with (go_at_call 13; refine (rfit_any _ _).mono ?_; rintro e w' ⟨rfl, rfl⟩)
          go_ret2
          exact ⟨rfl, rfl⟩
        · rw [timesP_yes (by rw [ea, eb]; rfl) k]
          have k2 : ¬ 1099511627776 / b < a := fun x => k (ht.1 x)
          have k3 : 0 ≤ a * b := Int.mul_nonneg h0 h2
          clear ht
          go_enter Tryd.func17, Tryd.ntmps17
          go_wp2_with (go_at_call 13; refine (rfit_any _ _).mono ?_; rintro e w' ⟨rfl, rfl⟩)
          go_ret2
          exact ⟨rfl, rfl⟩
      · obtain rfl : b = 0 := by omega
        have k : ¬ 1099511627776 < a * 0 := by omega
        rw [timesP_yes (by rw [ea, eb]; rfl) k]
        clear k
        go_enter Tryd.func17, Tryd.ntmps17
        go_wp2_with (go_at_call 13; refine (rfit_any _ _).mono ?_; rintro e w' ⟨rfl, rfl⟩)
        go_ret2
        exact ⟨by simp, rfl⟩
    · rw [timesP_no (by rw [ea, eb]; rfl)]
      go_enter Tryd.func17, Tryd.ntmps17
      go_wp2_with (go_at_call 13; refine (rfit_any _ _).mono ?_; rintro e w' ⟨rfl, rfl⟩)
      go_ret2
      exact ⟨rfl, rfl⟩
  · rw [timesP_no (by rw [ea]; rfl)]
    go_enter Tryd.func17, Tryd.ntmps17
    go_wp2_with (go_at_call 13; refine (rfit_any _ _).mono ?_; rintro e w' ⟨rfl, rfl⟩)
    go_ret2
    exact ⟨rfl, rfl⟩
theorem rshift_any (a b : Int) (w : World) :
    Calls Tryd.prog 15 #[.int .i64 a, .int .i64 b] w fun e w' => e = .returned (.tuple #[.int .i64 (shiftP a b).1, .int .i64 (shiftP a b).2]) ∧ w = w' := by
  rcases amt_cases a with ⟨ea, h0, h1⟩ | ⟨ea, h0⟩
  · by_cases k1 : -1099511627776 ≤ b
    · by_cases k2 : b ≤ 1099511627776
      · rw [shiftP_in ea k1 k2]
        by_cases k3 : a + b < 0
        · rw [if_pos k3]
          have EA := Lib.hid ea; clear ea
          go_enter Tryd.func15, Tryd.ntmps15
          go_wp2_with (go_at_call 13; refine (rfit_yes _ _ h0 h1).mono ?_; rintro e w' ⟨rfl, rfl⟩)
          go_ret2
          exact ⟨rfl, rfl⟩
        · rw [if_neg k3]
          by_cases k4 : 1099511627776 < a + b
          · rw [if_pos k4]
            have EA := Lib.hid ea; clear ea
            go_enter Tryd.func15, Tryd.ntmps15
            go_wp2_with (go_at_call 13; refine (rfit_yes _ _ h0 h1).mono ?_; rintro e w' ⟨rfl, rfl⟩)
            go_ret2
            exact ⟨rfl, rfl⟩
          · rw [if_neg k4]
            have EA := Lib.hid ea; clear ea
            go_enter Tryd.func15, Tryd.ntmps15
            go_wp2_with (go_at_call 13; refine (rfit_yes _ _ h0 h1).mono ?_; rintro e w' ⟨rfl, rfl⟩)
            go_ret2
            exact ⟨rfl, rfl⟩
      · rw [shiftP_no (.inr (.inr (by omega)))]
        have EA := Lib.hid ea; clear ea
        go_enter Tryd.func15, Tryd.ntmps15
        go_wp2_with (go_at_call 13; refine (rfit_yes _ _ h0 h1).mono ?_; rintro e w' ⟨rfl, rfl⟩)
        go_ret2
        exact ⟨rfl, rfl⟩
    · rw [shiftP_no (.inr (.inl (by omega)))]
      have EA := Lib.hid ea; clear ea
      go_enter Tryd.func15, Tryd.ntmps15
      go_wp2_with (go_at_call 13; refine (rfit_yes _ _ h0 h1).mono ?_; rintro e w' ⟨rfl, rfl⟩)
      go_ret2
      exact ⟨rfl, rfl⟩
  · rw [shiftP_no (.inl ea)]
    have EA := Lib.hid ea; clear ea
    go_enter Tryd.func15, Tryd.ntmps15
    go_wp2_with (go_at_call 13; refine (rfit_no _ _ h0).mono ?_; rintro e w' ⟨rfl, rfl⟩)
    go_ret2
    exact ⟨rfl, rfl⟩
theorem sum_any (a : Option Addr) (len cap : Nat) (xs : List Int) (w : World) (h : IntsAt w a len xs) :
    Calls Tryd.prog 8 #[.slice a len cap] w fun e w' => e = .returned (.tuple #[.int .i64 (sumP xs).1, .int .i64 (sumP xs).2]) ∧ w = w' := by
  have hI := Lib.hid h
  obtain ⟨hlen, hbig, hc⟩ := h
  have HL := Lib.hid hlen; clear hlen
  have HC := Lib.hid hc; clear hc
  cases hall : allAmt xs with
  | false =>
    rw [sumP_no hall]
    have HA := Lib.hid hall; clear hall
    go_enter Tryd.func8, Tryd.ntmps8
    go_wp2_with (go_at_call 22; refine (amounts_is _ _ _ xs false _ hI.out HA.out).mono ?_; rintro e w' ⟨rfl, rfl⟩)
    go_ret2
    exact ⟨rfl, rfl⟩
  | true =>
    have HA := Lib.hid hall; clear hall
    go_enter Tryd.func8, Tryd.ntmps8
    go_wp2_with (go_at_call 22; refine (amounts_is _ _ _ xs true _ hI.out HA.out).mono ?_; rintro e w' ⟨rfl, rfl⟩)
    go_loop [4, 12] (fun s i => ∃ (k : Nat) (n : Int), k ≤ len ∧ 0 ≤ n ∧ n ≤ 1099511627776 ∧ s = .int .i64 n ∧ i = .int .i64 k ∧ Hid (addUp 0 xs = addUp n (xs.drop k))) (fun _ i => len - (intOf i).toNat)
    case atStart => exact ⟨0, 0, Nat.zero_le _, by omega, by omega, rfl, rfl, rfl⟩
    case round =>
      obtain ⟨k, n, hk, hn0, hn1, rfl, rfl, hd⟩ := hrel
      by_cases hlt : k < len
      · have hlx : k < xs.length := by rw [HL.out]; exact hlt
        have hamt := amt_iff.1 (allAmt_at HA.out k hlx)
        rcases HC.out with h0 | ⟨b, off, rfl, hcell⟩
        · omega
        have hg := hcell k hlt
        generalize hx : xs.getD k 0 = x at *
        have HX := Lib.hid hx; clear hx
        clear HC hcell
        have hx0 := hamt.1; have hx1 := hamt.2
        clear hamt
        by_cases hov : 1099511627776 - n < x
        · go_wp2
          go_ret2
          rw [sumP_over HA.out (hd.out.trans (addUp_drop_over hlx (by rw [HX.out]; exact hov)))]
          exact ⟨rfl, rfl⟩
        · go_wp2
          go_round
          case rel => exact ⟨k + 1, n + x, by omega, by omega, by omega, rfl, by go_num, hd.out.trans (by rw [addUp_drop_fits hlx (by rw [HX.out]; exact hov), HX.out])⟩
          case measure => simp [intOf]; omega
      · go_wp2
        go_ret2
        rw [sumP_yes HA.out (hd.out.trans (addUp_drop_done (by rw [HL.out]; exact hlt)))]
        exact ⟨rfl, rfl⟩
theorem rsum_any (a : Option Addr) (len cap : Nat) (xs : List Int) (w : World) (h : IntsAt w a len xs) :
    Calls Tryd.prog 9 #[.slice a len cap] w fun e w' => e = .returned (.tuple #[.int .i64 (sumP xs).1, .int .i64 (sumP xs).2]) ∧ w = w' := by
  obtain ⟨hlen, hbig, hc⟩ := h
  have HL := Lib.hid hlen; clear hlen
  have HC := Lib.hid hc; clear hc
  go_enter Tryd.func9, Tryd.ntmps9
  go_wp2
  go_loop [4] (fun i => ∃ k : Nat, k ≤ len ∧ i = .int .i64 k ∧ Hid (allAmt xs = allAmt (xs.drop k))) (fun i => len - (intOf i).toNat)
  case atStart => exact ⟨0, Nat.zero_le _, rfl, rfl⟩
  case round =>
    obtain ⟨k, hk, rfl, hd⟩ := hrel
    by_cases hlt : k < len
    · have hlx : k < xs.length := by rw [HL.out]; exact hlt
      rcases HC.out with h0 | ⟨b, off, rfl, hcell⟩
      · omega
      have hg := hcell k hlt
      generalize hx : xs.getD k 0 = x at *
      have HX := Lib.hid hx; clear hx
      clear HC hcell
      rcases amt_cases x with ⟨e, h0, h1⟩ | ⟨e, h0⟩
      · have HE := Lib.hid e; clear e
        go_wp2_with (go_at_call 13; refine (rfit_yes _ _ h0 h1).mono ?_; rintro e w' ⟨rfl, rfl⟩)
        go_round
        case rel => exact ⟨k + 1, by omega, by go_num, hd.out.trans (allAmt_drop_yes hlx (by rw [HX.out]; exact HE.out))⟩
        case measure => simp [intOf]; omega
      · have HE := Lib.hid e; clear e
        go_wp2_with (go_at_call 13; refine (rfit_no _ _ h0).mono ?_; rintro e w' ⟨rfl, rfl⟩)
        go_ret2
        rw [sumP_no (by rw [hd.out, allAmt_drop_no hlx (by rw [HX.out]; exact HE.out)])]
        exact ⟨rfl, rfl⟩
    · have HA : Hid (allAmt xs = true) := Lib.hid (by rw [hd.out, allAmt_drop_done (by rw [HL.out]; exact hlt)])
      clear hd
      go_wp2
      go_loop [5, 6] (fun s i => ∃ (k : Nat) (n : Int), k ≤ len ∧ 0 ≤ n ∧ n ≤ 1099511627776 ∧ s = .int .i64 n ∧ i = .int .i64 k ∧ Hid (addUp 0 xs = addUp n (xs.drop k))) (fun _ i => len - (intOf i).toNat)
      case atStart => exact ⟨0, 0, Nat.zero_le _, by omega, by omega, rfl, rfl, rfl⟩
      case round =>
        obtain ⟨k2, n, hk2, hn0, hn1, rfl, rfl, hd⟩ := hrel
        by_cases hlt2 : k2 < len
        · have hlx : k2 < xs.length := by rw [HL.out]; exact hlt2
          have hamt := amt_iff.1 (allAmt_at HA.out k2 hlx)
          rcases HC.out with h0 | ⟨b, off, rfl, hcell⟩
          · omega
          have hg := hcell k2 hlt2
          generalize hx : xs.getD k2 0 = x at *
          have HX := Lib.hid hx; clear hx
          clear HC hcell
          have hx0 := hamt.1; have hx1 := hamt.2
          clear hamt
          by_cases hov : 1099511627776 - n < x
          · go_wp2
            go_ret2
            rw [sumP_over HA.out (hd.out.trans (addUp_drop_over hlx (by rw [HX.out]; exact hov)))]
            exact ⟨rfl, rfl⟩
          · go_wp2
            go_round
            case rel => exact ⟨k2 + 1, n + x, by omega, by omega, by omega, rfl, by go_num, hd.out.trans (by rw [addUp_drop_fits hlx (by rw [HX.out]; exact hov), HX.out])⟩
            case measure => simp [intOf]; omega
        · go_wp2
          go_ret2
          rw [sumP_yes HA.out (hd.out.trans (addUp_drop_done (by rw [HL.out]; exact hlt2)))]
          exact ⟨rfl, rfl⟩
end Go.Proofs.YtmieghihapkgeaaDoor
