/-
  The contracts of num.Less, num.Times, num.Shift and of the document's: any numbers of 64 bits; what was there stays as it was.
-/
import Derived.Test.YtjclkiabgemfpaaGreatPdNumA
import Derived.Outline
import Derived.Deep.DeepMust
set_option maxRecDepth 4000
namespace Go.Proofs.YtjclkiabgemfpaaGreat.Num
open Go.RowKit NumP
theorem amounts_is (a : Option Addr) (len cap : Nat) (xs : List Int) (v : Bool) (w : World) (h : IntsAt w a len xs) (hv : allAmt xs = v) :
    Calls Tryz.prog 118 #[.slice a len cap] w fun e w' => e = .returned (.bool v) ∧ w = w' := by
  subst hv; exact amounts_any a len cap xs w h

theorem shift_any (a b : Int) (w : World) :
    Calls Tryz.prog 111 #[.int .i64 a, .int .i64 b] w fun e w' => e = .returned (.tuple #[.int .i64 (shiftP a b).1, .int .i64 (shiftP a b).2]) ∧ w = w' := by
  rcases amt_cases a with ⟨ea, h0, h1⟩ | ⟨ea, h0⟩
  · by_cases k1 : -1099511627776 ≤ b
    · by_cases k2 : b ≤ 1099511627776
      · rw [shiftP_in ea k1 k2]
        by_cases k3 : a + b < 0
        · rw [if_pos k3]
          have EA := Lib.hid ea; clear ea
          go_enter Tryz.func111, Tryz.ntmps111
          go_wp2_with (go_at_call 107; refine (fit_yes _ _ h0 h1).mono ?_; rintro e w' ⟨rfl, rfl⟩)
          go_ret2
          exact ⟨rfl, rfl⟩
        · rw [if_neg k3]
          by_cases k4 : 1099511627776 < a + b
          · rw [if_pos k4]
            have EA := Lib.hid ea; clear ea
            go_enter Tryz.func111, Tryz.ntmps111
            go_wp2_with (go_at_call 107; refine (fit_yes _ _ h0 h1).mono ?_; rintro e w' ⟨rfl, rfl⟩)
            go_ret2
            exact ⟨rfl, rfl⟩
          · rw [if_neg k4]
            have EA := Lib.hid ea; clear ea
            go_enter Tryz.func111, Tryz.ntmps111
            go_wp2_with (go_at_call 107; refine (fit_yes _ _ h0 h1).mono ?_; rintro e w' ⟨rfl, rfl⟩)
            go_ret2
            exact ⟨rfl, rfl⟩
      · rw [shiftP_no (.inr (.inr (by omega)))]
        have EA := Lib.hid ea; clear ea
        go_enter Tryz.func111, Tryz.ntmps111
        go_wp2_with (go_at_call 107; refine (fit_yes _ _ h0 h1).mono ?_; rintro e w' ⟨rfl, rfl⟩)
        go_ret2
        exact ⟨rfl, rfl⟩
    · rw [shiftP_no (.inr (.inl (by omega)))]
      have EA := Lib.hid ea; clear ea
      go_enter Tryz.func111, Tryz.ntmps111
      go_wp2_with (go_at_call 107; refine (fit_yes _ _ h0 h1).mono ?_; rintro e w' ⟨rfl, rfl⟩)
      go_ret2
      exact ⟨rfl, rfl⟩
  · rw [shiftP_no (.inl ea)]
    have EA := Lib.hid ea; clear ea
    go_enter Tryz.func111, Tryz.ntmps111
    go_wp2_with (go_at_call 107; refine (fit_no _ _ h0).mono ?_; rintro e w' ⟨rfl, rfl⟩)
    go_ret2
    exact ⟨rfl, rfl⟩
end Go.Proofs.YtjclkiabgemfpaaGreat.Num

/-
  The contracts of the document's Less, Shift, Times, Sum and of num.Sum: any numbers of 64 bits; the world is as it was.
-/
set_option maxRecDepth 4000
namespace Go.Proofs.YtjclkiabgemfpaaGreat.Num
open Go.RowKit NumP
theorem sum_any (a : Option Addr) (len cap : Nat) (xs : List Int) (w : World) (h : IntsAt w a len xs) :
    Calls Tryz.prog 106 #[.slice a len cap] w fun e w' => e = .returned (.tuple #[.int .i64 (sumP xs).1, .int .i64 (sumP xs).2]) ∧ w = w' := by
  have hI := Lib.hid h
  obtain ⟨hlen, hbig, hc⟩ := h
  have HL := Lib.hid hlen; clear hlen
  have HC := Lib.hid hc; clear hc
  cases hall : allAmt xs with
  | false =>
    rw [sumP_no hall]
    have HA := Lib.hid hall; clear hall
    go_enter Tryz.func106, Tryz.ntmps106
    go_wp2_with (go_at_call 118; refine (amounts_is _ _ _ xs false _ hI.out HA.out).mono ?_; rintro e w' ⟨rfl, rfl⟩)
    go_ret2
    exact ⟨rfl, rfl⟩
  | true =>
    have HA := Lib.hid hall; clear hall
    go_enter Tryz.func106, Tryz.ntmps106
    go_wp2_with (go_at_call 118; refine (amounts_is _ _ _ xs true _ hI.out HA.out).mono ?_; rintro e w' ⟨rfl, rfl⟩)
    go_loop [4, 12] (fun s i => ∃ (k : Nat) (n : Int), k ≤ len ∧ 0 ≤ n ∧ n ≤ 1099511627776 ∧ s = .int .i64 n ∧ i = .int .i64 k ∧ Hid (addUp 0 xs = addUp n (xs.drop k))) (fun _ i => len - (intOf i).toNat)
    case atStart => exact ⟨0, 0, Nat.zero_le _, by omega, by omega, rfl, rfl, rfl⟩
    case round =>
      obtain ⟨k, n, hk, hn0, hn1, rfl, rfl, hd⟩ := hrel
      by_cases hlt : k < len
      · have hlx : k < xs.length := by rw [HL.out]; exact hlt
        have hamt := amt_iff.1 (allAmt_at HA.out k hlx)
        rcases HC.out with h0 | ⟨b, off, rfl, hcell⟩
        · omega
        have hg := hcell k hlt
        generalize hx : xs.getD k 0 = x at *
        have HX := Lib.hid hx; clear hx
        clear HC hcell
        have hx0 := hamt.1; have hx1 := hamt.2
        clear hamt
        by_cases hov : 1099511627776 - n < x
        · go_wp2
          go_ret2
          rw [sumP_over HA.out (hd.out.trans (addUp_drop_over hlx (by rw [HX.out]; exact hov)))]
          exact ⟨rfl, rfl⟩
        · go_wp2
          go_round
          case rel => exact ⟨k + 1, n + x, by omega, by omega, by omega, rfl, by go_num, hd.out.trans (by rw [addUp_drop_fits hlx (by rw [HX.out]; exact hov), HX.out])⟩
          case measure => simp [intOf]; omega
      · go_wp2
        go_ret2
        rw [sumP_yes HA.out (hd.out.trans (addUp_drop_done (by rw [HL.out]; exact hlt)))]
        exact ⟨rfl, rfl⟩
end Go.Proofs.YtjclkiabgemfpaaGreat.Num
