/-
  The contracts of num.Less, num.Times, num.Shift and of the document's: any numbers of 64 bits; what was there stays as it was.
-/
import Derived.Test.YtmieghihapkgeaaDoorNumA
import Derived.Outline
import Derived.Deep.DeepMust
namespace Go.Proofs.YtmieghihapkgeaaDoor
open Go.RowKit NumP

theorem intsAt_two (w : World) (a b : Int) : IntsAt (w.alloc (.cells #[.int .i64 a, .int .i64 b] 3)) (some ⟨w.heap.size, 0, none⟩) 2 [a, b] := by
  refine ⟨rfl, by omega, .inr ⟨_, _, rfl, fun i hi => ?_⟩⟩
  rw [Nat.zero_add, World.cell?_alloc_new]
  rcases i with _ | _ | i
  · rfl
  · rfl
  · omega
theorem amounts_is (a : Option Addr) (len cap : Nat) (xs : List Int) (v : Bool) (w : World) (h : IntsAt w a len xs) (hv : allAmt xs = v) :
    Calls Tryd.prog 22 #[.slice a len cap] w fun e w' => e = .returned (.bool v) ∧ w = w' := by
  subst hv; exact amounts_any a len cap xs w h

theorem less_any (a b : Int) (w : World) :
    Calls Tryd.prog 10 #[.int .i64 a, .int .i64 b] w fun e w' => e = .returned (.tuple #[.int .i64 (lessP a b).1, .int .i64 (lessP a b).2]) ∧ Below w.heap.size w w' := by
  by_cases h : (amt a && amt b) = true
  · have ha := amt_iff.1 (Bool.and_eq_true_iff.1 h).1
    have hb := amt_iff.1 (Bool.and_eq_true_iff.1 h).2
    have h0 := ha.1; have h1 := ha.2; have h2 := hb.1; have h3 := hb.2
    clear ha hb
    by_cases k : a < b
    · rw [lessP_short h k]
      have H := Lib.hid h; clear h
      go_enter Tryd.func10, Tryd.ntmps10
      go_wp2_with (go_at_call 22; refine (amounts_is _ _ _ [a, b] true _ (intsAt_two w a b) (by rw [allAmt_two]; exact H.out)).mono ?_; rintro e w' ⟨rfl, rfl⟩)
      go_ret2
      exact ⟨rfl, (Below.refl _ _).alloc (Nat.le_refl _) _⟩
    · rw [lessP_yes h k]
      have H := Lib.hid h; clear h
      go_enter Tryd.func10, Tryd.ntmps10
      go_wp2_with (go_at_call 22; refine (amounts_is _ _ _ [a, b] true _ (intsAt_two w a b) (by rw [allAmt_two]; exact H.out)).mono ?_; rintro e w' ⟨rfl, rfl⟩)
      go_ret2
      exact ⟨rfl, (Below.refl _ _).alloc (Nat.le_refl _) _⟩
  · have h' : (amt a && amt b) = false := by simpa using h
    rw [lessP_no h']
    have H := Lib.hid h'; clear h h'
    go_enter Tryd.func10, Tryd.ntmps10
    go_wp2_with (go_at_call 22; refine (amounts_is _ _ _ [a, b] false _ (intsAt_two w a b) (by rw [allAmt_two]; exact H.out)).mono ?_; rintro e w' ⟨rfl, rfl⟩)
    go_ret2
    exact ⟨rfl, (Below.refl _ _).alloc (Nat.le_refl _) _⟩

theorem times_any (a b : Int) (w : World) :
    Calls Tryd.prog 16 #[.int .i64 a, .int .i64 b] w fun e w' => e = .returned (.tuple #[.int .i64 (timesP a b).1, .int .i64 (timesP a b).2]) ∧ Below w.heap.size w w' := by
  by_cases h : (amt a && amt b) = true
  · have ha := amt_iff.1 (Bool.and_eq_true_iff.1 h).1
    have hb := amt_iff.1 (Bool.and_eq_true_iff.1 h).2
    have h0 := ha.1; have h1 := ha.2; have h2 := hb.1; have h3 := hb.2
    clear ha hb
    by_cases hb1 : 1 ≤ b
    · have ht := times_test (a := a) hb1
      by_cases k : 1099511627776 < a * b
      · rw [timesP_over h k]
        have k2 : 1099511627776 / b < a := ht.2 k
        have H := Lib.hid h; clear h ht k
        go_enter Tryd.func16, Tryd.ntmps16
        go_wp2_with (go_at_call 22; refine (amounts_is _ _ _ [a, b] true _ (intsAt_two w a b) (by rw [allAmt_two]; exact H.out)).mono ?_; rintro e w' ⟨rfl, rfl⟩)
        go_ret2
        exact ⟨rfl, (Below.refl _ _).alloc (Nat.le_refl _) _⟩
      · rw [timesP_yes h k]
        have k2 : ¬ 1099511627776 / b < a := fun x => k (ht.1 x)
        have k3 : 0 ≤ a * b := Int.mul_nonneg h0 h2
        have H := Lib.hid h; clear h ht
        go_enter Tryd.func16, Tryd.ntmps16
        go_wp2_with (go_at_call 22; refine (amounts_is _ _ _ [a, b] true _ (intsAt_two w a b) (by rw [allAmt_two]; exact H.out)).mono ?_; rintro e w' ⟨rfl, rfl⟩)
        go_ret2
        exact ⟨rfl, (Below.refl _ _).alloc (Nat.le_refl _) _⟩
    · obtain rfl : b = 0 := by omega
      have k : ¬ 1099511627776 < a * 0 := by omega
      rw [timesP_yes h k]
      have H := Lib.hid h; clear h k
      go_enter Tryd.func16, Tryd.ntmps16
      go_wp2_with (go_at_call 22; refine (amounts_is _ _ _ [a, 0] true _ (intsAt_two w a 0) (by rw [allAmt_two]; exact H.out)).mono ?_; rintro e w' ⟨rfl, rfl⟩)
      go_ret2
      exact ⟨by simp, (Below.refl _ _).alloc (Nat.le_refl _) _⟩
  · have h' : (amt a && amt b) = false := by simpa using h
    rw [timesP_no h']
    have H := Lib.hid h'; clear h h'
    go_enter Tryd.func16, Tryd.ntmps16
    go_wp2_with (go_at_call 22; refine (amounts_is _ _ _ [a, b] false _ (intsAt_two w a b) (by rw [allAmt_two]; exact H.out)).mono ?_; rintro e w' ⟨rfl, rfl⟩)
    go_ret2
    exact ⟨rfl, (Below.refl _ _).alloc (Nat.le_refl _) _⟩

theorem shift_any (a b : Int) (w : World) :
    Calls Tryd.prog 14 #[.int .i64 a, .int .i64 b] w fun e w' => e = .returned (.tuple #[.int .i64 (shiftP a b).1, .int .i64 (shiftP a b).2]) ∧ w = w' := by
  rcases amt_cases a with ⟨ea, h0, h1⟩ | ⟨ea, h0⟩
  · by_cases k1 : -1099511627776 ≤ b
    · by_cases k2 : b ≤ 1099511627776
      · rw [shiftP_in ea k1 k2]
        by_cases k3 : a + b < 0
        · rw [if_pos k3]
          have EA := Lib.hid ea; clear ea
          go_enter Tryd.func14, Tryd.ntmps14
          go_wp2_with (go_at_call 12; refine (fit_yes _ _ h0 h1).mono ?_; rintro e w' ⟨rfl, rfl⟩)
          go_ret2
          exact ⟨rfl, rfl⟩
        · rw [if_neg k3]
          by_cases k4 : 1099511627776 < a + b
          · rw [if_pos k4]
            have EA := Lib.hid ea; clear ea
            go_enter Tryd.func14, Tryd.ntmps14
            go_wp2_with (go_at_call 12; refine (fit_yes _ _ h0 h1).mono ?_; rintro e w' ⟨rfl, rfl⟩)
            go_ret2
            exact ⟨rfl, rfl⟩
          · rw [if_neg k4]
            have EA := Lib.hid ea; clear ea
            go_enter Tryd.func14, Tryd.ntmps14
            go_wp2_with (go_at_call 12; refine (fit_yes _ _ h0 h1).mono ?_; rintro e w' ⟨rfl, rfl⟩)
            go_ret2
            exact ⟨rfl, rfl⟩
      · rw [shiftP_no (.inr (.inr (by omega)))]
        have EA := Lib.hid ea; clear ea
        go_enter Tryd.func14, Tryd.ntmps14
        go_wp2_with (go_at_call 12; refine (fit_yes _ _ h0 h1).mono ?_; rintro e w' ⟨rfl, rfl⟩)
        go_ret2
        exact ⟨rfl, rfl⟩
    · rw [shiftP_no (.inr (.inl (by omega)))]
      have EA := Lib.hid ea; clear ea
      go_enter Tryd.func14, Tryd.ntmps14
      go_wp2_with (go_at_call 12; refine (fit_yes _ _ h0 h1).mono ?_; rintro e w' ⟨rfl, rfl⟩)
      go_ret2
      exact ⟨rfl, rfl⟩
  · rw [shiftP_no (.inl ea)]
    have EA := Lib.hid ea; clear ea
    go_enter Tryd.func14, Tryd.ntmps14
    go_wp2_with (go_at_call 12; refine (fit_no _ _ h0).mono ?_; rintro e w' ⟨rfl, rfl⟩)
    go_ret2
    exact ⟨rfl, rfl⟩
end Go.Proofs.YtmieghihapkgeaaDoor
