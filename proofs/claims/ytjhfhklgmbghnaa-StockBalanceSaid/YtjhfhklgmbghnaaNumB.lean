/-
  The contracts of num.Less, num.Times, num.Shift and of the document's: any numbers of 64 bits; what was there stays as it was.
-/
import Derived.Test.YtjhfhklgmbghnaaNumA
import Derived.Outline
import Derived.Deep.DeepMust
set_option maxRecDepth 4000
namespace Go.Proofs.Ytjhfhklgmbghnaa.Num
open Go.RowKit NumP

theorem intsAt_two (w : World) (a b : Int) : IntsAt (w.alloc (.cells #[.int .i64 a, .int .i64 b] 3)) (some ⟨w.heap.size, 0, none⟩) 2 [a, b] := by
  refine ⟨rfl, by omega, .inr ⟨_, _, rfl, fun i hi => ?_⟩⟩
  rw [Nat.zero_add, World.cell?_alloc_new]
  rcases i with _ | _ | i
  · rfl
  · rfl
  · omega
theorem amounts_is (a : Option Addr) (len cap : Nat) (xs : List Int) (v : Bool) (w : World) (h : IntsAt w a len xs) (hv : allAmt xs = v) :
    Calls Try.prog 34 #[.slice a len cap] w fun e w' => e = .returned (.bool v) ∧ w = w' := by
  subst hv; exact amounts_any a len cap xs w h

theorem shift_any (a b : Int) (w : World) :
    Calls Try.prog 38 #[.int .i64 a, .int .i64 b] w fun e w' => e = .returned (.tuple #[.int .i64 (shiftP a b).1, .int .i64 (shiftP a b).2]) ∧ w = w' := by
  rcases amt_cases a with ⟨ea, h0, h1⟩ | ⟨ea, h0⟩
  · by_cases k1 : -1099511627776 ≤ b
    · by_cases k2 : b ≤ 1099511627776
      · rw [shiftP_in ea k1 k2]
        by_cases k3 : a + b < 0
        · rw [if_pos k3]
          have EA := Lib.hid ea; clear ea
          go_enter Try.func38, Try.ntmps38
          go_wp2_with (go_at_call 39; refine (fit_yes _ _ h0 h1).mono ?_; rintro e w' ⟨rfl, rfl⟩)
          go_ret2
          exact ⟨rfl, rfl⟩
        · rw [if_neg k3]
          by_cases k4 : 1099511627776 < a + b
          · rw [if_pos k4]
            have EA := Lib.hid ea; clear ea
            go_enter Try.func38, Try.ntmps38
            go_wp2_with (go_at_call 39; refine (fit_yes _ _ h0 h1).mono ?_; rintro e w' ⟨rfl, rfl⟩)
            go_ret2
            exact ⟨rfl, rfl⟩
          · rw [if_neg k4]
            have EA := Lib.hid ea; clear ea
            go_enter Try.func38, Try.ntmps38
            go_wp2_with (go_at_call 39; refine (fit_yes _ _ h0 h1).mono ?_; rintro e w' ⟨rfl, rfl⟩)
            go_ret2
            exact ⟨rfl, rfl⟩
      · rw [shiftP_no (.inr (.inr (by omega)))]
        have EA := Lib.hid ea; clear ea
        go_enter Try.func38, Try.ntmps38
        go_wp2_with (go_at_call 39; refine (fit_yes _ _ h0 h1).mono ?_; rintro e w' ⟨rfl, rfl⟩)
        go_ret2
        exact ⟨rfl, rfl⟩
    · rw [shiftP_no (.inr (.inl (by omega)))]
      have EA := Lib.hid ea; clear ea
      go_enter Try.func38, Try.ntmps38
      go_wp2_with (go_at_call 39; refine (fit_yes _ _ h0 h1).mono ?_; rintro e w' ⟨rfl, rfl⟩)
      go_ret2
      exact ⟨rfl, rfl⟩
  · rw [shiftP_no (.inl ea)]
    have EA := Lib.hid ea; clear ea
    go_enter Try.func38, Try.ntmps38
    go_wp2_with (go_at_call 39; refine (fit_no _ _ h0).mono ?_; rintro e w' ⟨rfl, rfl⟩)
    go_ret2
    exact ⟨rfl, rfl⟩
end Go.Proofs.Ytjhfhklgmbghnaa.Num
