/-
  The contracts of num.Fit, num.Less, num.Shift, num.Times and of the document's: for any numbers of 64 bits; the world is as it was.
-/
import Derived.Test.YtamcidlkbhanfaaNumPlain
import Derived.Test.YtamcidlkbhanfaaChecked
import Derived.WalkKit
import Derived.WalkLawsBesides
import Derived.WalkSpells
import Derived.BigQuiet
set_option maxRecDepth 4000
namespace Go.Proofs.Ytamcidlkbhanfaa.Num
open Go.RowKit NumP

theorem fit_yes (n : Int) (w : World) (h : 0 ≤ n) (k : n ≤ 1099511627776) :
    Calls Try.prog 62 #[.int .i64 n] w fun e w' => e = .returned (.bool true) ∧ w = w' := by
  go_enter Try.func62, Try.ntmps62
  go_wp2
  go_ret
  exact ⟨rfl, rfl⟩
theorem fit_no (n : Int) (w : World) (h : n < 0 ∨ 1099511627776 < n) :
    Calls Try.prog 62 #[.int .i64 n] w fun e w' => e = .returned (.bool false) ∧ w = w' := by
  rcases h with h | h
  · go_enter Try.func62, Try.ntmps62
    go_wp2
    go_ret
    exact ⟨rfl, rfl⟩
  · have h0 : 0 ≤ n := by omega
    have h1 : decide (n ≤ 1099511627776) = false := by simp; omega
    go_enter Try.func62, Try.ntmps62
    go_wp2
    go_ret
    exact ⟨rfl, rfl⟩
theorem fit_any (n : Int) (w : World) : Calls Try.prog 62 #[.int .i64 n] w fun e w' => e = .returned (.bool (amt n)) ∧ w = w' := by
  rcases amt_cases n with ⟨e, h, k⟩ | ⟨e, h⟩
  · rw [e]; exact fit_yes n w h k
  · rw [e]; exact fit_no n w h
theorem rfit_yes (n : Int) (w : World) (h : 0 ≤ n) (k : n ≤ 1099511627776) :
    Calls Try.prog 52 #[.int .i64 n] w fun e w' => e = .returned (.bool true) ∧ w = w' := by
  go_enter Try.func52, Try.ntmps52
  go_wp2
  go_ret
  exact ⟨rfl, rfl⟩
theorem rfit_no (n : Int) (w : World) (h : n < 0 ∨ 1099511627776 < n) :
    Calls Try.prog 52 #[.int .i64 n] w fun e w' => e = .returned (.bool false) ∧ w = w' := by
  rcases h with h | h
  · go_enter Try.func52, Try.ntmps52
    go_wp2
    go_ret
    exact ⟨rfl, rfl⟩
  · have h0 : 0 ≤ n := by omega
    have h1 : decide (n ≤ 1099511627776) = false := by simp; omega
    go_enter Try.func52, Try.ntmps52
    go_wp2
    go_ret
    exact ⟨rfl, rfl⟩
theorem rfit_any (n : Int) (w : World) : Calls Try.prog 52 #[.int .i64 n] w fun e w' => e = .returned (.bool (amt n)) ∧ w = w' := by
  rcases amt_cases n with ⟨e, h, k⟩ | ⟨e, h⟩
  · rw [e]; exact rfit_yes n w h k
  · rw [e]; exact rfit_no n w h

/-- A slice of integers, told of its first 'len' cells. -/
def IntsAt (w : World) (a : Option Addr) (len : Nat) (xs : List Int) : Prop :=
  xs.length = len ∧ len ≤ 9223372036854775807 ∧ (len = 0 ∨ ∃ b off, a = some ⟨b, off, none⟩ ∧ ∀ i, i < len → w.cell? ⟨b, off + i, none⟩ = some (.int .i64 (xs.getD i 0)))

end Go.Proofs.Ytamcidlkbhanfaa.Num
