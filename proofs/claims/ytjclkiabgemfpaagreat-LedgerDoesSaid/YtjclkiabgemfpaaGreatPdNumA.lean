/-
  The contracts of num.Fit, num.Less, num.Shift, num.Times and of the document's: for any numbers of 64 bits; the world is as it was.
-/
import Derived.Test.YtjclkiabgemfpaaGreatPdNumPlain
import Derived.Test.YtjclkiabgemfpaaGreatChecked
import Derived.WalkKit
import Derived.WalkLawsBesides
import Derived.WalkSpells
import Derived.BigQuiet
set_option maxRecDepth 4000
namespace Go.Proofs.YtjclkiabgemfpaaGreat.Num
open Go.RowKit NumP
theorem fit_yes (n : Int) (w : World) (h : 0 ≤ n) (k : n ≤ 1099511627776) :
    Calls Tryz.prog 107 #[.int .i64 n] w fun e w' => e = .returned (.bool true) ∧ w = w' := by
  go_enter Tryz.func107, Tryz.ntmps107
  go_wp2
  go_ret
  exact ⟨rfl, rfl⟩
theorem fit_no (n : Int) (w : World) (h : n < 0 ∨ 1099511627776 < n) :
    Calls Tryz.prog 107 #[.int .i64 n] w fun e w' => e = .returned (.bool false) ∧ w = w' := by
  rcases h with h | h
  · go_enter Tryz.func107, Tryz.ntmps107
    go_wp2
    go_ret
    exact ⟨rfl, rfl⟩
  · have h0 : 0 ≤ n := by omega
    have h1 : decide (n ≤ 1099511627776) = false := by simp; omega
    go_enter Tryz.func107, Tryz.ntmps107
    go_wp2
    go_ret
    exact ⟨rfl, rfl⟩
theorem fit_any (n : Int) (w : World) : Calls Tryz.prog 107 #[.int .i64 n] w fun e w' => e = .returned (.bool (amt n)) ∧ w = w' := by
  rcases amt_cases n with ⟨e, h, k⟩ | ⟨e, h⟩
  · rw [e]; exact fit_yes n w h k
  · rw [e]; exact fit_no n w h
theorem rfit_yes (n : Int) (w : World) (h : 0 ≤ n) (k : n ≤ 1099511627776) :
    Calls Tryz.prog 76 #[.int .i64 n] w fun e w' => e = .returned (.bool true) ∧ w = w' := by
  go_enter Tryz.func76, Tryz.ntmps76
  go_wp2
  go_ret
  exact ⟨rfl, rfl⟩
theorem rfit_no (n : Int) (w : World) (h : n < 0 ∨ 1099511627776 < n) :
    Calls Tryz.prog 76 #[.int .i64 n] w fun e w' => e = .returned (.bool false) ∧ w = w' := by
  rcases h with h | h
  · go_enter Tryz.func76, Tryz.ntmps76
    go_wp2
    go_ret
    exact ⟨rfl, rfl⟩
  · have h0 : 0 ≤ n := by omega
    have h1 : decide (n ≤ 1099511627776) = false := by simp; omega
    go_enter Tryz.func76, Tryz.ntmps76
    go_wp2
    go_ret
    exact ⟨rfl, rfl⟩
theorem rfit_any (n : Int) (w : World) : Calls Tryz.prog 76 #[.int .i64 n] w fun e w' => e = .returned (.bool (amt n)) ∧ w = w' := by
  rcases amt_cases n with ⟨e, h, k⟩ | ⟨e, h⟩
  · rw [e]; exact rfit_yes n w h k
  · rw [e]; exact rfit_no n w h

def IntsAt (w : World) (a : Option Addr) (len : Nat) (xs : List Int) : Prop :=
  xs.length = len ∧ len ≤ 9223372036854775807 ∧ (len = 0 ∨ ∃ b off, a = some ⟨b, off, none⟩ ∧ ∀ i, i < len → w.cell? ⟨b, off + i, none⟩ = some (.int .i64 (xs.getD i 0)))

theorem amounts_any (a : Option Addr) (len cap : Nat) (xs : List Int) (w : World) (h : IntsAt w a len xs) :
    Calls Tryz.prog 118 #[.slice a len cap] w fun e w' => e = .returned (.bool (allAmt xs)) ∧ w = w' := by
  obtain ⟨hlen, hbig, hc⟩ := h
  have HL := Lib.hid hlen; clear hlen
  have HC := Lib.hid hc; clear hc
  go_enter Tryz.func118, Tryz.ntmps118
  go_wp2
  go_loop [7] (fun i => ∃ k : Nat, k ≤ len ∧ i = .int .i64 k ∧ Hid (allAmt xs = allAmt (xs.drop k))) (fun i => len - (intOf i).toNat)
  case atStart => exact ⟨0, Nat.zero_le _, rfl, rfl⟩
  case round =>
    obtain ⟨k, hk, rfl, hd⟩ := hrel
    by_cases hlt : k < len
    · have hlx : k < xs.length := by rw [HL.out]; exact hlt
      rcases HC.out with h0 | ⟨b, off, rfl, hcell⟩
      · omega
      have hg := hcell k hlt
      generalize hx : xs.getD k 0 = x at *
      have HX := Lib.hid hx; clear hx
      clear HC hcell
      rcases amt_cases x with ⟨e, h0, h1⟩ | ⟨e, h0⟩
      · have HE := Lib.hid e; clear e
        go_wp2_with (go_at_call 107; refine (fit_yes _ _ h0 h1).mono ?_; rintro e w' ⟨rfl, rfl⟩)
        go_round
        case rel => exact ⟨k + 1, by omega, by go_num, hd.out.trans (allAmt_drop_yes hlx (by rw [HX.out]; exact HE.out))⟩
        case measure => simp [intOf]; omega
      · have HE := Lib.hid e; clear e
        go_wp2_with (go_at_call 107; refine (fit_no _ _ h0).mono ?_; rintro e w' ⟨rfl, rfl⟩)
        go_ret
        rw [hd.out, allAmt_drop_no hlx (by rw [HX.out]; exact HE.out)]
        exact ⟨rfl, rfl⟩
    · go_wp2
      go_ret
      rw [hd.out, allAmt_drop_done (by rw [HL.out]; exact hlt)]
      exact ⟨rfl, rfl⟩
end Go.Proofs.YtjclkiabgemfpaaGreat.Num
