/-
  The contracts of back's functions and of the document's: any numbers; nothing is touched.
-/
import Derived.Test.YtdpgfnnhbfkacaaGreatDoorPbBackPlain
import Derived.Test.YtdpgfnnhbfkacaaGreatDoorChecked
import Derived.WalkKit
import Derived.Lib.Hide
import Derived.Below
import Derived.WalkLawsBesides
import Derived.WalkSpells
import Derived.BigQuiet
import Derived.LoopTactic
import Derived.WalkMore
set_option linter.unusedVariables false
set_option maxRecDepth 4000
namespace Go.Proofs.YtdpgfnnhbfkacaaGreatDoor.Back
open Go.RowKit BackP
theorem fit_no {t b c : Int} (h : ¬ (0 ≤ t ∧ t ≤ 5 ∧ 1 ≤ c ∧ c ≤ 32 ∧ 1 ≤ b ∧ b ≤ c)) : fitV t b c = false := by
  cases e : fitV t b c with
  | false => rfl
  | true => exact absurd (fitV_iff.1 e) h
theorem paced_any (b c : Int) (w : World) : Calls Tryz.prog 111 #[.int .i64 b, .int .i64 c] w fun e w' => e = .returned (.bool (fitV 0 b c)) ∧ w = w' := by
  by_cases h1 : 1 ≤ b
  · by_cases h2 : b ≤ c
    · by_cases h3 : c ≤ 32
      · rw [fitV_iff.2 (by omega)]
        go_enter Tryz.func111, Tryz.ntmps111
        go_wp2
        go_ret
        exact ⟨rfl, rfl⟩
      · rw [fit_no (by omega)]
        go_enter Tryz.func111, Tryz.ntmps111
        go_wp2
        go_ret
        exact ⟨rfl, rfl⟩
    · rw [fit_no (by omega)]
      go_enter Tryz.func111, Tryz.ntmps111
      go_wp2
      go_ret
      exact ⟨rfl, rfl⟩
  · rw [fit_no (by omega)]
    go_enter Tryz.func111, Tryz.ntmps111
    go_wp2
    go_ret
    exact ⟨rfl, rfl⟩
theorem fit_any (t b c : Int) (w : World) : Calls Tryz.prog 82 #[.int .i64 t, .int .i64 b, .int .i64 c] w fun e w' => e = .returned (.bool (fitV t b c)) ∧ w = w' := by
  by_cases h1 : 0 ≤ t
  · by_cases h2 : t ≤ 5
    · have e : fitV t b c = fitV 0 b c := by
        cases e : fitV 0 b c with
        | true => rw [fitV_iff] at e ⊢; omega
        | false => exact fit_no fun h => by rw [fitV_iff.2 (show 0 ≤ (0 : Int) ∧ (0 : Int) ≤ 5 ∧ 1 ≤ c ∧ c ≤ 32 ∧ 1 ≤ b ∧ b ≤ c by omega)] at e; cases e
      rw [e]; clear e
      have h := paced_any b c
      generalize fitV 0 b c = v at *
      have H := Lib.hid h; clear h
      go_enter Tryz.func82, Tryz.ntmps82
      go_wp2_with fail
      refine (H.out _).mono ?_
      rintro e w' ⟨rfl, rfl⟩
      go_wp2_with fail
      go_ret
      exact ⟨rfl, rfl⟩
    · rw [fit_no (by omega)]
      go_enter Tryz.func82, Tryz.ntmps82
      go_wp2
      go_ret
      exact ⟨rfl, rfl⟩
  · rw [fit_no (by omega)]
    go_enter Tryz.func82, Tryz.ntmps82
    go_wp2
    go_ret
    exact ⟨rfl, rfl⟩
end Go.Proofs.YtdpgfnnhbfkacaaGreatDoor.Back
