/-
  Plain facts of back: policies, delays, their sum; numbers alone, nothing of the program.
-/
import Derived.Test.YtdpgfnnhbfkacaaGreatDoorChecked
set_option linter.unusedVariables false
set_option maxRecDepth 4000
namespace Go.Proofs.YtdpgfnnhbfkacaaGreatDoor
namespace BackP

def fitV (t b c : Int) : Bool := decide (0 ≤ t) && decide (t ≤ 5) && decide (1 ≤ c) && decide (c ≤ 32) && decide (1 ≤ b) && decide (b ≤ c)
theorem fitV_iff {t b c : Int} : fitV t b c = true ↔ 0 ≤ t ∧ t ≤ 5 ∧ 1 ≤ c ∧ c ≤ 32 ∧ 1 ≤ b ∧ b ≤ c := by
  unfold fitV
  simp only [Bool.and_eq_true, decide_eq_true_eq, and_assoc]
end BackP
end Go.Proofs.YtdpgfnnhbfkacaaGreatDoor
