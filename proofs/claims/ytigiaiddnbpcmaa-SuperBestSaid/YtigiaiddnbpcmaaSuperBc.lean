/-
  The contract of SuperBest in the frame's form: it returns true; what was there stays as it was; nothing is asked.
-/
import Derived.Test.YtigiaiddnbpcmaaSuperP
import Derived.OpenShut
import Derived.Lib.SmallJoins
set_option linter.unusedVariables false
namespace Go.Proofs.Ytigiaiddnbpcmaa
open Go.RowKit SuperP
namespace Contract
theorem superBest (a0 a1 : ByteArray) (W : World) (w0 : a0.size ≤ maxLen) (w1 : a1.size ≤ maxLen) :
    Calls Try.prog 4 #[.string a0, .string a1] W fun e w' => e = .returned (.bool true) ∧ Below W.heap.size W w' := by
  unfold maxLen at w0 w1
  by_cases h : a0.size ≤ 300 ∧ a1.size ≤ 300
  · exact superBest_walk a0 a1 W h.1 h.2
  · exact superBest_long a0 a1 W h (by omega) (by omega)
end Contract
end Go.Proofs.Ytigiaiddnbpcmaa
