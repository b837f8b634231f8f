/-
  The contract of SuperBack in the frame's form: it returns true; what was there stays as it was; nothing is asked.
-/
import Derived.Test.YtigiaiddnbpcmaaSuperR
set_option linter.unusedVariables false
namespace Go.Proofs.Ytigiaiddnbpcmaa
open Go.RowKit SuperP
namespace Contract
theorem superBack (x : Sup) (b1 : Option Addr) (l1 c1 : Nat) (b2 : Option Addr) (l2 c2 : Nat) (a1 : ByteArray) (W : World) (w0 : SupIn W x b1 l1 c1 b2 l2 c2) (w1 : a1.size ≤ maxLen) :
    Calls Try.prog 5 #[supV x (.slice b1 l1 c1) (.slice b2 l2 c2), .string a1] W fun e w' => e = .returned (.bool true) ∧ Below W.heap.size W w' := by
  unfold maxLen at w1
  cases hf : fewB x
  · exact superBack_many x b1 b2 l1 c1 l2 c2 a1 W w0.at_ hf
  · by_cases h : a1.size ≤ 300
    · exact superBack_walk x b1 b2 l1 c1 l2 c2 a1 W w0.at_ hf h
    · exact superBack_long x b1 b2 l1 c1 l2 c2 a1 W w0.at_ hf (by omega) (by omega)
end Contract
end Go.Proofs.Ytigiaiddnbpcmaa
