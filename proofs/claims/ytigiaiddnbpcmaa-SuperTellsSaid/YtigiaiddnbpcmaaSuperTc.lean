/-
  The contract of SuperTells in the frame's form: it returns true; what was there stays as it was; nothing is asked.
-/
import Derived.Test.YtigiaiddnbpcmaaSuperS
set_option linter.unusedVariables false
namespace Go.Proofs.Ytigiaiddnbpcmaa
open Go.RowKit SuperP
namespace Contract
theorem superTells (x : Sup) (a1 : Option Addr) (l1 c1 : Nat) (b1 : Option Addr) (m1 d1 : Nat) (y : Sup) (a2 : Option Addr) (l2 c2 : Nat) (b2 : Option Addr) (m2 d2 : Nat) (s : ByteArray) (W : World) (w0 : SupIn W x a1 l1 c1 b1 m1 d1) (w1 : SupIn W y a2 l2 c2 b2 m2 d2) (w2 : s.size ≤ maxLen) :
    Calls Try.prog 3 #[supV x (.slice a1 l1 c1) (.slice b1 m1 d1), supV y (.slice a2 l2 c2) (.slice b2 m2 d2), .string s] W fun e w' => e = .returned (.bool true) ∧ Below W.heap.size W w' := by
  unfold maxLen at w2
  cases hf1 : fewB x
  · exact superTells_x x y a1 l1 c1 b1 m1 d1 a2 l2 c2 b2 m2 d2 s W w0.at_ w1.at_ hf1
  · cases hf2 : fewB y
    · exact superTells_y x y a1 l1 c1 b1 m1 d1 a2 l2 c2 b2 m2 d2 s W w0.at_ w1.at_ hf1 hf2
    · by_cases h : s.size ≤ 300
      · exact superTells_walk x y a1 l1 c1 b1 m1 d1 a2 l2 c2 b2 m2 d2 s W w0.at_ w1.at_ hf1 hf2 h w0.n1 w0.n2 w0.g0 w0.g1
      · exact superTells_s x y a1 l1 c1 b1 m1 d1 a2 l2 c2 b2 m2 d2 s W w0.at_ w1.at_ hf1 hf2 (by omega) (by omega)
end Contract
end Go.Proofs.Ytigiaiddnbpcmaa
