/-
  The contracts of SegsTell and SegsApart in the frame's form.
-/
import Derived.Test.YtklklcohbfnpjaaSegsD
set_option linter.unusedVariables false
namespace Go.Proofs.Ytklklcohbfnpjaa
open Go.RowKit SegsP
namespace Contract
theorem segsTell (a0 : Int) (a1 : Option Addr) (len1 cap1 : Nat) (z1 : List Int) (W : World) (w0 : (Lit.int .i64 a0).wf = true) (w1 : IsRow .i64 W a1 len1 cap1 z1) :
    Calls Try.prog 3 #[.int .i64 a0, .slice a1 len1 cap1] W fun e w' => e = .returned (.bool true) ∧ Below W.heap.size W w' := by
  have h0 := bounds_i64 w0
  have h1 := Ints.isRow_at w1
  exact segsTell_walk a0 a1 len1 cap1 _ W h0.1 h0.2 h1.1 h1.2
theorem segsApart (a0 a1 a2 : Int) (W : World) (w0 : (Lit.int .i64 a0).wf = true) (w1 : (Lit.int .i64 a1).wf = true) (w2 : (Lit.int .i64 a2).wf = true) :
    Calls Try.prog 5 #[.int .i64 a0, .int .i64 a1, .int .i64 a2] W fun e w' => e = .returned (.bool true) ∧ Below W.heap.size W w' := by
  have h0 := bounds_i64 w0
  have h1 := bounds_i64 w1
  have h2 := bounds_i64 w2
  exact segsApart_walk a0 a1 a2 W h0.1 h0.2 h1.1 h1.2 h2.1 h2.2
end Contract
end Go.Proofs.Ytklklcohbfnpjaa
