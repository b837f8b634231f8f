/-
  The contract of SegsErase in the frame's form.
-/
import Derived.Test.YtklklcohbfnpjaaSegsH
set_option linter.unusedVariables false
namespace Go.Proofs.Ytklklcohbfnpjaa
open Go.RowKit DiskP SegsP
namespace Contract
theorem segsErase (a0 : Option Addr) (len0 cap0 : Nat) (a1 : Option Addr) (len1 cap1 : Nat) (z1 : List Int) (a2 : Int) (W : World) (w0 : IsAct W a0 len0 cap0) (w1 : IsRow .i64 W a1 len1 cap1 z1) (w2 : (Lit.int .u8 a2).wf = true) :
    Calls Try.prog 4 #[.slice a0 len0 cap0, .slice a1 len1 cap1, .int .u8 a2] W fun e w' => e = .returned (.bool true) ∧ Below W.heap.size W w' := by
  obtain ⟨f, hA⟩ := w0
  have h1 := Ints.isRow_at w1
  have h2 := bounds_u8 w2
  obtain ⟨z, rfl⟩ : ∃ z : Nat, a2 = (z : Int) := ⟨a2.toNat, by omega⟩
  exact segsErase_walk a0 len0 cap0 f a1 len1 cap1 _ z W hA h1.1 h1.2 (by omega)
end Contract
end Go.Proofs.Ytklklcohbfnpjaa
