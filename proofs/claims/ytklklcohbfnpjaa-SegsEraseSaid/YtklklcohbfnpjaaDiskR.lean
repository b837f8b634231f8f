/-
  The contract of the document's Load: any texts.
-/
import Derived.Test.YtklklcohbfnpjaaDiskQ
set_option linter.unusedVariables false
set_option maxRecDepth 4000
namespace Go.Proofs.Ytklklcohbfnpjaa
open Go.RowKit DiskP

/-- Why there is none, or the disk of these sectors; m: the first text that is no sector. -/
def RLoaded (w : World) (m len : Nat) (ss : List ByteArray) (e : Ending) (w' : World) : Prop :=
  (m < len ∧ e = .returned (.tuple #[.pointer none, .int .i64 9]) ∧ Below w.heap.size w w') ∨ (m = len ∧ RMade w ss e w')
theorem take_snoc {ss : List ByteArray} {j : Nat} (h : j < ss.length) : ss.take j ++ [ss.getD j ByteArray.empty] = ss.take (j + 1) := by
  rw [List.take_succ_eq_append_getElem h]; simp [List.getD, h]
end Go.Proofs.Ytklklcohbfnpjaa
