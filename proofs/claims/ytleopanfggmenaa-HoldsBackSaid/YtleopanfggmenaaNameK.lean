/-
  The contract of the laws' own 'awake': the chapter's examples; what was there stays as it was.
-/
import Derived.Test.YtleopanfggmenaaNameG
import Derived.Test.YtleopanfggmenaaNameD
set_option linter.unusedVariables false
set_option maxRecDepth 4000
namespace Go.Proofs.Ytleopanfggmenaa.Name
open Go.RowKit NameP

theorem fit_is (s : ByteArray) (b : Bool) (w : World) (hs : s.size ≤ 4398046511104) (h : fitV (vals s.data.toList) = b) :
    Calls Try.prog 44 #[.string s] w fun e w' => e = .returned (.bool b) ∧ Below w.heap.size w w' := by
  have h2 := fit_any s w hs
  rw [h] at h2
  exact h2
theorem rune_is (c : Int) (b : Bool) (w : World) (h : nr c = b) : Calls Try.prog 47 #[.int .i32 c] w fun e w' => e = .returned (.bool b) ∧ w = w' := by
  have h2 := rune_any c w
  rw [h] at h2
  exact h2
end Go.Proofs.Ytleopanfggmenaa.Name
