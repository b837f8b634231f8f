/-
  The contract of LinesNorm in the frame's form.
-/
import Derived.Test.YtpaemofjeadhcaaDoorLinesFr
import Derived.Test.YtpaemofjeadhcaaDoorLinesN
set_option linter.unusedVariables false
set_option maxRecDepth 4000
set_option maxRecDepth 4000
namespace Go.Proofs.YtpaemofjeadhcaaDoor
open Go.RowKit LinesP Lines

theorem laid_of {W : World} (h : laidMetH Tryd.prog Rows.linesNormRow.laid W) (hs : W.ShapedOpen Tryd.prog) : Laid W := laid_list (by kernel_rfl) h hs
namespace Contract
theorem linesNorm (a0 : Option Addr) (len0 cap0 : Nat) (W : World) (w0 : IsLine W a0 len0 cap0) (ht : Laid W) :
    Calls Tryd.prog 3 #[.slice a0 len0 cap0] W fun e w' => e = .returned (.bool true) ∧ Below W.heap.size W w' := by
  obtain ⟨l, h1, h2⟩ := w0
  exact linesNorm_walk a0 len0 cap0 l W h1 h2 ht
end Contract
end Go.Proofs.YtpaemofjeadhcaaDoor
