/-
  The contract of LinesBack in the frame's form.
-/
import Derived.Test.YtpaemofjeadhcaaGreatDoorLinesFr
import Derived.Test.YtpaemofjeadhcaaGreatDoorLinesBk
set_option linter.unusedVariables false
set_option maxRecDepth 4000
namespace Go.Proofs.YtpaemofjeadhcaaGreatDoor
open Go.RowKit LinesP Lines

theorem laid_of {W : World} (h : laidMetH Tryz.prog Rows.linesBackRow.laid W) (hs : W.ShapedOpen Tryz.prog) : Laid W := laid_list (by kernel_rfl) h hs
namespace Contract
theorem linesBack (a0 : Option Addr) (len0 cap0 : Nat) (a1 : ByteArray) (W : World) (w0 : IsLine W a0 len0 cap0) (w1 : a1.size ≤ maxLen) (ht : Laid W) :
    Calls Tryz.prog 5 #[.slice a0 len0 cap0, .string a1] W fun e w' => e = .returned (.bool true) ∧ Below W.heap.size W w' := by
  obtain ⟨l, h1, h2⟩ := w0
  unfold maxLen at w1
  exact linesBack_walk a0 len0 cap0 l a1 W h1 h2 w1 ht
end Contract
end Go.Proofs.YtpaemofjeadhcaaGreatDoor
