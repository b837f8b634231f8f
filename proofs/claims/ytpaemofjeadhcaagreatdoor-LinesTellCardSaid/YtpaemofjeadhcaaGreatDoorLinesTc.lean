/-
  The contract of LinesTell in the frame's form.
-/
import Derived.Test.YtpaemofjeadhcaaGreatDoorLinesFr
import Derived.Test.YtpaemofjeadhcaaGreatDoorLinesT
set_option linter.unusedVariables false
set_option maxRecDepth 4000
namespace Go.Proofs.YtpaemofjeadhcaaGreatDoor
open Go.RowKit LinesP Lines

theorem laid_of {W : World} (h : laidMetH Tryz.prog Rows.linesTellRow.laid W) (hs : W.ShapedOpen Tryz.prog) : Laid W := laid_list (by kernel_rfl) h hs
namespace Contract
theorem linesTell (a0 : Option Addr) (len0 cap0 : Nat) (a1 : Option Addr) (len1 cap1 : Nat) (a2 : ByteArray) (W : World) (w0 : IsLine W a0 len0 cap0) (w1 : IsLine W a1 len1 cap1) (w2 : a2.size ≤ maxLen) (ht : Laid W) :
    Calls Tryz.prog 3 #[.slice a0 len0 cap0, .slice a1 len1 cap1, .string a2] W fun e w' => e = .returned (.bool true) ∧ Below W.heap.size W w' := by
  obtain ⟨l, h1, h2⟩ := w0
  obtain ⟨m, h3, h4⟩ := w1
  unfold maxLen at w2
  exact linesTell_walk a0 a1 len0 cap0 len1 cap1 l m a2 W h1 h3 h2 h4 w2 ht
end Contract
end Go.Proofs.YtpaemofjeadhcaaGreatDoor
