/-
  What a law of def is told of what came in: a definition by value, the library's variables; the document's Few.
-/
import Derived.Test.YtdpgfnnhbfkacaaGreatDoorPrDefH
import Derived.Test.YtdpgfnnhbfkacaaGreatDoorRows
import Derived.OpenShut
import Derived.Deep.Slices
import Derived.WideShapes
import Derived.LaidHandle
import Derived.LaidSub
import Derived.Lib.LaidTab
set_option linter.unusedVariables false
set_option maxRecDepth 4000
namespace Go.Proofs.YtdpgfnnhbfkacaaGreatDoor
open Go.RowKit DefP
open Def (StAt stS scell dv)

theorem maxLen_of {W : World} (h : W.ShapedOpen Tryz.prog) : ∃ m, W.cell? ⟨0, 0, none⟩ = some (.int .i64 m) :=
  cell_of_shapedOpen_int (zero := #[.int .i64 0]) (t := 3) h (of_decide_eq_true (by kernel_rfl)) (by kernel_rfl) rfl (by kernel_rfl) (by kernel_rfl) Tryz.underlying3
namespace Def
open Kt
end Def
end Go.Proofs.YtdpgfnnhbfkacaaGreatDoor
