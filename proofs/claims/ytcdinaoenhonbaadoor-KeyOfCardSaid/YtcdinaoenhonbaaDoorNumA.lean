/-
  The contracts of num.Fit, num.Less, num.Shift, num.Times and of the document's: for any numbers of 64 bits; the world is as it was.
-/
import Derived.Test.YtcdinaoenhonbaaDoorNumPlain
import Derived.Test.YtcdinaoenhonbaaDoorChecked
import Derived.WalkKit
import Derived.WalkLawsBesides
import Derived.WalkSpells
import Derived.BigQuiet
set_option maxRecDepth 4000
namespace Go.Proofs.YtcdinaoenhonbaaDoor.Num
open Go.RowKit NumP

/-- A slice of integers, told of its first 'len' cells. -/
def IntsAt (w : World) (a : Option Addr) (len : Nat) (xs : List Int) : Prop :=
  xs.length = len ∧ len ≤ 9223372036854775807 ∧ (len = 0 ∨ ∃ b off, a = some ⟨b, off, none⟩ ∧ ∀ i, i < len → w.cell? ⟨b, off + i, none⟩ = some (.int .i64 (xs.getD i 0)))

end Go.Proofs.YtcdinaoenhonbaaDoor.Num
