/-
  Appending to a slice of a defined type ('type words []string'): the types of both slices differ, their elements do not; strings as elements.
-/
import Derived.Test.YtdpgfnnhbfkacaaGreatDoorPbRw
set_option linter.unusedVariables false
namespace Go.Proofs.YtdpgfnnhbfkacaaGreatDoor.Rw
open Go.RowKit
variable {T : Type} {S : Sh T}
def strS : Sh ByteArray where
  c := fun s => [.string s]
  z := ⟨#[]⟩
  zv := .string ⟨#[]⟩
  ts := 59
  te := 9
  k := 1
  bytes := 16
  pos := by decide
  small := by decide
  len := fun t => rfl
  one := fun t u hu => by
    rw [List.mem_singleton] at hu
    subst hu
    rfl
  zcells := rfl
  und := Tryz.underlying59
  info := by kernel_rfl
theorem str_get {xs : List ByteArray} {j : Nat} {x : ByteArray} (h : xs[j]? = some x) : (cells strS xs)[j]? = some (.string x) := by
  have := cells_get strS xs j x h 0 (.string x) rfl
  rw [show strS.k = 1 from rfl, Nat.mul_one, Nat.add_zero] at this
  exact this
end Go.Proofs.YtdpgfnnhbfkacaaGreatDoor.Rw
