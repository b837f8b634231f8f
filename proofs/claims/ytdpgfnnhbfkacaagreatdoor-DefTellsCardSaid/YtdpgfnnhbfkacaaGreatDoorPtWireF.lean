/-
  The contracts of wire.length and of the methods of wire.Reader: a reader that stands anywhere, a bad one, none; any bounds.
-/
import Derived.Test.YtdpgfnnhbfkacaaGreatDoorPtWireA
import Derived.Maps.AppendAt
import Derived.OwnWalk
import Derived.Lib.LazyBuf
import Derived.Deep.RegionLaw
import Derived.LoopTactic
set_option linter.unusedVariables false
set_option maxRecDepth 4000
namespace Go.Proofs.YtdpgfnnhbfkacaaGreatDoor.Wire
open Go.RowKit WireP
theorem RdAt.text {w : World} {b : Nat} {st : St} (h : RdAt w b st) : ∃ z : ByteArray, z.data.toList = st.getD [] ∧ z.size ≤ 4398046511104 := by
  obtain ⟨z, h1, h2, h3⟩ := h
  exact ⟨z, h2, h3⟩
end Go.Proofs.YtdpgfnnhbfkacaaGreatDoor.Wire
