/-
  The contract of the laws' own 'awake': the chapter's examples; what was there stays as it was. And the readers' contracts in the form that the laws' walks take.
-/
import Derived.Test.YtdpgfnnhbfkacaaGreatDoorPtWireC
import Derived.Test.YtdpgfnnhbfkacaaGreatDoorPtWireF
set_option linter.unusedVariables false
set_option maxRecDepth 4000
namespace Go.Proofs.YtdpgfnnhbfkacaaGreatDoor.Wire
open Go.RowKit WireP
theorem int_is (n : Int) (z : ByteArray) (w : World) (h0 : -9223372036854775808 ≤ n) (h1 : n ≤ 9223372036854775807) (h : enc n = z.data.toList) :
    Calls Tryz.prog 60 #[.int .i64 n] w fun e w' => e = .returned (.string z) ∧ Below w.heap.size w w' := by
  have h2 := int_any n w h0 h1
  rw [h, ← str_eq (s := z) rfl] at h2
  exact h2
theorem text_is (s z : ByteArray) (w : World) (hs : s.size ≤ 4398046511104) (h : text s.data.toList = z.data.toList) :
    Calls Tryz.prog 59 #[.string s] w fun e w' => e = .returned (.string z) ∧ Below w.heap.size w w' := by
  have h2 := text_any s w hs
  rw [h, ← str_eq (s := z) rfl] at h2
  exact h2
def RdStep (w : World) (b : Nat) (st : St) (w' : World) : Prop := RdAt w' b st ∧ w.grownBy w' (some b)
theorem below_keep {B : Nat} {a b c : World} (h : Below B a b) (k : Below b.heap.size b c) (hB : B ≤ b.heap.size) : Below B a c := h.trans (k.mono hB)
end Go.Proofs.YtdpgfnnhbfkacaaGreatDoor.Wire
