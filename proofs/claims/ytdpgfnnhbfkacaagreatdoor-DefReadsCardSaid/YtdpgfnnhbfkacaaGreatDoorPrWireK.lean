/-
  The contract of the laws' own 'awake': the chapter's examples; what was there stays as it was. And the readers' contracts in the form that the laws' walks take.
-/
import Derived.Test.YtdpgfnnhbfkacaaGreatDoorPrWireE
import Derived.Test.YtdpgfnnhbfkacaaGreatDoorPrWireF
set_option linter.unusedVariables false
set_option maxRecDepth 4000
namespace Go.Proofs.YtdpgfnnhbfkacaaGreatDoor.Wire
open Go.RowKit WireP
def RdStep (w : World) (b : Nat) (st : St) (w' : World) : Prop := RdAt w' b st ∧ w.grownBy w' (some b)
theorem rdint_is (b : Nat) (st st' : St) (lo hi n : Int) (w : World) (h : RdAt w b st) (hr : rdInt lo hi st = (n, st')) :
    Calls Tryz.prog 108 #[.pointer (some ⟨b, 0, none⟩), .int .i64 lo, .int .i64 hi] w fun e w' => e = .returned (.int .i64 n) ∧ RdStep w b st' w' := by
  have h2 := rdint_any b st lo hi w h
  rw [hr] at h2
  exact h2
theorem rdtext_is (b : Nat) (st st' : St) (most : Int) (z : ByteArray) (w : World) (h : RdAt w b st) (hr : rdText most st = (z.data.toList, st')) :
    Calls Tryz.prog 73 #[.pointer (some ⟨b, 0, none⟩), .int .i64 most] w fun e w' => e = .returned (.string z) ∧ RdStep w b st' w' := by
  have h2 := rdtext_any b st most w h
  rw [hr, ← str_eq (s := z) rfl] at h2
  exact h2
theorem rdlist_is (b : Nat) (st st' : St) (most n : Int) (w : World) (h : RdAt w b st) (hr : rdList most st = (n, st')) :
    Calls Tryz.prog 74 #[.pointer (some ⟨b, 0, none⟩), .int .i64 most] w fun e w' => e = .returned (.int .i64 n) ∧ RdStep w b st' w' := by
  have h2 := rdlist_any b st most w h
  rw [hr] at h2
  exact h2
theorem rddone_is (b : Nat) (st : St) (v : Bool) (w : World) (h : RdAt w b st) (hr : done st = v) :
    Calls Tryz.prog 27 #[.pointer (some ⟨b, 0, none⟩)] w fun e w' => e = .returned (.bool v) ∧ Below w.heap.size w w' := by
  have h2 := rddone_any b st w h
  rw [hr] at h2
  exact h2
theorem below_keep {B : Nat} {a b c : World} (h : Below B a b) (k : Below b.heap.size b c) (hB : B ≤ b.heap.size) : Below B a c := h.trans (k.mono hB)
end Go.Proofs.YtdpgfnnhbfkacaaGreatDoor.Wire
