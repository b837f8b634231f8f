/-
  The contract of the laws' own 'awake': the chapter's examples; what was there stays as it was. And the readers' contracts in the form that the laws' walks take.
-/
import Derived.Test.YtdpgfnnhbfkacaaGreatDoorPbWireC
import Derived.Test.YtdpgfnnhbfkacaaGreatDoorPbWireF
set_option linter.unusedVariables false
set_option maxRecDepth 4000
namespace Go.Proofs.YtdpgfnnhbfkacaaGreatDoor.Wire
open Go.RowKit WireP
theorem int_is (n : Int) (z : ByteArray) (w : World) (h0 : -9223372036854775808 ≤ n) (h1 : n ≤ 9223372036854775807) (h : enc n = z.data.toList) :
    Calls Tryz.prog 60 #[.int .i64 n] w fun e w' => e = .returned (.string z) ∧ Below w.heap.size w w' := by
  have h2 := int_any n w h0 h1
  rw [h, ← str_eq (s := z) rfl] at h2
  exact h2
theorem text_is (s z : ByteArray) (w : World) (hs : s.size ≤ 4398046511104) (h : text s.data.toList = z.data.toList) :
    Calls Tryz.prog 59 #[.string s] w fun e w' => e = .returned (.string z) ∧ Below w.heap.size w w' := by
  have h2 := text_any s w hs
  rw [h, ← str_eq (s := z) rfl] at h2
  exact h2
def RdStep (w : World) (b : Nat) (st : St) (w' : World) : Prop := RdAt w' b st ∧ w.grownBy w' (some b)
theorem rdint_is (b : Nat) (st st' : St) (lo hi n : Int) (w : World) (h : RdAt w b st) (hr : rdInt lo hi st = (n, st')) :
    Calls Tryz.prog 108 #[.pointer (some ⟨b, 0, none⟩), .int .i64 lo, .int .i64 hi] w fun e w' => e = .returned (.int .i64 n) ∧ RdStep w b st' w' := by
  have h2 := rdint_any b st lo hi w h
  rw [hr] at h2
  exact h2
theorem rdtext_is (b : Nat) (st st' : St) (most : Int) (z : ByteArray) (w : World) (h : RdAt w b st) (hr : rdText most st = (z.data.toList, st')) :
    Calls Tryz.prog 73 #[.pointer (some ⟨b, 0, none⟩), .int .i64 most] w fun e w' => e = .returned (.string z) ∧ RdStep w b st' w' := by
  have h2 := rdtext_any b st most w h
  rw [hr, ← str_eq (s := z) rfl] at h2
  exact h2
theorem rdlist_is (b : Nat) (st st' : St) (most n : Int) (w : World) (h : RdAt w b st) (hr : rdList most st = (n, st')) :
    Calls Tryz.prog 74 #[.pointer (some ⟨b, 0, none⟩), .int .i64 most] w fun e w' => e = .returned (.int .i64 n) ∧ RdStep w b st' w' := by
  have h2 := rdlist_any b st most w h
  rw [hr] at h2
  exact h2
theorem rddone_is (b : Nat) (st : St) (v : Bool) (w : World) (h : RdAt w b st) (hr : done st = v) :
    Calls Tryz.prog 27 #[.pointer (some ⟨b, 0, none⟩)] w fun e w' => e = .returned (.bool v) ∧ Below w.heap.size w w' := by
  have h2 := rddone_any b st w h
  rw [hr] at h2
  exact h2
theorem below_keep {B : Nat} {a b c : World} (h : Below B a b) (k : Below b.heap.size b c) (hB : B ≤ b.heap.size) : Below B a c := h.trans (k.mono hB)
end Go.Proofs.YtdpgfnnhbfkacaaGreatDoor.Wire
