/-
  The contract of the laws' own 'awake': the chapter's examples; what was there stays as it was. And the readers' contracts in the form that the laws' walks take.
-/
import Derived.Test.YtamcidlkbhanfaaWireE
import Derived.Test.YtamcidlkbhanfaaWireJ
set_option linter.unusedVariables false
set_option maxRecDepth 4000
namespace Go.Proofs.Ytamcidlkbhanfaa.Wire
open Go.RowKit WireP

theorem int_is (n : Int) (z : ByteArray) (w : World) (h0 : -9223372036854775808 ≤ n) (h1 : n ≤ 9223372036854775807) (h : enc n = z.data.toList) :
    Calls Try.prog 54 #[.int .i64 n] w fun e w' => e = .returned (.string z) ∧ Below w.heap.size w w' := by
  have h2 := int_any n w h0 h1
  rw [h, ← str_eq (s := z) rfl] at h2
  exact h2
/-- What a step of the program's reader leaves: it stands so, nothing else has turned. -/
def RdStep (w : World) (b : Nat) (st : St) (w' : World) : Prop := RdAt w' b st ∧ w.grownBy w' (some b)
theorem rdint_is (b : Nat) (st st' : St) (lo hi n : Int) (w : World) (h : RdAt w b st) (hr : rdInt lo hi st = (n, st')) :
    Calls Try.prog 41 #[.pointer (some ⟨b, 0, none⟩), .int .i64 lo, .int .i64 hi] w fun e w' => e = .returned (.int .i64 n) ∧ RdStep w b st' w' := by
  have h2 := rdint_any b st lo hi w h
  rw [hr] at h2
  exact h2
theorem rdflag_is (b : Nat) (st st' : St) (v : Bool) (w : World) (h : RdAt w b st) (hr : rdFlag st = (v, st')) :
    Calls Try.prog 42 #[.pointer (some ⟨b, 0, none⟩)] w fun e w' => e = .returned (.bool v) ∧ RdStep w b st' w' := by
  have h2 := rdflag_any b st w h
  rw [hr] at h2
  exact h2
theorem rddone_is (b : Nat) (st : St) (v : Bool) (w : World) (h : RdAt w b st) (hr : done st = v) :
    Calls Try.prog 24 #[.pointer (some ⟨b, 0, none⟩)] w fun e w' => e = .returned (.bool v) ∧ Below w.heap.size w w' := by
  have h2 := rddone_any b st w h
  rw [hr] at h2
  exact h2
theorem RdStep.below {w w' : World} {b B : Nat} {st st0 : St} (h : RdStep w b st w') (h0 : RdAt w b st0) (hB : B ≤ b) : Below B w w' := below_of_grown h.2 hB h0.lt
theorem below_keep {B : Nat} {a b c : World} (h : Below B a b) (k : Below b.heap.size b c) (hB : B ≤ b.heap.size) : Below B a c := h.trans (k.mono hB)
theorem enc_of {n : Int} {l : List UInt8} (h : val l = ix n) (h2 : l.headD 1 ≠ 0) : enc n = UInt8.ofNat l.length :: l := by unfold enc; rw [← h, be_val _ l rfl h2]
theorem ex1 : enc 0 = [0] := enc_of (l := []) rfl (by decide)
theorem ex2 : enc (-1) = [1, 1] := enc_of (l := [1]) rfl (by decide)
theorem ex3 : enc 128 = [2, 1, 0] := enc_of (l := [1, 0]) rfl (by decide)
theorem ex4 : text [97, 98] = [1, 4, 97, 98] := by unfold text; rw [enc_of (l := [4]) rfl (by decide)]; rfl
theorem ex5 : rdInt (-5) 5 (some [1, 1, 1, 1, 4, 97, 98]) = (-1, some [1, 1, 4, 97, 98]) := by decide +kernel
theorem ex6 : rdFlag (some [1, 1, 4, 97, 98]) = (true, some [1, 4, 97, 98]) := by decide +kernel
theorem ex7 : rdText 9 (some [1, 4, 97, 98]) = ([97, 98], some []) := by decide +kernel
theorem ex8 : rdInt 0 1 (some []) = (0, none) := by decide +kernel
end Go.Proofs.Ytamcidlkbhanfaa.Wire
