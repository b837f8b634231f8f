/-
  The contract of the laws' own 'awake': the chapter's examples; what was there stays as it was.
-/
import Derived.Test.YtpaemofjeadhcaaGreatDoorNameH
set_option linter.unusedVariables false
set_option maxRecDepth 4000
namespace Go.Proofs.YtpaemofjeadhcaaGreatDoor.Name
open Go.RowKit NameP

theorem fold_is (s z : ByteArray) (f : Int) (w : World) (hs : s.size ≤ 4398046511104) (h : foldV (vals s.data.toList) = (z.data.toList, f)) :
    Calls Tryz.prog 78 #[.string s] w fun e w' => e = .returned (.tuple #[.string z, .int .i64 f]) ∧ Below w.heap.size w w' := by
  have h2 := fold_any s w hs
  rw [h, ← str_eq (s := z) rfl] at h2
  exact h2
theorem fit_is (s : ByteArray) (b : Bool) (w : World) (hs : s.size ≤ 4398046511104) (h : fitV (vals s.data.toList) = b) :
    Calls Tryz.prog 30 #[.string s] w fun e w' => e = .returned (.bool b) ∧ Below w.heap.size w w' := by
  have h2 := fit_any s w hs
  rw [h] at h2
  exact h2
theorem rune_is (c : Int) (b : Bool) (w : World) (h : nr c = b) : Calls Tryz.prog 60 #[.int .i32 c] w fun e w' => e = .returned (.bool b) ∧ w = w' := by
  have h2 := rune_any c w
  rw [h] at h2
  exact h2
theorem below_keep {B : Nat} {a b c : World} (h : Below B a b) (k : Below b.heap.size b c) (hB : B ≤ b.heap.size) : Below B a c := h.trans (k.mono hB)
theorem ex1 : foldV (vals [195, 132, 98]) = ([195, 164, 98], 0) := by decide +kernel
theorem ex2 : foldV (vals [45, 97]) = ([], 7) := by decide +kernel
theorem ex3 : countV [195, 164, 98] = 2 := by decide +kernel
theorem ex4 : fitV (vals [45, 97]) = false := by decide +kernel
theorem ex5 : fitV (vals [195, 164, 98]) = true := by decide +kernel
end Go.Proofs.YtpaemofjeadhcaaGreatDoor.Name
