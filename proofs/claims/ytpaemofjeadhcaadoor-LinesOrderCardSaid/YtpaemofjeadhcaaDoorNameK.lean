/-
  The contract of the laws' own 'awake': the chapter's examples; what was there stays as it was.
-/
import Derived.Test.YtpaemofjeadhcaaDoorNameH
import Derived.Test.YtpaemofjeadhcaaDoorNameI
set_option linter.unusedVariables false
set_option maxRecDepth 4000
namespace Go.Proofs.YtpaemofjeadhcaaDoor.Name
open Go.RowKit NameP

theorem fold_is (s z : ByteArray) (f : Int) (w : World) (hs : s.size ≤ 4398046511104) (h : foldV (vals s.data.toList) = (z.data.toList, f)) :
    Calls Tryd.prog 29 #[.string s] w fun e w' => e = .returned (.tuple #[.string z, .int .i64 f]) ∧ Below w.heap.size w w' := by
  have h2 := fold_any s w hs
  rw [h, ← str_eq (s := z) rfl] at h2
  exact h2
theorem rfold_is (s z : ByteArray) (f : Int) (w : World) (hs : s.size ≤ 4398046511104) (h : foldV (vals s.data.toList) = (z.data.toList, f)) :
    Calls Tryd.prog 20 #[.string s] w fun e w' => e = .returned (.tuple #[.string z, .int .i64 f]) ∧ Below w.heap.size w w' := by
  have h2 := rfold_any s w hs
  rw [h, ← str_eq (s := z) rfl] at h2
  exact h2
theorem fit_is (s : ByteArray) (b : Bool) (w : World) (hs : s.size ≤ 4398046511104) (h : fitV (vals s.data.toList) = b) :
    Calls Tryd.prog 23 #[.string s] w fun e w' => e = .returned (.bool b) ∧ Below w.heap.size w w' := by
  have h2 := fit_any s w hs
  rw [h] at h2
  exact h2
theorem rune_is (c : Int) (b : Bool) (w : World) (h : nr c = b) : Calls Tryd.prog 37 #[.int .i32 c] w fun e w' => e = .returned (.bool b) ∧ w = w' := by
  have h2 := rune_any c w
  rw [h] at h2
  exact h2
theorem strs_two (w : World) (x y : ByteArray) : StrsAt (w.alloc (.cells #[.string x, .string y] 9)) (some ⟨w.heap.size, 0, none⟩) 2 [x, y] := by
  refine ⟨rfl, by omega, .inr ⟨w.heap.size, 0, rfl, by simp, fun i hi => ?_⟩⟩
  obtain rfl | rfl : i = 0 ∨ i = 1 := by omega
  · rw [Nat.zero_add, World.cell?_alloc_new]; rfl
  · rw [Nat.zero_add, World.cell?_alloc_new]; rfl
theorem strs_one (w : World) (x : ByteArray) : StrsAt (w.alloc (.cells #[.string x] 9)) (some ⟨w.heap.size, 0, none⟩) 1 [x] := by
  refine ⟨rfl, by omega, .inr ⟨w.heap.size, 0, rfl, by simp, fun i hi => ?_⟩⟩
  obtain rfl : i = 0 := by omega
  rw [Nat.zero_add, World.cell?_alloc_new]; rfl
theorem below_keep {B : Nat} {a b c : World} (h : Below B a b) (k : Below b.heap.size b c) (hB : B ≤ b.heap.size) : Below B a c := h.trans (k.mono hB)
theorem ex1 : foldV (vals [195, 132, 98]) = ([195, 164, 98], 0) := by decide +kernel
theorem ex2 : foldV (vals [45, 97]) = ([], 7) := by decide +kernel
theorem ex3 : countV [195, 164, 98] = 2 := by decide +kernel
theorem ex4 : fitV (vals [45, 97]) = false := by decide +kernel
theorem ex5 : fitV (vals [195, 164, 98]) = true := by decide +kernel
theorem ex6 : (((findV ⟨#[98]⟩ 0 [⟨#[97]⟩, ⟨#[99]⟩]).1 : Nat) : Int) = 1 ∧ (findV ⟨#[98]⟩ 0 [⟨#[97]⟩, ⟨#[99]⟩]).2 = false := by simp [findV, ByteArray.toList_eq, Op.bytesLess]
end Go.Proofs.YtpaemofjeadhcaaDoor.Name
