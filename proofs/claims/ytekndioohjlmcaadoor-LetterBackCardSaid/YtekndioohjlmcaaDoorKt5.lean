/-
  Blocks of 5 cells: told of their cells, stored whole, a boxed struct.
-/
import Derived.Test.YtekndioohjlmcaaDoorKt
set_option linter.unusedVariables false
namespace Go.Proofs.YtekndioohjlmcaaDoor.Kt
open Go.RowKit

/-- 5 cells in block b. -/
abbrev At5 (T : TypeId) (w : World) (b : Nat) (v0 v1 v2 v3 v4 : Value) : Prop := w.heap[b]? = some (.cells #[v0, v1, v2, v3, v4] T (0, 0))
variable {T : TypeId} {w w' : World} {v0 v1 v2 v3 v4 : Value} {b : Nat}
theorem cells5 (h : At5 T w b v0 v1 v2 v3 v4) : w.cell? ⟨b, 0, none⟩ = some v0 ∧ w.cell? ⟨b, 1, none⟩ = some v1 ∧ w.cell? ⟨b, 2, none⟩ = some v2 ∧ w.cell? ⟨b, 3, none⟩ = some v3 ∧ w.cell? ⟨b, 4, none⟩ = some v4 := by
  refine ⟨?_, ?_, ?_, ?_, ?_⟩ <;> (rw [cell_of_heap h]; rfl)
theorem free5 (h : At5 T w b v0 v1 v2 v3 v4) : w.frozen? ⟨b, 0, none⟩ = false ∧ w.frozen? ⟨b, 1, none⟩ = false ∧ w.frozen? ⟨b, 2, none⟩ = false ∧ w.frozen? ⟨b, 3, none⟩ = false ∧ w.frozen? ⟨b, 4, none⟩ = false :=
  ⟨frozen_of_heap h, frozen_of_heap h, frozen_of_heap h, frozen_of_heap h, frozen_of_heap h⟩
theorem At5.keep (h : At5 T w b v0 v1 v2 v3 v4) (hb : Below w.heap.size w w') : At5 T w' b v0 v1 v2 v3 v4 := (hb.block b (heap_lt h)).trans h
theorem At5.keepB {B : Nat} (h : At5 T w b v0 v1 v2 v3 v4) (hb : Below B w w') (hB : b < B) : At5 T w' b v0 v1 v2 v3 v4 := (hb.block b hB).trans h
theorem at5_new (T : TypeId) (w : World) (v0 v1 v2 v3 v4 : Value) : At5 T (w.alloc (.cells #[v0, v1, v2, v3, v4] T)) w.heap.size v0 v1 v2 v3 v4 := heap_alloc_new w _
theorem At5.alloc (h : At5 T w b v0 v1 v2 v3 v4) (o : Obj) : At5 T (w.alloc o) b v0 v1 v2 v3 v4 := h.keep ((Below.refl _ _).alloc (Nat.le_refl _) o)
theorem At5.drew (h : At5 T w b v0 v1 v2 v3 v4) : At5 T w.drew b v0 v1 v2 v3 v4 := h
theorem At5.drewN (h : At5 T w b v0 v1 v2 v3 v4) (n : Nat) : At5 T (w.drewN n) b v0 v1 v2 v3 v4 := h
/-- 5 cells are stored. -/
abbrev put5 (w : World) (k : Nat) (v0 v1 v2 v3 v4 : Value) : World := ((((w.setCell ⟨k, 0, none⟩ v0).setCell ⟨k, 1, none⟩ v1).setCell ⟨k, 2, none⟩ v2).setCell ⟨k, 3, none⟩ v3).setCell ⟨k, 4, none⟩ v4
theorem heap_put5 {k : Nat} {x0 x1 x2 x3 x4 : Value} (h : At5 T w k x0 x1 x2 x3 x4) (v0 v1 v2 v3 v4 : Value) : At5 T (put5 w k v0 v1 v2 v3 v4) k v0 v1 v2 v3 v4 := by
  have h1 := Lib.heap_setCell_same (i := 0) h v0
  have h2 := Lib.heap_setCell_same (i := 1) h1 v1
  have h3 := Lib.heap_setCell_same (i := 2) h2 v2
  have h4 := Lib.heap_setCell_same (i := 3) h3 v3
  have h5 := Lib.heap_setCell_same (i := 4) h4 v4
  unfold put5 At5
  rw [h5]
  rfl
theorem put5_other {k : Nat} (v0 v1 v2 v3 v4 : Value) {j : Nat} (h : j ≠ k) : (put5 w k v0 v1 v2 v3 v4).heap[j]? = w.heap[j]? := by
  unfold put5
  rw [heap_setCell_other _ _ _ _ (by exact h), heap_setCell_other _ _ _ _ (by exact h), heap_setCell_other _ _ _ _ (by exact h), heap_setCell_other _ _ _ _ (by exact h), heap_setCell_other _ _ _ _ (by exact h)]
theorem size_put5 (w : World) (k : Nat) (v0 v1 v2 v3 v4 : Value) : (put5 w k v0 v1 v2 v3 v4).heap.size = w.heap.size := by simp [put5]
theorem below_put5 {B : Nat} {w0 : World} {k : Nat} (h : Below B w0 w) (hk : B ≤ k) (v0 v1 v2 v3 v4 : Value) : Below B w0 (put5 w k v0 v1 v2 v3 v4) := ((((h.setCell (p := ⟨k, 0, none⟩) hk _).setCell (p := ⟨k, 1, none⟩) hk _).setCell (p := ⟨k, 2, none⟩) hk _).setCell (p := ⟨k, 3, none⟩) hk _).setCell (p := ⟨k, 4, none⟩) hk _
/-- A boxed struct that stays while more is done. -/
structure Bx5 (T : TypeId) (w w' : World) (v0 v1 v2 v3 v4 : Value) : Prop where
  bel : Below w.heap.size w w'
  box : At5 T w' w.heap.size v0 v1 v2 v3 v4
theorem Bx5.lt (h : Bx5 T w w' v0 v1 v2 v3 v4) : w.heap.size < w'.heap.size := heap_lt h.box
theorem Bx5.keep {w2 : World} (h : Bx5 T w w' v0 v1 v2 v3 v4) (hB : Below w'.heap.size w' w2) : Bx5 T w w2 v0 v1 v2 v3 v4 := ⟨h.bel.trans (hB.mono (Nat.le_of_lt h.lt)), h.box.keep hB⟩
theorem Bx5.alloc (h : Bx5 T w w' v0 v1 v2 v3 v4) (o : Obj) : Bx5 T w (w'.alloc o) v0 v1 v2 v3 v4 := h.keep ((Below.refl _ _).alloc (Nat.le_refl _) o)
theorem bx5_new (T : TypeId) (w : World) (v0 v1 v2 v3 v4 : Value) : Bx5 T w (w.alloc (.cells #[v0, v1, v2, v3, v4] T)) v0 v1 v2 v3 v4 := ⟨(Below.refl _ w).alloc (Nat.le_refl _) _, at5_new T w _ _ _ _ _⟩
end Go.Proofs.YtekndioohjlmcaaDoor.Kt
