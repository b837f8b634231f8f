/-
  Blocks of 7 cells: told of their cells, stored whole, a boxed struct.
-/
import Derived.Test.YtamcidlkbhanfaaKt
set_option linter.unusedVariables false
namespace Go.Proofs.Ytamcidlkbhanfaa.Kt
open Go.RowKit

/-- 7 cells in block b. -/
abbrev At7 (T : TypeId) (w : World) (b : Nat) (v0 v1 v2 v3 v4 v5 v6 : Value) : Prop := w.heap[b]? = some (.cells #[v0, v1, v2, v3, v4, v5, v6] T (0, 0))
variable {T : TypeId} {w w' : World} {v0 v1 v2 v3 v4 v5 v6 : Value} {b : Nat}
theorem cells7 (h : At7 T w b v0 v1 v2 v3 v4 v5 v6) : w.cell? ⟨b, 0, none⟩ = some v0 ∧ w.cell? ⟨b, 1, none⟩ = some v1 ∧ w.cell? ⟨b, 2, none⟩ = some v2 ∧ w.cell? ⟨b, 3, none⟩ = some v3 ∧ w.cell? ⟨b, 4, none⟩ = some v4 ∧ w.cell? ⟨b, 5, none⟩ = some v5 ∧ w.cell? ⟨b, 6, none⟩ = some v6 := by
  refine ⟨?_, ?_, ?_, ?_, ?_, ?_, ?_⟩ <;> (rw [cell_of_heap h]; rfl)
theorem free7 (h : At7 T w b v0 v1 v2 v3 v4 v5 v6) : w.frozen? ⟨b, 0, none⟩ = false ∧ w.frozen? ⟨b, 1, none⟩ = false ∧ w.frozen? ⟨b, 2, none⟩ = false ∧ w.frozen? ⟨b, 3, none⟩ = false ∧ w.frozen? ⟨b, 4, none⟩ = false ∧ w.frozen? ⟨b, 5, none⟩ = false ∧ w.frozen? ⟨b, 6, none⟩ = false :=
  ⟨frozen_of_heap h, frozen_of_heap h, frozen_of_heap h, frozen_of_heap h, frozen_of_heap h, frozen_of_heap h, frozen_of_heap h⟩
theorem At7.keep (h : At7 T w b v0 v1 v2 v3 v4 v5 v6) (hb : Below w.heap.size w w') : At7 T w' b v0 v1 v2 v3 v4 v5 v6 := (hb.block b (heap_lt h)).trans h
theorem At7.keepB {B : Nat} (h : At7 T w b v0 v1 v2 v3 v4 v5 v6) (hb : Below B w w') (hB : b < B) : At7 T w' b v0 v1 v2 v3 v4 v5 v6 := (hb.block b hB).trans h
theorem at7_new (T : TypeId) (w : World) (v0 v1 v2 v3 v4 v5 v6 : Value) : At7 T (w.alloc (.cells #[v0, v1, v2, v3, v4, v5, v6] T)) w.heap.size v0 v1 v2 v3 v4 v5 v6 := heap_alloc_new w _
theorem At7.alloc (h : At7 T w b v0 v1 v2 v3 v4 v5 v6) (o : Obj) : At7 T (w.alloc o) b v0 v1 v2 v3 v4 v5 v6 := h.keep ((Below.refl _ _).alloc (Nat.le_refl _) o)
theorem At7.drew (h : At7 T w b v0 v1 v2 v3 v4 v5 v6) : At7 T w.drew b v0 v1 v2 v3 v4 v5 v6 := h
theorem At7.drewN (h : At7 T w b v0 v1 v2 v3 v4 v5 v6) (n : Nat) : At7 T (w.drewN n) b v0 v1 v2 v3 v4 v5 v6 := h
/-- 7 cells are stored. -/
abbrev put7 (w : World) (k : Nat) (v0 v1 v2 v3 v4 v5 v6 : Value) : World := ((((((w.setCell ⟨k, 0, none⟩ v0).setCell ⟨k, 1, none⟩ v1).setCell ⟨k, 2, none⟩ v2).setCell ⟨k, 3, none⟩ v3).setCell ⟨k, 4, none⟩ v4).setCell ⟨k, 5, none⟩ v5).setCell ⟨k, 6, none⟩ v6
theorem heap_put7 {k : Nat} {x0 x1 x2 x3 x4 x5 x6 : Value} (h : At7 T w k x0 x1 x2 x3 x4 x5 x6) (v0 v1 v2 v3 v4 v5 v6 : Value) : At7 T (put7 w k v0 v1 v2 v3 v4 v5 v6) k v0 v1 v2 v3 v4 v5 v6 := by
  have h1 := Lib.heap_setCell_same (i := 0) h v0
  have h2 := Lib.heap_setCell_same (i := 1) h1 v1
  have h3 := Lib.heap_setCell_same (i := 2) h2 v2
  have h4 := Lib.heap_setCell_same (i := 3) h3 v3
  have h5 := Lib.heap_setCell_same (i := 4) h4 v4
  have h6 := Lib.heap_setCell_same (i := 5) h5 v5
  have h7 := Lib.heap_setCell_same (i := 6) h6 v6
  unfold put7 At7
  rw [h7]
  rfl
theorem put7_other {k : Nat} (v0 v1 v2 v3 v4 v5 v6 : Value) {j : Nat} (h : j ≠ k) : (put7 w k v0 v1 v2 v3 v4 v5 v6).heap[j]? = w.heap[j]? := by
  unfold put7
  rw [heap_setCell_other _ _ _ _ (by exact h), heap_setCell_other _ _ _ _ (by exact h), heap_setCell_other _ _ _ _ (by exact h), heap_setCell_other _ _ _ _ (by exact h), heap_setCell_other _ _ _ _ (by exact h), heap_setCell_other _ _ _ _ (by exact h), heap_setCell_other _ _ _ _ (by exact h)]
theorem size_put7 (w : World) (k : Nat) (v0 v1 v2 v3 v4 v5 v6 : Value) : (put7 w k v0 v1 v2 v3 v4 v5 v6).heap.size = w.heap.size := by simp [put7]
theorem below_put7 {B : Nat} {w0 : World} {k : Nat} (h : Below B w0 w) (hk : B ≤ k) (v0 v1 v2 v3 v4 v5 v6 : Value) : Below B w0 (put7 w k v0 v1 v2 v3 v4 v5 v6) := ((((((h.setCell (p := ⟨k, 0, none⟩) hk _).setCell (p := ⟨k, 1, none⟩) hk _).setCell (p := ⟨k, 2, none⟩) hk _).setCell (p := ⟨k, 3, none⟩) hk _).setCell (p := ⟨k, 4, none⟩) hk _).setCell (p := ⟨k, 5, none⟩) hk _).setCell (p := ⟨k, 6, none⟩) hk _
/-- A boxed struct that stays while more is done. -/
structure Bx7 (T : TypeId) (w w' : World) (v0 v1 v2 v3 v4 v5 v6 : Value) : Prop where
  bel : Below w.heap.size w w'
  box : At7 T w' w.heap.size v0 v1 v2 v3 v4 v5 v6
theorem Bx7.lt (h : Bx7 T w w' v0 v1 v2 v3 v4 v5 v6) : w.heap.size < w'.heap.size := heap_lt h.box
theorem Bx7.keep {w2 : World} (h : Bx7 T w w' v0 v1 v2 v3 v4 v5 v6) (hB : Below w'.heap.size w' w2) : Bx7 T w w2 v0 v1 v2 v3 v4 v5 v6 := ⟨h.bel.trans (hB.mono (Nat.le_of_lt h.lt)), h.box.keep hB⟩
theorem Bx7.alloc (h : Bx7 T w w' v0 v1 v2 v3 v4 v5 v6) (o : Obj) : Bx7 T w (w'.alloc o) v0 v1 v2 v3 v4 v5 v6 := h.keep ((Below.refl _ _).alloc (Nat.le_refl _) o)
theorem bx7_new (T : TypeId) (w : World) (v0 v1 v2 v3 v4 v5 v6 : Value) : Bx7 T w (w.alloc (.cells #[v0, v1, v2, v3, v4, v5, v6] T)) v0 v1 v2 v3 v4 v5 v6 := ⟨(Below.refl _ w).alloc (Nat.le_refl _) _, at7_new T w _ _ _ _ _ _ _⟩
end Go.Proofs.Ytamcidlkbhanfaa.Kt
