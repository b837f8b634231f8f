/-
  Blocks of 4 cells: told of their cells, stored whole, a boxed struct.
-/
import Derived.Test.YtamcidlkbhanfaaKt
set_option linter.unusedVariables false
namespace Go.Proofs.Ytamcidlkbhanfaa.Kt
open Go.RowKit

/-- 4 cells in block b. -/
abbrev At4 (T : TypeId) (w : World) (b : Nat) (v0 v1 v2 v3 : Value) : Prop := w.heap[b]? = some (.cells #[v0, v1, v2, v3] T (0, 0))
variable {T : TypeId} {w w' : World} {v0 v1 v2 v3 : Value} {b : Nat}
theorem cells4 (h : At4 T w b v0 v1 v2 v3) : w.cell? ⟨b, 0, none⟩ = some v0 ∧ w.cell? ⟨b, 1, none⟩ = some v1 ∧ w.cell? ⟨b, 2, none⟩ = some v2 ∧ w.cell? ⟨b, 3, none⟩ = some v3 := by
  refine ⟨?_, ?_, ?_, ?_⟩ <;> (rw [cell_of_heap h]; rfl)
theorem free4 (h : At4 T w b v0 v1 v2 v3) : w.frozen? ⟨b, 0, none⟩ = false ∧ w.frozen? ⟨b, 1, none⟩ = false ∧ w.frozen? ⟨b, 2, none⟩ = false ∧ w.frozen? ⟨b, 3, none⟩ = false :=
  ⟨frozen_of_heap h, frozen_of_heap h, frozen_of_heap h, frozen_of_heap h⟩
theorem At4.keep (h : At4 T w b v0 v1 v2 v3) (hb : Below w.heap.size w w') : At4 T w' b v0 v1 v2 v3 := (hb.block b (heap_lt h)).trans h
theorem At4.keepB {B : Nat} (h : At4 T w b v0 v1 v2 v3) (hb : Below B w w') (hB : b < B) : At4 T w' b v0 v1 v2 v3 := (hb.block b hB).trans h
theorem at4_new (T : TypeId) (w : World) (v0 v1 v2 v3 : Value) : At4 T (w.alloc (.cells #[v0, v1, v2, v3] T)) w.heap.size v0 v1 v2 v3 := heap_alloc_new w _
theorem At4.alloc (h : At4 T w b v0 v1 v2 v3) (o : Obj) : At4 T (w.alloc o) b v0 v1 v2 v3 := h.keep ((Below.refl _ _).alloc (Nat.le_refl _) o)
theorem At4.drew (h : At4 T w b v0 v1 v2 v3) : At4 T w.drew b v0 v1 v2 v3 := h
theorem At4.drewN (h : At4 T w b v0 v1 v2 v3) (n : Nat) : At4 T (w.drewN n) b v0 v1 v2 v3 := h
/-- 4 cells are stored. -/
abbrev put4 (w : World) (k : Nat) (v0 v1 v2 v3 : Value) : World := (((w.setCell ⟨k, 0, none⟩ v0).setCell ⟨k, 1, none⟩ v1).setCell ⟨k, 2, none⟩ v2).setCell ⟨k, 3, none⟩ v3
theorem heap_put4 {k : Nat} {x0 x1 x2 x3 : Value} (h : At4 T w k x0 x1 x2 x3) (v0 v1 v2 v3 : Value) : At4 T (put4 w k v0 v1 v2 v3) k v0 v1 v2 v3 := by
  have h1 := Lib.heap_setCell_same (i := 0) h v0
  have h2 := Lib.heap_setCell_same (i := 1) h1 v1
  have h3 := Lib.heap_setCell_same (i := 2) h2 v2
  have h4 := Lib.heap_setCell_same (i := 3) h3 v3
  unfold put4 At4
  rw [h4]
  rfl
theorem put4_other {k : Nat} (v0 v1 v2 v3 : Value) {j : Nat} (h : j ≠ k) : (put4 w k v0 v1 v2 v3).heap[j]? = w.heap[j]? := by
  unfold put4
  rw [heap_setCell_other _ _ _ _ (by exact h), heap_setCell_other _ _ _ _ (by exact h), heap_setCell_other _ _ _ _ (by exact h), heap_setCell_other _ _ _ _ (by exact h)]
theorem size_put4 (w : World) (k : Nat) (v0 v1 v2 v3 : Value) : (put4 w k v0 v1 v2 v3).heap.size = w.heap.size := by simp [put4]
theorem below_put4 {B : Nat} {w0 : World} {k : Nat} (h : Below B w0 w) (hk : B ≤ k) (v0 v1 v2 v3 : Value) : Below B w0 (put4 w k v0 v1 v2 v3) := (((h.setCell (p := ⟨k, 0, none⟩) hk _).setCell (p := ⟨k, 1, none⟩) hk _).setCell (p := ⟨k, 2, none⟩) hk _).setCell (p := ⟨k, 3, none⟩) hk _
/-- A boxed struct that stays while more is done. -/
structure Bx4 (T : TypeId) (w w' : World) (v0 v1 v2 v3 : Value) : Prop where
  bel : Below w.heap.size w w'
  box : At4 T w' w.heap.size v0 v1 v2 v3
theorem Bx4.lt (h : Bx4 T w w' v0 v1 v2 v3) : w.heap.size < w'.heap.size := heap_lt h.box
theorem Bx4.keep {w2 : World} (h : Bx4 T w w' v0 v1 v2 v3) (hB : Below w'.heap.size w' w2) : Bx4 T w w2 v0 v1 v2 v3 := ⟨h.bel.trans (hB.mono (Nat.le_of_lt h.lt)), h.box.keep hB⟩
theorem Bx4.alloc (h : Bx4 T w w' v0 v1 v2 v3) (o : Obj) : Bx4 T w (w'.alloc o) v0 v1 v2 v3 := h.keep ((Below.refl _ _).alloc (Nat.le_refl _) o)
theorem bx4_new (T : TypeId) (w : World) (v0 v1 v2 v3 : Value) : Bx4 T w (w.alloc (.cells #[v0, v1, v2, v3] T)) v0 v1 v2 v3 := ⟨(Below.refl _ w).alloc (Nat.le_refl _) _, at4_new T w _ _ _ _⟩
end Go.Proofs.Ytamcidlkbhanfaa.Kt
