/-
  Blocks of 2 cells: told of their cells, stored whole, a boxed struct.
-/
import Derived.Test.YtamcidlkbhanfaaKt
set_option linter.unusedVariables false
namespace Go.Proofs.Ytamcidlkbhanfaa.Kt
open Go.RowKit

/-- 2 cells in block b. -/
abbrev At2 (T : TypeId) (w : World) (b : Nat) (v0 v1 : Value) : Prop := w.heap[b]? = some (.cells #[v0, v1] T (0, 0))
variable {T : TypeId} {w w' : World} {v0 v1 : Value} {b : Nat}
theorem cells2 (h : At2 T w b v0 v1) : w.cell? ⟨b, 0, none⟩ = some v0 ∧ w.cell? ⟨b, 1, none⟩ = some v1 := by
  refine ⟨?_, ?_⟩ <;> (rw [cell_of_heap h]; rfl)
theorem free2 (h : At2 T w b v0 v1) : w.frozen? ⟨b, 0, none⟩ = false ∧ w.frozen? ⟨b, 1, none⟩ = false :=
  ⟨frozen_of_heap h, frozen_of_heap h⟩
theorem At2.keep (h : At2 T w b v0 v1) (hb : Below w.heap.size w w') : At2 T w' b v0 v1 := (hb.block b (heap_lt h)).trans h
theorem At2.keepB {B : Nat} (h : At2 T w b v0 v1) (hb : Below B w w') (hB : b < B) : At2 T w' b v0 v1 := (hb.block b hB).trans h
theorem at2_new (T : TypeId) (w : World) (v0 v1 : Value) : At2 T (w.alloc (.cells #[v0, v1] T)) w.heap.size v0 v1 := heap_alloc_new w _
theorem At2.alloc (h : At2 T w b v0 v1) (o : Obj) : At2 T (w.alloc o) b v0 v1 := h.keep ((Below.refl _ _).alloc (Nat.le_refl _) o)
theorem At2.drew (h : At2 T w b v0 v1) : At2 T w.drew b v0 v1 := h
theorem At2.drewN (h : At2 T w b v0 v1) (n : Nat) : At2 T (w.drewN n) b v0 v1 := h
/-- 2 cells are stored. -/
abbrev put2 (w : World) (k : Nat) (v0 v1 : Value) : World := (w.setCell ⟨k, 0, none⟩ v0).setCell ⟨k, 1, none⟩ v1
theorem heap_put2 {k : Nat} {x0 x1 : Value} (h : At2 T w k x0 x1) (v0 v1 : Value) : At2 T (put2 w k v0 v1) k v0 v1 := by
  have h1 := Lib.heap_setCell_same (i := 0) h v0
  have h2 := Lib.heap_setCell_same (i := 1) h1 v1
  unfold put2 At2
  rw [h2]
  rfl
theorem put2_other {k : Nat} (v0 v1 : Value) {j : Nat} (h : j ≠ k) : (put2 w k v0 v1).heap[j]? = w.heap[j]? := by
  unfold put2
  rw [heap_setCell_other _ _ _ _ (by exact h), heap_setCell_other _ _ _ _ (by exact h)]
theorem size_put2 (w : World) (k : Nat) (v0 v1 : Value) : (put2 w k v0 v1).heap.size = w.heap.size := by simp [put2]
theorem below_put2 {B : Nat} {w0 : World} {k : Nat} (h : Below B w0 w) (hk : B ≤ k) (v0 v1 : Value) : Below B w0 (put2 w k v0 v1) := (h.setCell (p := ⟨k, 0, none⟩) hk _).setCell (p := ⟨k, 1, none⟩) hk _
/-- A boxed struct that stays while more is done. -/
structure Bx2 (T : TypeId) (w w' : World) (v0 v1 : Value) : Prop where
  bel : Below w.heap.size w w'
  box : At2 T w' w.heap.size v0 v1
theorem Bx2.lt (h : Bx2 T w w' v0 v1) : w.heap.size < w'.heap.size := heap_lt h.box
theorem Bx2.keep {w2 : World} (h : Bx2 T w w' v0 v1) (hB : Below w'.heap.size w' w2) : Bx2 T w w2 v0 v1 := ⟨h.bel.trans (hB.mono (Nat.le_of_lt h.lt)), h.box.keep hB⟩
theorem Bx2.alloc (h : Bx2 T w w' v0 v1) (o : Obj) : Bx2 T w (w'.alloc o) v0 v1 := h.keep ((Below.refl _ _).alloc (Nat.le_refl _) o)
theorem bx2_new (T : TypeId) (w : World) (v0 v1 : Value) : Bx2 T w (w.alloc (.cells #[v0, v1] T)) v0 v1 := ⟨(Below.refl _ w).alloc (Nat.le_refl _) _, at2_new T w _ _⟩
end Go.Proofs.Ytamcidlkbhanfaa.Kt
