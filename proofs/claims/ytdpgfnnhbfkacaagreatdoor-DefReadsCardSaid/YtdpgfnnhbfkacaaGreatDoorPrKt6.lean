/-
  Blocks of 6 cells: told of their cells, stored whole, a boxed struct.
-/
import Derived.Test.YtdpgfnnhbfkacaaGreatDoorPrKt
set_option linter.unusedVariables false
namespace Go.Proofs.YtdpgfnnhbfkacaaGreatDoor.Kt
open Go.RowKit
abbrev At6 (T : TypeId) (w : World) (b : Nat) (v0 v1 v2 v3 v4 v5 : Value) : Prop := w.heap[b]? = some (.cells #[v0, v1, v2, v3, v4, v5] T (0, 0))
variable {T : TypeId} {w w' : World} {v0 v1 v2 v3 v4 v5 : Value} {b : Nat}
theorem cells6 (h : At6 T w b v0 v1 v2 v3 v4 v5) : w.cell? ⟨b, 0, none⟩ = some v0 ∧ w.cell? ⟨b, 1, none⟩ = some v1 ∧ w.cell? ⟨b, 2, none⟩ = some v2 ∧ w.cell? ⟨b, 3, none⟩ = some v3 ∧ w.cell? ⟨b, 4, none⟩ = some v4 ∧ w.cell? ⟨b, 5, none⟩ = some v5 := by
  refine ⟨?_, ?_, ?_, ?_, ?_, ?_⟩ <;> (rw [cell_of_heap h]; rfl)
theorem free6 (h : At6 T w b v0 v1 v2 v3 v4 v5) : w.frozen? ⟨b, 0, none⟩ = false ∧ w.frozen? ⟨b, 1, none⟩ = false ∧ w.frozen? ⟨b, 2, none⟩ = false ∧ w.frozen? ⟨b, 3, none⟩ = false ∧ w.frozen? ⟨b, 4, none⟩ = false ∧ w.frozen? ⟨b, 5, none⟩ = false :=
  ⟨frozen_of_heap h, frozen_of_heap h, frozen_of_heap h, frozen_of_heap h, frozen_of_heap h, frozen_of_heap h⟩
theorem At6.keep (h : At6 T w b v0 v1 v2 v3 v4 v5) (hb : Below w.heap.size w w') : At6 T w' b v0 v1 v2 v3 v4 v5 := (hb.block b (heap_lt h)).trans h
theorem At6.keepB {B : Nat} (h : At6 T w b v0 v1 v2 v3 v4 v5) (hb : Below B w w') (hB : b < B) : At6 T w' b v0 v1 v2 v3 v4 v5 := (hb.block b hB).trans h
theorem at6_new (T : TypeId) (w : World) (v0 v1 v2 v3 v4 v5 : Value) : At6 T (w.alloc (.cells #[v0, v1, v2, v3, v4, v5] T)) w.heap.size v0 v1 v2 v3 v4 v5 := heap_alloc_new w _
theorem At6.alloc (h : At6 T w b v0 v1 v2 v3 v4 v5) (o : Obj) : At6 T (w.alloc o) b v0 v1 v2 v3 v4 v5 := h.keep ((Below.refl _ _).alloc (Nat.le_refl _) o)
theorem At6.drew (h : At6 T w b v0 v1 v2 v3 v4 v5) : At6 T w.drew b v0 v1 v2 v3 v4 v5 := h
theorem At6.drewN (h : At6 T w b v0 v1 v2 v3 v4 v5) (n : Nat) : At6 T (w.drewN n) b v0 v1 v2 v3 v4 v5 := h
abbrev put6 (w : World) (k : Nat) (v0 v1 v2 v3 v4 v5 : Value) : World := (((((w.setCell ⟨k, 0, none⟩ v0).setCell ⟨k, 1, none⟩ v1).setCell ⟨k, 2, none⟩ v2).setCell ⟨k, 3, none⟩ v3).setCell ⟨k, 4, none⟩ v4).setCell ⟨k, 5, none⟩ v5
theorem heap_put6 {k : Nat} {x0 x1 x2 x3 x4 x5 : Value} (h : At6 T w k x0 x1 x2 x3 x4 x5) (v0 v1 v2 v3 v4 v5 : Value) : At6 T (put6 w k v0 v1 v2 v3 v4 v5) k v0 v1 v2 v3 v4 v5 := by
  have h1 := Lib.heap_setCell_same (i := 0) h v0
  have h2 := Lib.heap_setCell_same (i := 1) h1 v1
  have h3 := Lib.heap_setCell_same (i := 2) h2 v2
  have h4 := Lib.heap_setCell_same (i := 3) h3 v3
  have h5 := Lib.heap_setCell_same (i := 4) h4 v4
  have h6 := Lib.heap_setCell_same (i := 5) h5 v5
  unfold put6 At6
  rw [h6]
  rfl
theorem below_put6 {B : Nat} {w0 : World} {k : Nat} (h : Below B w0 w) (hk : B ≤ k) (v0 v1 v2 v3 v4 v5 : Value) : Below B w0 (put6 w k v0 v1 v2 v3 v4 v5) := (((((h.setCell (p := ⟨k, 0, none⟩) hk _).setCell (p := ⟨k, 1, none⟩) hk _).setCell (p := ⟨k, 2, none⟩) hk _).setCell (p := ⟨k, 3, none⟩) hk _).setCell (p := ⟨k, 4, none⟩) hk _).setCell (p := ⟨k, 5, none⟩) hk _
structure Bx6 (T : TypeId) (w w' : World) (v0 v1 v2 v3 v4 v5 : Value) : Prop where
  bel : Below w.heap.size w w'
  box : At6 T w' w.heap.size v0 v1 v2 v3 v4 v5
theorem Bx6.lt (h : Bx6 T w w' v0 v1 v2 v3 v4 v5) : w.heap.size < w'.heap.size := heap_lt h.box
theorem Bx6.keep {w2 : World} (h : Bx6 T w w' v0 v1 v2 v3 v4 v5) (hB : Below w'.heap.size w' w2) : Bx6 T w w2 v0 v1 v2 v3 v4 v5 := ⟨h.bel.trans (hB.mono (Nat.le_of_lt h.lt)), h.box.keep hB⟩
theorem Bx6.alloc (h : Bx6 T w w' v0 v1 v2 v3 v4 v5) (o : Obj) : Bx6 T w (w'.alloc o) v0 v1 v2 v3 v4 v5 := h.keep ((Below.refl _ _).alloc (Nat.le_refl _) o)
theorem bx6_new (T : TypeId) (w : World) (v0 v1 v2 v3 v4 v5 : Value) : Bx6 T w (w.alloc (.cells #[v0, v1, v2, v3, v4, v5] T)) v0 v1 v2 v3 v4 v5 := ⟨(Below.refl _ w).alloc (Nat.le_refl _) _, at6_new T w _ _ _ _ _ _⟩
end Go.Proofs.YtdpgfnnhbfkacaaGreatDoor.Kt
