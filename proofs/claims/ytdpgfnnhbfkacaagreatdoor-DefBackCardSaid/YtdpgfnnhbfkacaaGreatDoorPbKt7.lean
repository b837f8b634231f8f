/-
  Blocks of 7 cells: told of their cells, stored whole, a boxed struct.
-/
import Derived.Test.YtdpgfnnhbfkacaaGreatDoorPbKt
set_option linter.unusedVariables false
namespace Go.Proofs.YtdpgfnnhbfkacaaGreatDoor.Kt
open Go.RowKit
abbrev At7 (T : TypeId) (w : World) (b : Nat) (v0 v1 v2 v3 v4 v5 v6 : Value) : Prop := w.heap[b]? = some (.cells #[v0, v1, v2, v3, v4, v5, v6] T (0, 0))
variable {T : TypeId} {w w' : World} {v0 v1 v2 v3 v4 v5 v6 : Value} {b : Nat}
theorem cells7 (h : At7 T w b v0 v1 v2 v3 v4 v5 v6) : w.cell? ⟨b, 0, none⟩ = some v0 ∧ w.cell? ⟨b, 1, none⟩ = some v1 ∧ w.cell? ⟨b, 2, none⟩ = some v2 ∧ w.cell? ⟨b, 3, none⟩ = some v3 ∧ w.cell? ⟨b, 4, none⟩ = some v4 ∧ w.cell? ⟨b, 5, none⟩ = some v5 ∧ w.cell? ⟨b, 6, none⟩ = some v6 := by
  refine ⟨?_, ?_, ?_, ?_, ?_, ?_, ?_⟩ <;> (rw [cell_of_heap h]; rfl)
theorem At7.keep (h : At7 T w b v0 v1 v2 v3 v4 v5 v6) (hb : Below w.heap.size w w') : At7 T w' b v0 v1 v2 v3 v4 v5 v6 := (hb.block b (heap_lt h)).trans h
theorem At7.keepB {B : Nat} (h : At7 T w b v0 v1 v2 v3 v4 v5 v6) (hb : Below B w w') (hB : b < B) : At7 T w' b v0 v1 v2 v3 v4 v5 v6 := (hb.block b hB).trans h
theorem at7_new (T : TypeId) (w : World) (v0 v1 v2 v3 v4 v5 v6 : Value) : At7 T (w.alloc (.cells #[v0, v1, v2, v3, v4, v5, v6] T)) w.heap.size v0 v1 v2 v3 v4 v5 v6 := heap_alloc_new w _
theorem At7.alloc (h : At7 T w b v0 v1 v2 v3 v4 v5 v6) (o : Obj) : At7 T (w.alloc o) b v0 v1 v2 v3 v4 v5 v6 := h.keep ((Below.refl _ _).alloc (Nat.le_refl _) o)
theorem At7.drew (h : At7 T w b v0 v1 v2 v3 v4 v5 v6) : At7 T w.drew b v0 v1 v2 v3 v4 v5 v6 := h
structure Bx7 (T : TypeId) (w w' : World) (v0 v1 v2 v3 v4 v5 v6 : Value) : Prop where
  bel : Below w.heap.size w w'
  box : At7 T w' w.heap.size v0 v1 v2 v3 v4 v5 v6
theorem Bx7.lt (h : Bx7 T w w' v0 v1 v2 v3 v4 v5 v6) : w.heap.size < w'.heap.size := heap_lt h.box
theorem Bx7.keep {w2 : World} (h : Bx7 T w w' v0 v1 v2 v3 v4 v5 v6) (hB : Below w'.heap.size w' w2) : Bx7 T w w2 v0 v1 v2 v3 v4 v5 v6 := ⟨h.bel.trans (hB.mono (Nat.le_of_lt h.lt)), h.box.keep hB⟩
theorem Bx7.alloc (h : Bx7 T w w' v0 v1 v2 v3 v4 v5 v6) (o : Obj) : Bx7 T w (w'.alloc o) v0 v1 v2 v3 v4 v5 v6 := h.keep ((Below.refl _ _).alloc (Nat.le_refl _) o)
end Go.Proofs.YtdpgfnnhbfkacaaGreatDoor.Kt
