/-
  Blocks of 4 cells: told of their cells, stored whole, a boxed struct.
-/
import Derived.Test.YtdpgfnnhbfkacaaGreatDoorPbKt
set_option linter.unusedVariables false
namespace Go.Proofs.YtdpgfnnhbfkacaaGreatDoor.Kt
open Go.RowKit
abbrev At4 (T : TypeId) (w : World) (b : Nat) (v0 v1 v2 v3 : Value) : Prop := w.heap[b]? = some (.cells #[v0, v1, v2, v3] T (0, 0))
variable {T : TypeId} {w w' : World} {v0 v1 v2 v3 : Value} {b : Nat}
theorem cells4 (h : At4 T w b v0 v1 v2 v3) : w.cell? ⟨b, 0, none⟩ = some v0 ∧ w.cell? ⟨b, 1, none⟩ = some v1 ∧ w.cell? ⟨b, 2, none⟩ = some v2 ∧ w.cell? ⟨b, 3, none⟩ = some v3 := by
  refine ⟨?_, ?_, ?_, ?_⟩ <;> (rw [cell_of_heap h]; rfl)
theorem At4.keep (h : At4 T w b v0 v1 v2 v3) (hb : Below w.heap.size w w') : At4 T w' b v0 v1 v2 v3 := (hb.block b (heap_lt h)).trans h
theorem At4.keepB {B : Nat} (h : At4 T w b v0 v1 v2 v3) (hb : Below B w w') (hB : b < B) : At4 T w' b v0 v1 v2 v3 := (hb.block b hB).trans h
theorem at4_new (T : TypeId) (w : World) (v0 v1 v2 v3 : Value) : At4 T (w.alloc (.cells #[v0, v1, v2, v3] T)) w.heap.size v0 v1 v2 v3 := heap_alloc_new w _
theorem At4.alloc (h : At4 T w b v0 v1 v2 v3) (o : Obj) : At4 T (w.alloc o) b v0 v1 v2 v3 := h.keep ((Below.refl _ _).alloc (Nat.le_refl _) o)
theorem At4.drew (h : At4 T w b v0 v1 v2 v3) : At4 T w.drew b v0 v1 v2 v3 := h
structure Bx4 (T : TypeId) (w w' : World) (v0 v1 v2 v3 : Value) : Prop where
  bel : Below w.heap.size w w'
  box : At4 T w' w.heap.size v0 v1 v2 v3
theorem Bx4.lt (h : Bx4 T w w' v0 v1 v2 v3) : w.heap.size < w'.heap.size := heap_lt h.box
theorem Bx4.keep {w2 : World} (h : Bx4 T w w' v0 v1 v2 v3) (hB : Below w'.heap.size w' w2) : Bx4 T w w2 v0 v1 v2 v3 := ⟨h.bel.trans (hB.mono (Nat.le_of_lt h.lt)), h.box.keep hB⟩
theorem Bx4.alloc (h : Bx4 T w w' v0 v1 v2 v3) (o : Obj) : Bx4 T w (w'.alloc o) v0 v1 v2 v3 := h.keep ((Below.refl _ _).alloc (Nat.le_refl _) o)
end Go.Proofs.YtdpgfnnhbfkacaaGreatDoor.Kt
