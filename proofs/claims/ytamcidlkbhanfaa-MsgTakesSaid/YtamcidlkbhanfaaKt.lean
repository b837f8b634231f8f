/-
  What every layer's walks share: blocks told of their cells, three cells stored, chains of Below, drawn regions not to be unfolded.
-/
import Derived.Test.YtamcidlkbhanfaaChecked
import Derived.WalkKit
import Derived.Lib.Hide
import Derived.Below
import Derived.Lib.BufferWrite
import Derived.WalkLawsBesides
import Derived.WalkSpells
import Derived.Lib.QuietBelow
set_option linter.unusedVariables false
namespace Go.Proofs.Ytamcidlkbhanfaa.Kt
open Go.RowKit

theorem below_keep {B : Nat} {a b c : World} (h : Below B a b) (k : Below b.heap.size b c) (hB : B ≤ b.heap.size) : Below B a c := h.trans (k.mono hB)
theorem below_drewN {B : Nat} {w w' : World} (h : Below B w w') (n : Nat) : Below B w (w'.drewN n) := ⟨h.os, h.tape, h.output, h.size, h.block⟩
theorem below_drew {B : Nat} {w w' : World} (h : Below B w w') : Below B w w'.drew := ⟨h.os, h.tape, h.output, h.size, h.block⟩
theorem ret_bool {a b : Bool} (h : a = b) : Ending.returned (.bool b) = .returned (.bool a) := by rw [h]
theorem ret_int {a b : Int} (h : a = b) : Ending.returned (.int .i64 b) = .returned (.int .i64 a) := by rw [h]
theorem cell_of_heap {w : World} {b i : Nat} {cs : Array Value} {t : TypeId} {fr : Nat × Nat} (h : w.heap[b]? = some (.cells cs t fr)) : w.cell? ⟨b, i, none⟩ = cs[i]? := by simp [World.cell?, h]
theorem frozen_of_heap {w : World} {b i : Nat} {cs : Array Value} {t : TypeId} (h : w.heap[b]? = some (.cells cs t (0, 0))) : w.frozen? ⟨b, i, none⟩ = false := by simp [World.frozen?, h]
theorem heap_lt {w : World} {b : Nat} {o : Obj} (h : w.heap[b]? = some o) : b < w.heap.size := (Array.getElem?_eq_some_iff.1 h).1
/-- Three cells in block b. -/
abbrev At3 (T : TypeId) (w : World) (b : Nat) (v0 v1 v2 : Value) : Prop := w.heap[b]? = some (.cells #[v0, v1, v2] T (0, 0))
theorem cells3 {T : TypeId} {w : World} {v0 v1 v2 : Value} {b : Nat} (h : At3 T w b v0 v1 v2) : w.cell? ⟨b, 0, none⟩ = some v0 ∧ w.cell? ⟨b, 1, none⟩ = some v1 ∧ w.cell? ⟨b, 2, none⟩ = some v2 := by
  refine ⟨?_, ?_, ?_⟩ <;> (rw [cell_of_heap h]; rfl)
theorem free3 {T : TypeId} {w : World} {v0 v1 v2 : Value} {b : Nat} (h : At3 T w b v0 v1 v2) : w.frozen? ⟨b, 0, none⟩ = false ∧ w.frozen? ⟨b, 1, none⟩ = false ∧ w.frozen? ⟨b, 2, none⟩ = false :=
  ⟨frozen_of_heap h, frozen_of_heap h, frozen_of_heap h⟩
theorem At3.keep {T : TypeId} {w w' : World} {v0 v1 v2 : Value} {b : Nat} (h : At3 T w b v0 v1 v2) (hb : Below w.heap.size w w') : At3 T w' b v0 v1 v2 := (hb.block b (heap_lt h)).trans h
theorem At3.keepB {T : TypeId} {w w' : World} {v0 v1 v2 : Value} {b B : Nat} (h : At3 T w b v0 v1 v2) (hb : Below B w w') (hB : b < B) : At3 T w' b v0 v1 v2 := (hb.block b hB).trans h
theorem at3_new (T : TypeId) (w : World) (v0 v1 v2 : Value) : At3 T (w.alloc (.cells #[v0, v1, v2] T)) w.heap.size v0 v1 v2 := heap_alloc_new w _
theorem At3.alloc {T : TypeId} {w : World} {v0 v1 v2 : Value} {b : Nat} (h : At3 T w b v0 v1 v2) (o : Obj) : At3 T (w.alloc o) b v0 v1 v2 := h.keep ((Below.refl _ _).alloc (Nat.le_refl _) o)
theorem At3.drew {T : TypeId} {w : World} {v0 v1 v2 : Value} {b : Nat} (h : At3 T w b v0 v1 v2) : At3 T w.drew b v0 v1 v2 := h
theorem At3.drewN {T : TypeId} {w : World} {v0 v1 v2 : Value} {b : Nat} (h : At3 T w b v0 v1 v2) (n : Nat) : At3 T (w.drewN n) b v0 v1 v2 := h
/-- Three cells are stored. -/
abbrev put3 (w : World) (k : Nat) (v0 v1 v2 : Value) : World := ((w.setCell ⟨k, 0, none⟩ v0).setCell ⟨k, 1, none⟩ v1).setCell ⟨k, 2, none⟩ v2
theorem heap_put3 {T : TypeId} {w : World} {k : Nat} {x0 x1 x2 : Value} (h : At3 T w k x0 x1 x2) (v0 v1 v2 : Value) : At3 T (put3 w k v0 v1 v2) k v0 v1 v2 := by
  have h1 := Lib.heap_setCell_same (i := 0) h v0
  have h2 := Lib.heap_setCell_same (i := 1) h1 v1
  exact Lib.heap_setCell_same (i := 2) h2 v2
theorem put3_other {w : World} {k : Nat} (v0 v1 v2 : Value) {j : Nat} (h : j ≠ k) : (put3 w k v0 v1 v2).heap[j]? = w.heap[j]? := by
  unfold put3
  rw [heap_setCell_other _ _ _ _ (by exact h), heap_setCell_other _ _ _ _ (by exact h), heap_setCell_other _ _ _ _ (by exact h)]
theorem size_put3 (w : World) (k : Nat) (v0 v1 v2 : Value) : (put3 w k v0 v1 v2).heap.size = w.heap.size := by simp [put3]
theorem below_put3 {B : Nat} {w0 w : World} {k : Nat} (h : Below B w0 w) (hk : B ≤ k) (v0 v1 v2 : Value) : Below B w0 (put3 w k v0 v1 v2) :=
  ((h.setCell (p := ⟨k, 0, none⟩) hk _).setCell (p := ⟨k, 1, none⟩) hk _).setCell (p := ⟨k, 2, none⟩) hk _
/-- A boxed struct that stays while more is done. -/
structure Bx3 (T : TypeId) (w w' : World) (v0 v1 v2 : Value) : Prop where
  bel : Below w.heap.size w w'
  box : At3 T w' w.heap.size v0 v1 v2
theorem Bx3.lt {T : TypeId} {w w' : World} {v0 v1 v2 : Value} (h : Bx3 T w w' v0 v1 v2) : w.heap.size < w'.heap.size := heap_lt h.box
theorem Bx3.keep {T : TypeId} {w w' w2 : World} {v0 v1 v2 : Value} (h : Bx3 T w w' v0 v1 v2) (hB : Below w'.heap.size w' w2) : Bx3 T w w2 v0 v1 v2 := ⟨h.bel.trans (hB.mono (Nat.le_of_lt h.lt)), h.box.keep hB⟩
theorem Bx3.alloc {T : TypeId} {w w' : World} {v0 v1 v2 : Value} (h : Bx3 T w w' v0 v1 v2) (o : Obj) : Bx3 T w (w'.alloc o) v0 v1 v2 := h.keep ((Below.refl _ _).alloc (Nat.le_refl _) o)
theorem bx3_new (T : TypeId) (w : World) (v0 v1 v2 : Value) : Bx3 T w (w.alloc (.cells #[v0, v1, v2] T)) v0 v1 v2 := ⟨(Below.refl _ w).alloc (Nat.le_refl _) _, at3_new T w _ _ _⟩
/-- A drawn region's walk, not to be unfolded. -/
structure Qw (P : Program) (ops : Array Oper) (C : World → Prop) (Q : Act → Prop) (l : List Oper) (a : Act) : Prop where
  out : wpQuiet P ops C Q l a
theorem qw_skip {P : Program} {ops : Array Oper} {C : World → Prop} {Q : Act → Prop} {a : Act} {o : Oper} {rest : List Oper} (hw : Region.wanted o (yielded ops a.tmps) = false) (h : Qw P ops C Q rest (a.put o.dst undef)) : Qw P ops C Q (o :: rest) a :=
  ⟨wpQuiet_step fun K hK => by rw [hw]; exact hK _ h.out⟩
theorem qw_take {P : Program} {ops : Array Oper} {C : World → Prop} {Q : Act → Prop} {a : Act} {o : Oper} {rest : List Oper} (hw : Region.wanted o (yielded ops a.tmps) = true) (h : ∀ K : Act → Prop, (∀ a, Qw P ops C Q rest a → K a) → o.quiet P a C K) : Qw P ops C Q (o :: rest) a :=
  ⟨wpQuiet_step fun K hK => by rw [hw]; exact h K fun a h => hK a h.out⟩
theorem qw_nil {P : Program} {ops : Array Oper} {C : World → Prop} {Q : Act → Prop} {a : Act} (h : Q a) : Qw P ops C Q [] a := ⟨h⟩
theorem wp_region_qw {P : Program} {id : Nat} {Q : Exit → Act → World → Prop} {a : Act} {w : World} {l : List Oper} (hm : P.follows .mixedOrders = true) (hB : Region.lexB .any l.toArray = true)
    (h : Qw P l.toArray (fun w' => ∃ p : Regrown, w' = Sort.grow (redrawn w p.d) p.os) (fun a' => ∀ w', (∃ p : Regrown, w' = Sort.grow (redrawn w p.d) p.os) → Q .normal a' w') l a) : (Code.region id l.toArray true).wp P Q a w :=
  wp_region_quiet_below hm hB h.out
end Go.Proofs.Ytamcidlkbhanfaa.Kt
