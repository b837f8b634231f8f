/-
  What every layer's walks share: blocks told of their cells, three cells stored, chains of Below, drawn regions not to be unfolded.
-/
import Derived.Test.YtdpgfnnhbfkacaaGreatDoorChecked
import Derived.WalkKit
import Derived.Lib.Hide
import Derived.Below
import Derived.Lib.BufferWrite
import Derived.WalkLawsBesides
import Derived.WalkSpells
import Derived.Lib.QuietBelow
set_option linter.unusedVariables false
namespace Go.Proofs.YtdpgfnnhbfkacaaGreatDoor.Kt
open Go.RowKit
theorem below_keep {B : Nat} {a b c : World} (h : Below B a b) (k : Below b.heap.size b c) (hB : B ≤ b.heap.size) : Below B a c := h.trans (k.mono hB)
theorem below_drewN {B : Nat} {w w' : World} (h : Below B w w') (n : Nat) : Below B w (w'.drewN n) := ⟨h.os, h.tape, h.output, h.size, h.block⟩
theorem ret_bool {a b : Bool} (h : a = b) : Ending.returned (.bool b) = .returned (.bool a) := by rw [h]
theorem ret_int {a b : Int} (h : a = b) : Ending.returned (.int .i64 b) = .returned (.int .i64 a) := by rw [h]
theorem cell_of_heap {w : World} {b i : Nat} {cs : Array Value} {t : TypeId} {fr : Nat × Nat} (h : w.heap[b]? = some (.cells cs t fr)) : w.cell? ⟨b, i, none⟩ = cs[i]? := by simp [World.cell?, h]
theorem frozen_of_heap {w : World} {b i : Nat} {cs : Array Value} {t : TypeId} (h : w.heap[b]? = some (.cells cs t (0, 0))) : w.frozen? ⟨b, i, none⟩ = false := by simp [World.frozen?, h]
theorem heap_lt {w : World} {b : Nat} {o : Obj} (h : w.heap[b]? = some o) : b < w.heap.size := (Array.getElem?_eq_some_iff.1 h).1
abbrev At3 (T : TypeId) (w : World) (b : Nat) (v0 v1 v2 : Value) : Prop := w.heap[b]? = some (.cells #[v0, v1, v2] T (0, 0))
theorem At3.keep {T : TypeId} {w w' : World} {v0 v1 v2 : Value} {b : Nat} (h : At3 T w b v0 v1 v2) (hb : Below w.heap.size w w') : At3 T w' b v0 v1 v2 := (hb.block b (heap_lt h)).trans h
theorem At3.keepB {T : TypeId} {w w' : World} {v0 v1 v2 : Value} {b B : Nat} (h : At3 T w b v0 v1 v2) (hb : Below B w w') (hB : b < B) : At3 T w' b v0 v1 v2 := (hb.block b hB).trans h
theorem At3.alloc {T : TypeId} {w : World} {v0 v1 v2 : Value} {b : Nat} (h : At3 T w b v0 v1 v2) (o : Obj) : At3 T (w.alloc o) b v0 v1 v2 := h.keep ((Below.refl _ _).alloc (Nat.le_refl _) o)
theorem At3.drew {T : TypeId} {w : World} {v0 v1 v2 : Value} {b : Nat} (h : At3 T w b v0 v1 v2) : At3 T w.drew b v0 v1 v2 := h
theorem At3.drewN {T : TypeId} {w : World} {v0 v1 v2 : Value} {b : Nat} (h : At3 T w b v0 v1 v2) (n : Nat) : At3 T (w.drewN n) b v0 v1 v2 := h
structure Bx3 (T : TypeId) (w w' : World) (v0 v1 v2 : Value) : Prop where
  bel : Below w.heap.size w w'
  box : At3 T w' w.heap.size v0 v1 v2
theorem Bx3.lt {T : TypeId} {w w' : World} {v0 v1 v2 : Value} (h : Bx3 T w w' v0 v1 v2) : w.heap.size < w'.heap.size := heap_lt h.box
theorem Bx3.keep {T : TypeId} {w w' w2 : World} {v0 v1 v2 : Value} (h : Bx3 T w w' v0 v1 v2) (hB : Below w'.heap.size w' w2) : Bx3 T w w2 v0 v1 v2 := ⟨h.bel.trans (hB.mono (Nat.le_of_lt h.lt)), h.box.keep hB⟩
theorem Bx3.alloc {T : TypeId} {w w' : World} {v0 v1 v2 : Value} (h : Bx3 T w w' v0 v1 v2) (o : Obj) : Bx3 T w (w'.alloc o) v0 v1 v2 := h.keep ((Below.refl _ _).alloc (Nat.le_refl _) o)
structure Qw (P : Program) (ops : Array Oper) (C : World → Prop) (Q : Act → Prop) (l : List Oper) (a : Act) : Prop where
  out : wpQuiet P ops C Q l a
theorem qw_skip {P : Program} {ops : Array Oper} {C : World → Prop} {Q : Act → Prop} {a : Act} {o : Oper} {rest : List Oper} (hw : Region.wanted o (yielded ops a.tmps) = false) (h : Qw P ops C Q rest (a.put o.dst undef)) : Qw P ops C Q (o :: rest) a :=
  ⟨wpQuiet_step fun K hK => by rw [hw]; exact hK _ h.out⟩
theorem qw_take {P : Program} {ops : Array Oper} {C : World → Prop} {Q : Act → Prop} {a : Act} {o : Oper} {rest : List Oper} (hw : Region.wanted o (yielded ops a.tmps) = true) (h : ∀ K : Act → Prop, (∀ a, Qw P ops C Q rest a → K a) → o.quiet P a C K) : Qw P ops C Q (o :: rest) a :=
  ⟨wpQuiet_step fun K hK => by rw [hw]; exact h K fun a h => hK a h.out⟩
theorem qw_nil {P : Program} {ops : Array Oper} {C : World → Prop} {Q : Act → Prop} {a : Act} (h : Q a) : Qw P ops C Q [] a := ⟨h⟩
theorem wp_region_qw {P : Program} {id : Nat} {Q : Exit → Act → World → Prop} {a : Act} {w : World} {l : List Oper} (hm : P.follows .mixedOrders = true) (hB : Region.lexB .any l.toArray = true)
    (h : Qw P l.toArray (fun w' => ∃ p : Regrown, w' = Sort.grow (redrawn w p.d) p.os) (fun a' => ∀ w', (∃ p : Regrown, w' = Sort.grow (redrawn w p.d) p.os) → Q .normal a' w') l a) : (Code.region id l.toArray true).wp P Q a w :=
  wp_region_quiet_below hm hB h.out
end Go.Proofs.YtdpgfnnhbfkacaaGreatDoor.Kt
