/-
  What iterators' walks share: all but some blocks as they were.
-/
import Derived.Test.YtamcidlkbhanfaaKt
import Derived.Lib.Hide
import Derived.RangeFuncNested
import Derived.RangeFuncBound
import Derived.RangeFuncCalls
import Derived.RangeFuncLeaves
import Derived.Shelf.Abstract
import Derived.Shelf.RegionOpen
import Derived.OwnWalkIn
import Derived.TacticsInMore
import Derived.LoopNIn
import Derived.LoopIn
set_option linter.unusedVariables false
namespace Go.Proofs.Ytamcidlkbhanfaa.It
open Go.RowKit Go.Shelf

/-- Below n0 the world is as it was, but for the blocks gs. -/
structure But (n0 : Nat) (gs : List Nat) (w w' : World) : Prop where
  os : w'.os = w.os
  tape : w'.tape = w.tape
  output : w'.output = w.output
  size : w.heap.size ≤ w'.heap.size
  block : ∀ k, k < n0 → k ∉ gs → w'.heap[k]? = w.heap[k]?
theorem But.refl (n0 : Nat) (gs : List Nat) (w : World) : But n0 gs w w := ⟨rfl, rfl, rfl, Nat.le_refl _, fun _ _ _ => rfl⟩
theorem But.trans {n0 : Nat} {gs : List Nat} {a b c : World} (h : But n0 gs a b) (k : But n0 gs b c) : But n0 gs a c :=
  ⟨k.os.trans h.os, k.tape.trans h.tape, k.output.trans h.output, Nat.le_trans h.size k.size, fun i hi hn => (k.block i hi hn).trans (h.block i hi hn)⟩
theorem But.of_below {n0 : Nat} {gs : List Nat} {w w' : World} (h : Below n0 w w') : But n0 gs w w' := ⟨h.os, h.tape, h.output, h.size, fun k hk _ => h.block k hk⟩
theorem But.of_grown {n0 : Nat} {gs : List Nat} {w w' : World} {row : Option Nat} (h : w.grownBy w' row) (hn : n0 ≤ w.heap.size) (hr : ∀ k, row = some k → n0 ≤ k ∨ k ∈ gs) : But n0 gs w w' :=
  ⟨h.os, h.tape, h.output, h.size, fun k hk hg => h.block k (by omega) (fun e => (hr k e.symm).elim (by omega) hg)⟩
theorem But.cell {n0 : Nat} {gs : List Nat} {w w' : World} (h : But n0 gs w w') {b o : Nat} (hb : b < n0) (hg : b ∉ gs) : w'.cell? ⟨b, o, none⟩ = w.cell? ⟨b, o, none⟩ := World.cell?_of_block (a := ⟨b, o, none⟩) (h.block b hb hg)
theorem But.below {n0 B : Nat} {gs : List Nat} {w w' : World} (h : But n0 gs w w') (hB : B ≤ n0) (hg : ∀ k ∈ gs, B ≤ k) : Below B w w' := ⟨h.os, h.tape, h.output, h.size, fun k hk => h.block k (by omega) (fun hm => by have := hg k hm; omega)⟩
theorem But.mono {n0 : Nat} {gs gs' : List Nat} {w w' : World} (h : But n0 gs w w') (hg : ∀ k ∈ gs, k ∈ gs') : But n0 gs' w w' := ⟨h.os, h.tape, h.output, h.size, fun k hk hn => h.block k hk (fun hm => hn (hg k hm))⟩
theorem But.drew {n0 : Nat} {gs : List Nat} {a w : World} (h : But n0 gs a w) : But n0 gs a w.drew := ⟨h.os, h.tape, h.output, h.size, h.block⟩
theorem but_b {n0 : Nat} {gs : List Nat} {w : World} (hn : n0 ≤ w.heap.size) (W : World) (l : Nat) (o o' : Obj) (hl : w.heap.size ≤ l) (h : W.heap[l]? = some o) (_ : o.isCells = false) (_ : o.isWalk = false) : But n0 gs W (W.putObj l o') :=
  But.of_grown (grownBy_putObj' W l o') (by have := (Array.getElem?_eq_some_iff.1 h).1; omega) (fun k e => by cases e; left; omega)
theorem grown_of_below {w w' : World} (h : Below w.heap.size w w') : w.grownBy w' none := ⟨h.os, h.tape, h.output, h.size, fun k hk _ => h.block k hk⟩
theorem cell_two {w : World} {v1 v2 : Value} {t1 t2 : TypeId} :
    ((w.alloc (.cells #[v1] t1)).alloc (.cells #[v2] t2)).cell? ⟨w.heap.size, 0, none⟩ = some v1 ∧ ((w.alloc (.cells #[v1] t1)).alloc (.cells #[v2] t2)).cell? ⟨w.heap.size + 1, 0, none⟩ = some v2 := by
  have h1 : (w.alloc (.cells #[v1] t1)).heap[w.heap.size]? = some (.cells #[v1] t1) := heap_alloc_new w _
  have h2 : ((w.alloc (.cells #[v1] t1)).alloc (.cells #[v2] t2)).heap[w.heap.size + 1]? = some (.cells #[v2] t2) := by
    have := heap_alloc_new (w.alloc (.cells #[v1] t1)) (.cells #[v2] t2)
    simpa using this
  refine ⟨?_, Kt.cell_of_heap h2⟩
  exact Kt.cell_of_heap (i := 0) ((Below.heap_alloc _ _ _ (by simp)).trans h1)
/-- A block of cells stays while what is no block of cells is put. -/
theorem cells_kept {X Y : World} {row : Option Nat} {b : Nat} {cs : Array Value} {t : TypeId} {f : Nat × Nat} (h : X.heap[b]? = some (.cells cs t f)) (hg : X.grownBy Y row) (hr : ∀ r, row = some r → ∃ o : Obj, X.heap[r]? = some o ∧ o.isCells = false) : Y.heap[b]? = some (.cells cs t f) :=
  (hg.block b (Kt.heap_lt h) (fun e => by obtain ⟨o, ho, hc⟩ := hr b e.symm; rw [h] at ho; cases ho; cases hc)).trans h
end Go.Proofs.Ytamcidlkbhanfaa.It
