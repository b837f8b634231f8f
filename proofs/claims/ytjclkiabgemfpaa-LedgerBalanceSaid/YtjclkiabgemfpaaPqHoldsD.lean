/-
  The contracts of the document's Few and Find: any holds; what was there stays as it was.
-/
import Derived.Test.YtjclkiabgemfpaaPqHoldsA
import Derived.Lib.BufferWrite
set_option linter.unusedVariables false
set_option maxRecDepth 4000
set_option maxRecDepth 4000
namespace Go.Proofs.Ytjclkiabgemfpaa.Holds
open Go.RowKit LinesP HoldsP
open Go.Proofs.Ytjclkiabgemfpaa.Lines (LsAt Sz SzM ret_bool ret_int below_keep below_drewN fewV)

theorem cell_of_heap {w : World} {b i : Nat} {cs : Array Value} {t : TypeId} {fr : Nat × Nat} (h : w.heap[b]? = some (.cells cs t fr)) : w.cell? ⟨b, i, none⟩ = cs[i]? := by simp [World.cell?, h]
theorem frozen_of_heap {w : World} {b i : Nat} {cs : Array Value} {t : TypeId} (h : w.heap[b]? = some (.cells cs t (0, 0))) : w.frozen? ⟨b, i, none⟩ = false := by simp [World.frozen?, h]
theorem heap_lt {w : World} {b : Nat} {o : Obj} (h : w.heap[b]? = some o) : b < w.heap.size := (Array.getElem?_eq_some_iff.1 h).1
abbrev At3 (w : World) (b : Nat) (v0 v1 v2 : Value) : Prop := w.heap[b]? = some (.cells #[v0, v1, v2] 60 (0, 0))
theorem cells3 {w : World} {v0 v1 v2 : Value} {b : Nat} (h : At3 w b v0 v1 v2) : w.cell? ⟨b, 0, none⟩ = some v0 ∧ w.cell? ⟨b, 1, none⟩ = some v1 ∧ w.cell? ⟨b, 2, none⟩ = some v2 := by
  refine ⟨?_, ?_, ?_⟩ <;> (rw [cell_of_heap h]; rfl)
theorem free3 {w : World} {v0 v1 v2 : Value} {b : Nat} (h : At3 w b v0 v1 v2) : w.frozen? ⟨b, 0, none⟩ = false ∧ w.frozen? ⟨b, 1, none⟩ = false ∧ w.frozen? ⟨b, 2, none⟩ = false :=
  ⟨frozen_of_heap h, frozen_of_heap h, frozen_of_heap h⟩
theorem At3.keep {w w' : World} {v0 v1 v2 : Value} {b : Nat} (h : At3 w b v0 v1 v2) (hb : Below w.heap.size w w') : At3 w' b v0 v1 v2 := (hb.block b (heap_lt h)).trans h
theorem at3_new (w : World) (v0 v1 v2 : Value) : At3 (w.alloc (.cells #[v0, v1, v2] 60)) w.heap.size v0 v1 v2 := heap_alloc_new w _
theorem At3.alloc {w : World} {v0 v1 v2 : Value} {b : Nat} (h : At3 w b v0 v1 v2) (o : Obj) : At3 (w.alloc o) b v0 v1 v2 := h.keep ((Below.refl _ _).alloc (Nat.le_refl _) o)
abbrev put3 (w : World) (k : Nat) (v0 v1 v2 : Value) : World := ((w.setCell ⟨k, 0, none⟩ v0).setCell ⟨k, 1, none⟩ v1).setCell ⟨k, 2, none⟩ v2
theorem heap_put3 {w : World} {k : Nat} {x0 x1 x2 : Value} (h : At3 w k x0 x1 x2) (v0 v1 v2 : Value) : At3 (put3 w k v0 v1 v2) k v0 v1 v2 := by
  have h1 := Lib.heap_setCell_same (i := 0) h v0
  have h2 := Lib.heap_setCell_same (i := 1) h1 v1
  exact Lib.heap_setCell_same (i := 2) h2 v2
theorem put3_other {w : World} {k : Nat} (v0 v1 v2 : Value) {j : Nat} (h : j ≠ k) : (put3 w k v0 v1 v2).heap[j]? = w.heap[j]? := by
  unfold put3
  rw [heap_setCell_other _ _ _ _ (by exact h), heap_setCell_other _ _ _ _ (by exact h), heap_setCell_other _ _ _ _ (by exact h)]
theorem size_put3 (w : World) (k : Nat) (v0 v1 v2 : Value) : (put3 w k v0 v1 v2).heap.size = w.heap.size := by simp [put3]
theorem below_put3 {B : Nat} {w0 w : World} {k : Nat} (h : Below B w0 w) (hk : B ≤ k) (v0 v1 v2 : Value) : Below B w0 (put3 w k v0 v1 v2) :=
  ((h.setCell (p := ⟨k, 0, none⟩) hk _).setCell (p := ⟨k, 1, none⟩) hk _).setCell (p := ⟨k, 2, none⟩) hk _
theorem results_hold {fn : Func} {j k : Nat} (h : fn.results = #[.cell j 60, .tmp k]) (tmps : Array Value) (w : World) (b : Nat) (x0 x1 x2 : Value) (hp : tmps.getD j undef = .pointer (some ⟨b, 0, none⟩))
    (c : At3 w b x0 x1 x2) : (results fn tmps).run Try.prog w = .ok (.tuple #[.agg #[x0, x1, x2], tmps.getD k undef]) w := by
  have hp' : tmps[j]?.getD undef = .pointer (some ⟨b, 0, none⟩) := by rw [← hp]; simp
  obtain ⟨c0, c1, c2⟩ := cells3 c
  simp only [results, h]
  go_simp
theorem results_one {fn : Func} {j : Nat} (h : fn.results = #[.cell j 60]) (tmps : Array Value) (w : World) (b : Nat) (x0 x1 x2 : Value) (hp : tmps.getD j undef = .pointer (some ⟨b, 0, none⟩))
    (c : At3 w b x0 x1 x2) : (results fn tmps).run Try.prog w = .ok (.agg #[x0, x1, x2]) w := by
  have hp' : tmps[j]?.getD undef = .pointer (some ⟨b, 0, none⟩) := by rw [← hp]; simp
  obtain ⟨c0, c1, c2⟩ := cells3 c
  simp only [results, h]
  go_simp
/-! ### Few -/
def shortH (l : List Hd) : Bool := l.all fun x => fewV x.ls
def fewH (l : List Hd) : Bool := shortH (l.take 20) && decide (l.length ≤ 20)
def SzMH (l : List Hd) : Prop := ∀ x ∈ l, SzM x.ls
theorem fewH_sz {l : List Hd} (h : fewH l = true) (hm : SzMH l) : l.length ≤ 20 ∧ SzH l ∧ ∀ x ∈ l, x.ls.length ≤ 8 := by
  unfold fewH at h
  rw [Bool.and_eq_true, decide_eq_true_eq] at h
  rw [List.take_of_length_le h.2] at h
  have h1 := List.all_eq_true.1 h.1
  exact ⟨h.2, fun x hx => (Lines.few_sz (h1 x hx) (hm x hx)).2, fun x hx => (Lines.few_sz (h1 x hx) (hm x hx)).1⟩
theorem take_snocH {l : List Hd} {k : Nat} {x : Hd} (hk : k < l.length) (hx : l.getD k hd0 = x) : l.take (k + 1) = l.take k ++ [x] := by
  rw [List.take_succ_eq_append_getElem hk, ← hx]; simp [List.getD, hk]
theorem mem_getD {l : List Hd} {k : Nat} (hk : k < l.length) : l.getD k hd0 ∈ l := by
  rw [show l.getD k hd0 = l[k] by simp [List.getD, hk]]; exact List.getElem_mem hk
theorem rfewL_is (la : Option Addr) (n lc : Nat) (ls : List Ln) (b : Bool) (hb : fewV ls = b) (w : World) (h : LsAt w la n ls) (hs : SzM ls) :
    Calls Try.prog 11 #[.slice la n lc] w fun e w' => e = .returned (.bool b) ∧ Below w.heap.size w w' := by
  have := Lines.rfew_any la n lc ls w h hs
  rw [hb] at this
  exact this
/-! ### Find -/
def FindP (w : World) (o : Option Hd) (e : Ending) (w' : World) : Prop :=
  ∃ a c, e = .returned (.tuple #[.agg #[.int .i64 (o.getD hd0).saga, .slice a (o.getD hd0).ls.length c, .int .i64 (o.getD hd0).til], .bool o.isSome]) ∧ LsAt w' a (o.getD hd0).ls.length (o.getD hd0).ls ∧ Below w.heap.size w w'
theorem find_no {w w' : World} {o : Option Hd} (ho : o = none) (hb : Below w.heap.size w w') : FindP w o (.returned (.tuple #[.agg #[.int .i64 0, .slice none 0 0, .int .i64 0], .bool false])) w' := by
  subst ho
  exact ⟨none, 0, rfl, ⟨rfl, by decide, .inl rfl⟩, hb⟩
theorem find_yes {w w' : World} {o : Option Hd} {g : Int} {ls : List Ln} {t : Int} {a : Option Addr} {n c : Nat} (ho : o = some ⟨g, ls, t⟩) (hn : ls.length = n) (hL : LsAt w' a n ls) (hb : Below w.heap.size w w') :
    FindP w o (.returned (.tuple #[.agg #[.int .i64 g, .slice a n c, .int .i64 t], .bool true])) w' := by
  subst ho
  subst hn
  exact ⟨a, c, rfl, hL, hb⟩
end Go.Proofs.Ytjclkiabgemfpaa.Holds
