/-
  Zeros appended to nil; slices of slices, laid end to end: what slices.Grow and slices.Concat want of any type of elements told by its cells.
-/
import Derived.Test.YtekndioohjlmcaaDoorRw
import Derived.Lib.AppendZeros
set_option linter.unusedVariables false
namespace Go.Proofs.YtekndioohjlmcaaDoor.Rw
open Go.RowKit

variable {T : Type} {S : Sh T}
/-- So many zeros behind a nil slice: a new row, with room for them. -/
theorem append_zeros (S : Sh T) {ops : Array Oper} {rest : List Oper} {o : Oper} {a : Act} {Q : Exit → Act → World → Prop} (hgd : o.guard = none) (s x : Operand) (tn : TypeId) (htn : Tryd.prog.underlying tn = some (.int .i64))
    (ho : o.op = .call { callee := .builtin .append, args := #[s, x], argTypes := #[S.ts, tn] }) (w : World) (n : Nat)
    (hs : a.eval s = .slice none 0 0) (hx : a.eval x = .int .i64 (n : Int)) (h0 : 0 < n) (hn : n ≤ 4000000)
    (h : ∀ cap w', n ≤ cap → w'.ownsRow w.heap.size S.te S.k (.slice (some ⟨w.heap.size, 0, none⟩) 0 cap) 0 (cells S []) → w.grownBy w' none → wpList Tryd.prog ops Q rest (a.put o.dst (.slice (some ⟨w.heap.size, 0, none⟩) n cap)) w') :
    wpList Tryd.prog ops Q (o :: rest) a w := by
  obtain ⟨i0, hi, hz0, hz1, hz2⟩ := info_parts S.info
  have hr := Lib.run_append_nil_zeros (P := Tryd.prog) w S.ts tn o.type S.te i0 S.zv .i64 .i64 S.und htn hi hz0 n h0 (by rw [hz1]; exact S.pos) (by omega) (by rw [hz2]; have := Nat.mul_le_mul hn S.small; omega)
  have hge := grownCap_ge w n 0 S.te
  have hcm := grownCap_le_maxLen w n 0 S.te (by unfold maxLen; omega)
  refine Lib.wpList_append_run w hgd s x S.ts tn ho _ _ hs hx _ _ hr ?_
  refine h _ _ hge ⟨by rw [cells_len]; rfl, .inr ⟨w.heap.size, _, _, rfl, Nat.le_refl _, heap_alloc_new w.drew _, Nat.zero_le _, hcm, ?_, ?_⟩⟩ ⟨rfl, rfl, rfl, by simp, fun k hk _ => heap_alloc_old w.drew _ hk⟩
  · rw [Array.size_append, size_zeroCells, size_zeroCells, S.zcells, ← Nat.add_mul]
    congr 1
    omega
  · simp [cells]
/-- One of the slices that are laid end to end. -/
structure Pt (T : Type) where
  a : Option Addr
  n : Nat
  c : Nat
  xs : List T
def cat (ps : List (Pt T)) (k : Nat) : List T := (ps.take k).flatMap Pt.xs
theorem cat_step {ps : List (Pt T)} {k : Nat} {p : Pt T} (h : ps[k]? = some p) : cat ps (k + 1) = cat ps k ++ p.xs := by
  unfold cat
  rw [List.take_add_one, h]
  simp
theorem cat_le (ps : List (Pt T)) (k : Nat) : (cat ps k).length ≤ (cat ps ps.length).length := by
  unfold cat
  rw [List.take_length]
  conv => rhs; rw [← List.take_append_drop k ps]
  rw [List.flatMap_append, List.length_append]
  omega
/-- Slices in a row of slices in block r. -/
def PtsAt (S : Sh T) (w : World) (r : Nat) (ps : List (Pt T)) : Prop := ∀ i p, ps[i]? = some p → w.cell? ⟨r, i, none⟩ = some (.slice p.a p.n p.c) ∧ At S w p.a p.n p.xs
theorem PtsAt.at {w : World} {r : Nat} {ps : List (Pt T)} (h : PtsAt S w r ps) {i : Nat} (hi : i < ps.length) :
    ∃ p, ps[i]? = some p ∧ r < w.heap.size ∧ p.xs.length = p.n ∧ ∀ w', Below w.heap.size w w' → w'.cell? ⟨r, i, none⟩ = some (.slice p.a p.n p.c) ∧ At S w' p.a p.n p.xs := by
  obtain ⟨p, hp⟩ : ∃ p, ps[i]? = some p := ⟨_, List.getElem?_eq_getElem hi⟩
  obtain ⟨h1, h2⟩ := h i p hp
  have hr := World.block_lt_of_cell? w _ h1
  exact ⟨p, hp, hr, h2.1, fun w' hb => ⟨(hb.cell (p := ⟨r, i, none⟩) hr).trans h1, h2.keep hb⟩⟩
theorem pts3 {w : World} {r : Nat} {t : TypeId} {p0 p1 p2 : Pt T} (h : w.heap[r]? = some (.cells #[.slice p0.a p0.n p0.c, .slice p1.a p1.n p1.c, .slice p2.a p2.n p2.c] t (0, 0))) (h0 : At S w p0.a p0.n p0.xs) (h1 : At S w p1.a p1.n p1.xs) (h2 : At S w p2.a p2.n p2.xs) :
    PtsAt S w r [p0, p1, p2] := by
  intro i p hp
  rcases i with _ | _ | _ | i
  · cases hp; exact ⟨by simp [World.cell?, h], h0⟩
  · cases hp; exact ⟨by simp [World.cell?, h], h1⟩
  · cases hp; exact ⟨by simp [World.cell?, h], h2⟩
  · cases hp
theorem pts2 {w : World} {r : Nat} {t : TypeId} {p0 p1 : Pt T} (h : w.heap[r]? = some (.cells #[.slice p0.a p0.n p0.c, .slice p1.a p1.n p1.c] t (0, 0))) (h0 : At S w p0.a p0.n p0.xs) (h1 : At S w p1.a p1.n p1.xs) :
    PtsAt S w r [p0, p1] := by
  intro i p hp
  rcases i with _ | _ | i
  · cases hp; exact ⟨by simp [World.cell?, h], h0⟩
  · cases hp; exact ⟨by simp [World.cell?, h], h1⟩
  · cases hp
theorem cat3 (p0 p1 p2 : Pt T) : cat [p0, p1, p2] 3 = p0.xs ++ (p1.xs ++ p2.xs) := by simp [cat]
theorem cat2 (p0 p1 : Pt T) : cat [p0, p1] 2 = p0.xs ++ p1.xs := by simp [cat]
end Go.Proofs.YtekndioohjlmcaaDoor.Rw
