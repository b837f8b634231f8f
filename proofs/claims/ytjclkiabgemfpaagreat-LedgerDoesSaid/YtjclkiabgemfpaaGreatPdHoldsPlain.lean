/-
  Plain facts of holds: fit lists, what is found, put and dropped, how many are held; lists and numbers alone, nothing of the program.
-/
import Derived.Test.YtjclkiabgemfpaaGreatPdLinesPlain
set_option linter.unusedVariables false
set_option maxRecDepth 4000
namespace Go.Proofs.YtjclkiabgemfpaaGreat
open LinesP
namespace HoldsP

structure Hd where
  saga : Int
  ls : List Ln
  til : Int
def hd0 : Hd := ⟨0, [], 0⟩
def amtH (n : Int) : Bool := decide (0 ≤ n) && decide (n ≤ 1099511627776)
def oneH (h : Hd) : Bool := decide (1 ≤ h.saga) && decide (h.saga ≤ 1099511627776) && fitL h.ls && decide (0 < h.ls.length) && amtH h.til
def upH : Option Int → List Hd → Bool
  | _, [] => true
  | none, x :: r => oneH x && upH (some x.saga) r
  | some q, x :: r => oneH x && decide (q < x.saga) && upH (some x.saga) r
def fitH (l : List Hd) : Bool := decide (l.length ≤ 16) && upH none l
def findH (g : Int) : List Hd → Option Hd
  | [] => none
  | x :: r => if x.saga = g then some x else findH g r
def pos (g : Int) : List Hd → Nat
  | [] => 0
  | x :: r => if x.saga < g then pos g r + 1 else 0
def putL (l : List Hd) (h : Hd) : List Hd := l.take (pos h.saga l) ++ h :: l.drop (pos h.saga l)
def putH (l : List Hd) (h : Hd) : List Hd × Int :=
  if fitH l = true then if oneH h = true then if (findH h.saga l).isSome = true then ([], 3) else if l.length = 16 then ([], 4) else (putL l h, 0) else ([], 1) else ([], 12)
def less (g : Int) (l : List Hd) : List Hd := l.filter fun x => !(x.saga == g)
def dropH (l : List Hd) (g : Int) : List Hd × Int :=
  if fitH l = true then if (findH g l).isSome = true then (less g l, 0) else ([], 2) else ([], 12)
def sumH (s : ByteArray) : List Hd → Int
  | [] => 0
  | x :: r => ofL s x.ls + sumH s r
def totH (l : List Hd) (s : ByteArray) : Int := if fitH l = true then sumH s l else 0
def Up (q : Int) (l : List Hd) : Prop := (∀ x ∈ l, oneH x = true ∧ q < x.saga) ∧ l.Pairwise (fun x y => x.saga < y.saga)
theorem oneH_saga {h : Hd} (k : oneH h = true) : 1 ≤ h.saga ∧ h.saga ≤ 1099511627776 := by
  unfold oneH at k
  simp only [Bool.and_eq_true, decide_eq_true_eq] at k
  exact ⟨k.1.1.1.1, k.1.1.1.2⟩
theorem oneH_fit {h : Hd} (k : oneH h = true) : fitL h.ls = true := by
  unfold oneH at k
  simp only [Bool.and_eq_true, decide_eq_true_eq] at k
  exact k.1.1.2
theorem up_some : ∀ {q : Int} {l : List Hd}, upH (some q) l = true ↔ Up q l
  | q, [] => ⟨fun _ => ⟨fun x hx => (by cases hx), List.Pairwise.nil⟩, fun _ => rfl⟩
  | q, x :: r => by
    rw [upH]
    simp only [Bool.and_eq_true, decide_eq_true_eq]
    rw [up_some]
    constructor
    · rintro ⟨⟨h1, h2⟩, h3, h4⟩
      refine ⟨fun y hy => ?_, List.pairwise_cons.2 ⟨fun y hy => (h3 y hy).2, h4⟩⟩
      rcases List.mem_cons.1 hy with rfl | hy
      · exact ⟨h1, h2⟩
      · exact ⟨(h3 y hy).1, by have := (h3 y hy).2; omega⟩
    · rintro ⟨h1, h2⟩
      have h3 := List.pairwise_cons.1 h2
      exact ⟨h1 x List.mem_cons_self, fun y hy => ⟨(h1 y (List.mem_cons_of_mem _ hy)).1, h3.1 y hy⟩, h3.2⟩
theorem up_none {l : List Hd} : upH none l = true ↔ Up 0 l := by
  cases l with
  | nil => exact ⟨fun _ => ⟨fun x hx => (by cases hx), List.Pairwise.nil⟩, fun _ => rfl⟩
  | cons x r =>
    rw [upH]
    simp only [Bool.and_eq_true]
    rw [up_some]
    constructor
    · rintro ⟨h1, h3, h4⟩
      have hs := oneH_saga h1
      refine ⟨fun y hy => ?_, List.pairwise_cons.2 ⟨fun y hy => (h3 y hy).2, h4⟩⟩
      rcases List.mem_cons.1 hy with rfl | hy
      · exact ⟨h1, by omega⟩
      · exact ⟨(h3 y hy).1, by have := (h3 y hy).2; omega⟩
    · rintro ⟨h1, h2⟩
      have h3 := List.pairwise_cons.1 h2
      exact ⟨(h1 x List.mem_cons_self).1, fun y hy => ⟨(h1 y (List.mem_cons_of_mem _ hy)).1, h3.1 y hy⟩, h3.2⟩
theorem fitH_iff {l : List Hd} : fitH l = true ↔ l.length ≤ 16 ∧ Up 0 l := by
  unfold fitH
  simp only [Bool.and_eq_true, decide_eq_true_eq]
  rw [up_none]
def prevH (l : List Hd) (k : Nat) : Option Int := if k = 0 then none else some (l.getD (k - 1) hd0).saga
theorem drop_at {l : List Hd} {k : Nat} {x : Hd} (hk : k < l.length) (hx : l.getD k hd0 = x) : l.drop k = x :: l.drop (k + 1) := by
  rw [List.drop_eq_getElem_cons hk, ← hx]; simp [List.getD, hk]
theorem prevH_succ {l : List Hd} {k : Nat} {x : Hd} (hx : l.getD k hd0 = x) : prevH l (k + 1) = some x.saga := by
  unfold prevH; rw [if_neg (by omega), Nat.add_sub_cancel, hx]
theorem fitH_long {l : List Hd} (h : 16 < l.length) : fitH l = false := by unfold fitH; simp; omega
theorem fitH_short {l : List Hd} (h : l.length ≤ 16) : fitH l = upH none l := by unfold fitH; simp [h]
theorem upH_done {l : List Hd} {k : Nat} (h : ¬ k < l.length) : upH (prevH l k) (l.drop k) = true := by
  rw [List.drop_eq_nil_of_le (by omega)]; cases prevH l k <;> rfl
theorem upH_no {l : List Hd} {k : Nat} {x : Hd} (hk : k < l.length) (hx : l.getD k hd0 = x) (h : oneH x = false) : upH (prevH l k) (l.drop k) = false := by
  rw [drop_at hk hx]
  cases prevH l k <;> (rw [upH, h]; rfl)
theorem upH_less {l : List Hd} {k : Nat} {x y : Hd} (h0 : 0 < k) (hk : k < l.length) (hx : l.getD k hd0 = x) (hy : l.getD (k - 1) hd0 = y) (h : x.saga ≤ y.saga) : upH (prevH l k) (l.drop k) = false := by
  rw [drop_at hk hx]
  unfold prevH
  rw [if_neg (by omega), hy, upH, decide_eq_false (by omega), Bool.and_false]
  rfl
theorem upH_go0 {l : List Hd} {x : Hd} (hk : 0 < l.length) (hx : l.getD 0 hd0 = x) (h1 : oneH x = true) : upH (prevH l 0) (l.drop 0) = upH (prevH l (0 + 1)) (l.drop (0 + 1)) := by
  rw [drop_at hk hx, prevH_succ hx]
  unfold prevH
  rw [if_pos rfl, upH, h1]; rfl
theorem upH_go {l : List Hd} {k : Nat} {x y : Hd} (h0 : 0 < k) (hk : k < l.length) (hx : l.getD k hd0 = x) (hy : l.getD (k - 1) hd0 = y) (h1 : oneH x = true) (h : y.saga < x.saga) : upH (prevH l k) (l.drop k) = upH (prevH l (k + 1)) (l.drop (k + 1)) := by
  rw [drop_at hk hx, prevH_succ hx]
  unfold prevH
  rw [if_neg (by omega), hy, upH, h1, decide_eq_true h]; rfl
theorem find_drop_yes {l : List Hd} {k : Nat} {x : Hd} {g : Int} (hk : k < l.length) (hx : l.getD k hd0 = x) (h : x.saga = g) : findH g (l.drop k) = some x := by
  rw [drop_at hk hx, findH, if_pos h]
theorem find_drop_no {l : List Hd} {k : Nat} {x : Hd} {g : Int} (hk : k < l.length) (hx : l.getD k hd0 = x) (h : x.saga ≠ g) : findH g (l.drop k) = findH g (l.drop (k + 1)) := by
  rw [drop_at hk hx, findH, if_neg h]
theorem find_drop_done {l : List Hd} {k : Nat} {g : Int} (h : ¬ k < l.length) : findH g (l.drop k) = none := by
  rw [List.drop_eq_nil_of_le (by omega)]; rfl
theorem find_mem : ∀ {g : Int} {l : List Hd} {x : Hd}, findH g l = some x → x ∈ l ∧ x.saga = g
  | g, y :: r, x, h => by
    rw [findH] at h
    split at h
    · rename_i e; cases h; exact ⟨List.mem_cons_self, e⟩
    · have := find_mem h; exact ⟨List.mem_cons_of_mem _ this.1, this.2⟩
theorem find_none : ∀ {g : Int} {l : List Hd}, findH g l = none ↔ ∀ x ∈ l, x.saga ≠ g
  | g, [] => ⟨fun _ x hx => (by cases hx), fun _ => rfl⟩
  | g, y :: r => by
    rw [findH]
    split
    · rename_i e
      exact ⟨fun h => (by cases h), fun h => absurd e (h y List.mem_cons_self)⟩
    · rename_i e
      rw [find_none]
      exact ⟨fun h x hx => (List.mem_cons.1 hx).elim (fun q => q ▸ e) (h x), fun h x hx => h x (List.mem_cons_of_mem _ hx)⟩
theorem pos_le : ∀ (g : Int) (l : List Hd), pos g l ≤ l.length
  | g, [] => Nat.le_refl _
  | g, x :: r => by
    rw [pos]
    split
    · have := pos_le g r; simp; omega
    · exact Nat.zero_le _
theorem pos_drop_go {l : List Hd} {k : Nat} {x : Hd} {g : Int} (hk : k < l.length) (hx : l.getD k hd0 = x) (h : x.saga < g) : k + pos g (l.drop k) = (k + 1) + pos g (l.drop (k + 1)) := by
  rw [drop_at hk hx, pos, if_pos h]; omega
theorem pos_drop_stop {l : List Hd} {k : Nat} {x : Hd} {g : Int} (hk : k < l.length) (hx : l.getD k hd0 = x) (h : ¬ x.saga < g) : pos g (l.drop k) = 0 := by
  rw [drop_at hk hx, pos, if_neg h]
theorem pos_drop_done {l : List Hd} {k : Nat} {g : Int} (h : ¬ k < l.length) : pos g (l.drop k) = 0 := by
  rw [List.drop_eq_nil_of_le (by omega)]; rfl
theorem pos_iff : ∀ {l : List Hd} {g : Int} {i : Nat}, l.Pairwise (fun x y => x.saga < y.saga) → i < l.length → (i < pos g l ↔ (l.getD i hd0).saga < g)
  | [], g, i, _, h => by simp at h
  | x :: r, g, 0, hp, _ => by
    rw [pos]
    split
    · rename_i e; simpa using e
    · rename_i e; simpa using e
  | x :: r, g, i + 1, hp, h => by
    have hp2 := List.pairwise_cons.1 hp
    rw [pos]
    have e : (x :: r).getD (i + 1) hd0 = r.getD i hd0 := by simp
    rw [e]
    have hi : i < r.length := by simpa using h
    split
    · rename_i hx
      rw [← pos_iff hp2.2 hi]; omega
    · rename_i hx
      have hm : r.getD i hd0 ∈ r := by
        have : r.getD i hd0 = r[i] := by simp [List.getD, hi]
        rw [this]; exact List.getElem_mem hi
      have := hp2.1 _ hm
      constructor
      · intro h; omega
      · intro h; omega
theorem sum_append (s : ByteArray) : ∀ (a b : List Hd), sumH s (a ++ b) = sumH s a + sumH s b
  | [], b => by simp [sumH]
  | x :: r, b => by
    rw [List.cons_append, sumH, sumH, sum_append s r b]; omega
theorem pos_take : ∀ {g : Int} {l : List Hd}, ∀ x ∈ l.take (pos g l), x.saga < g
  | g, [], x, hx => by simp at hx
  | g, y :: r, x, hx => by
    rw [pos] at hx
    split at hx
    · rename_i e
      rw [List.take_succ_cons] at hx
      rcases List.mem_cons.1 hx with rfl | hx
      · exact e
      · exact pos_take x hx
    · simp at hx
theorem less_all {g : Int} {l : List Hd} (h : ∀ x ∈ l, x.saga ≠ g) : less g l = l := by
  unfold less
  rw [List.filter_eq_self]
  intro x hx
  simp [h x hx]
theorem put_cases (l : List Hd) (h : Hd) : (∃ er, putH l h = ([], er) ∧ er ≠ 0) ∨ (putH l h = (putL l h, 0) ∧ fitH l = true ∧ oneH h = true ∧ (findH h.saga l).isSome = false ∧ l.length < 16) := by
  unfold putH
  by_cases h1 : fitH l = true
  · rw [if_pos h1]
    by_cases h2 : oneH h = true
    · rw [if_pos h2]
      by_cases h3 : (findH h.saga l).isSome = true
      · rw [if_pos h3]; exact .inl ⟨3, rfl, by decide⟩
      · rw [if_neg h3]
        by_cases h4 : l.length = 16
        · rw [if_pos h4]; exact .inl ⟨4, rfl, by decide⟩
        · rw [if_neg h4]
          have := (fitH_iff.1 h1).1
          exact .inr ⟨rfl, h1, h2, by simpa using h3, by omega⟩
    · rw [if_neg h2]; exact .inl ⟨1, rfl, by decide⟩
  · rw [if_neg h1]; exact .inl ⟨12, rfl, by decide⟩
theorem less_drop {l : List Hd} {k : Nat} {x : Hd} (g : Int) (hk : k < l.length) (hx : l.getD k hd0 = x) : less g (l.drop k) = (if x.saga = g then [] else [x]) ++ less g (l.drop (k + 1)) := by
  rw [drop_at hk hx]
  unfold less
  rw [List.filter_cons]
  by_cases h : x.saga = g
  · simp [h]
  · simp [h]
end HoldsP
end Go.Proofs.YtjclkiabgemfpaaGreat
