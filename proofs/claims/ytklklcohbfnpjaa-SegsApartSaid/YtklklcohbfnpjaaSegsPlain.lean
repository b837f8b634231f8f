/-
  Segments without a program: how many a disk has, their sectors, which are free.
-/
import Derived.Test.YtklklcohbfnpjaaRows
set_option linter.unusedVariables false
namespace Go.Proofs.Ytklklcohbfnpjaa
namespace SegsP

/-- How many segments a disk has. -/
def cnt (n : Int) : Nat := if n < 2 then 0 else if 512 < n then 0 else min ((n - 2) / 8).toNat 63
/-- How many segments so many sectors need. -/
def need (n : Int) : Int := if n ≤ 0 then 0 else (n - 1) / 8 + 1
/-- The first q sectors of a segment. -/
def seg (k : Int) (q : Nat) : List Int := (List.range q).map fun (i : Nat) => 2 + 8 * k + (i : Int)
def seg1 (k : Int) : List Int := if 0 ≤ k ∧ k < 63 then seg k 8 else []
/-- The sectors of segments. -/
def secs (l : List Int) : List Int := l.flatMap seg1
/-- The first n segments that are not in l. -/
def fre (n : Nat) (l : List Int) : List Int := ((List.range n).filter fun (i : Nat) => decide (¬ (i : Int) ∈ l)).map fun (i : Nat) => (i : Int)
theorem cnt_le (n : Int) : cnt n ≤ 63 := by unfold cnt; split <;> (try split) <;> omega
theorem cnt_fit {n : Int} {k : Nat} (h : k < cnt n) : 2 + 8 * (k : Int) + 8 ≤ n := by
  unfold cnt at h
  split at h <;> (try split at h) <;> omega
theorem seg_zero (k : Int) : seg k 0 = [] := rfl
theorem seg_succ (k : Int) (q : Nat) : seg k (q + 1) = seg k q ++ [2 + 8 * k + (q : Int)] := by simp [seg, List.range_succ]
theorem seg_length (k : Int) (q : Nat) : (seg k q).length = q := by simp [seg]
theorem mem_seg {k : Int} {q : Nat} {x : Int} : x ∈ seg k q ↔ 2 + 8 * k ≤ x ∧ x < 2 + 8 * k + q := by
  simp only [seg, List.mem_map, List.mem_range]
  constructor
  · rintro ⟨i, hi, rfl⟩; omega
  · rintro ⟨h1, h2⟩; exact ⟨(x - (2 + 8 * k)).toNat, by omega, by omega⟩
theorem seg_getD {k : Int} {q i : Nat} (h : i < q) : (seg k q).getD i 0 = 2 + 8 * k + (i : Int) := by simp [seg, List.getD, h]
theorem seg1_yes {k : Int} (h : 0 ≤ k ∧ k < 63) : seg1 k = seg k 8 := if_pos h
theorem seg1_no {k : Int} (h : ¬ (0 ≤ k ∧ k < 63)) : seg1 k = [] := if_neg h
theorem secs_nil : secs [] = [] := rfl
theorem secs_one (k : Int) : secs [k] = seg1 k := by simp [secs]
theorem secs_snoc (l : List Int) (k : Int) : secs (l ++ [k]) = secs l ++ seg1 k := by simp [secs]
theorem seg1_mem {k x : Int} (h : x ∈ seg1 k) : 2 ≤ x ∧ x < 506 := by
  by_cases hk : 0 ≤ k ∧ k < 63
  · rw [seg1_yes hk, mem_seg] at h; omega
  · rw [seg1_no hk] at h; cases h
theorem secs_mem {l : List Int} {x : Int} (h : x ∈ secs l) : 2 ≤ x ∧ x < 506 := by
  obtain ⟨k, _, hk⟩ := List.mem_flatMap.1 h
  exact seg1_mem hk
theorem seg1_len (k : Int) : (seg1 k).length ≤ 8 := by unfold seg1; split <;> simp [seg_length]
theorem secs_len (l : List Int) : (secs l).length ≤ 8 * l.length := by
  induction l with
  | nil => simp [secs]
  | cons k l ih =>
    have := seg1_len k
    have e : secs (k :: l) = seg1 k ++ secs l := rfl
    rw [e, List.length_append, List.length_cons]; omega
theorem fre_zero (l : List Int) : fre 0 l = [] := rfl
theorem fre_yes {n : Nat} {l : List Int} (h : ¬ (n : Int) ∈ l) : fre (n + 1) l = fre n l ++ [(n : Int)] := by simp [fre, List.range_succ, h]
theorem fre_no {n : Nat} {l : List Int} (h : (n : Int) ∈ l) : fre (n + 1) l = fre n l := by simp [fre, List.range_succ, h]
theorem mem_fre {n : Nat} {l : List Int} {x : Int} : x ∈ fre n l ↔ (0 ≤ x ∧ x < n) ∧ ¬ x ∈ l := by
  simp only [fre, List.mem_map, List.mem_filter, List.mem_range, decide_eq_true_eq]
  constructor
  · rintro ⟨i, ⟨h1, h2⟩, rfl⟩; exact ⟨by omega, h2⟩
  · rintro ⟨h1, h2⟩; exact ⟨x.toNat, ⟨by omega, by rw [show ((x.toNat : Nat) : Int) = x by omega]; exact h2⟩, by omega⟩
theorem fre_len (n : Nat) (l : List Int) : (fre n l).length ≤ n := by
  induction n with
  | zero => simp [fre]
  | succ n ih =>
    by_cases h : (n : Int) ∈ l
    · rw [fre_no h]; omega
    · rw [fre_yes h, List.length_append]; simp; exact ih
theorem fre_nil (n : Nat) : (fre n []).length = n := by
  unfold fre
  rw [List.filter_eq_self.2 (fun i _ => by simp)]; simp
/-- What is free rises. -/
theorem fre_rises (n : Nat) (l : List Int) : ∀ i, i + 1 < (fre n l).length → (fre n l).getD i 0 < (fre n l).getD (i + 1) 0 := by
  induction n with
  | zero => intro i hi; simp [fre] at hi
  | succ n ih =>
    intro i hi
    by_cases h : (n : Int) ∈ l
    · rw [fre_no h] at hi ⊢; exact ih i hi
    · rw [fre_yes h] at hi ⊢
      rw [List.length_append, List.length_singleton] at hi
      by_cases h1 : i + 1 < (fre n l).length
      · have := ih i h1
        rw [List.getD_eq_getElem?_getD, List.getD_eq_getElem?_getD, List.getElem?_append_left (by omega), List.getElem?_append_left h1]
        rw [List.getD_eq_getElem?_getD, List.getD_eq_getElem?_getD] at this
        exact this
      · have e : (fre n l).length = i + 1 := by omega
        have hm : (fre n l).getD i 0 ∈ fre n l := by
          rw [List.getD_eq_getElem?_getD, List.getElem?_eq_getElem (by omega)]; simp
        have hlt := (mem_fre.1 hm).1.2
        rw [List.getD_eq_getElem?_getD, List.getD_eq_getElem?_getD, List.getElem?_append_left (by omega), List.getElem?_append_right (by omega), e]
        rw [List.getD_eq_getElem?_getD] at hlt
        simpa using hlt
theorem fre_one_len (n : Nat) (a : Int) : (fre n [a]).length + (if 0 ≤ a ∧ a < (n : Int) then 1 else 0) = n := by
  induction n with
  | zero => simp [fre]
  | succ n ih =>
    by_cases h : (n : Int) ∈ [a]
    · rw [fre_no h]
      have e : (n : Int) = a := by simpa using h
      rw [if_neg (by omega)] at ih
      rw [if_pos (by omega)]; omega
    · rw [fre_yes h, List.length_append, List.length_singleton]
      have e : ¬ (n : Int) = a := by simpa using h
      split at ih <;> (first | rw [if_pos (by omega)] | rw [if_neg (by omega)]) <;> omega
end SegsP
end Go.Proofs.Ytklklcohbfnpjaa
