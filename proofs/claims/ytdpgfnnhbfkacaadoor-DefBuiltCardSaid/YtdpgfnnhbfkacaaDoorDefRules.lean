/-
  Plain facts of def: the program's rules of a fit definition, one by one, and the document's; nothing of the program.
-/
import Derived.Test.YtdpgfnnhbfkacaaDoorDefPlain
set_option linter.unusedVariables false
namespace Go.Proofs.YtdpgfnnhbfkacaaDoor
namespace DefP
open StP (fitS FitS fitS_of)

def lenR (l : List Step) : Bool := decide (1 ≤ l.length) && decide (l.length ≤ 6)
def allR : List Step → Bool
  | [] => true
  | x :: r => fitS x && allR r
def placeR (l : List Step) : Nat → List Step → Bool
  | _, [] => true
  | k, x :: r => placeL l x.op == (k : Int) && placeR l (k + 1) r
/-- No class up to the i-th is less than the one ahead of it. -/
def sortR (l : List Step) : Nat → Bool
  | 0 => true
  | i + 1 => if (l.getD (i + 1) StP.st0).cls < (l.getD i StP.st0).cls then false else sortR l i
def manyL (c : Int) : List Step → Nat
  | [] => 0
  | x :: r => (if x.cls = c then 1 else 0) + manyL c r
def shipR (h k s : Int) : Bool := if h < 0 then decide (k < 0) && decide (s < 0) else decide (h < k) && decide (k < s)
def capR (a t : Int) : Bool := decide (t < 0) || (decide (0 ≤ a) && decide (a < t))
theorem allR_iff {l : List Step} : allR l = true ↔ ∀ x ∈ l, fitS x = true := by
  induction l with
  | nil => simp [allR]
  | cons y r ih => simp [allR, ih]
theorem placeR_iff {l : List Step} : ∀ (r : List Step) (k : Nat), placeR l k r = true ↔ ∀ (i : Nat) (x : Step), r[i]? = some x → placeL l x.op = ((k + i : Nat) : Int)
  | [], k => by simp [placeR]
  | y :: r, k => by
    rw [placeR]
    simp only [Bool.and_eq_true, beq_iff_eq]
    rw [placeR_iff r (k + 1)]
    constructor
    · rintro ⟨h2, h3⟩ i x hx
      cases i with
      | zero => simp at hx; subst hx; exact h2
      | succ i =>
        have := h3 i x (by simpa using hx)
        rw [this]; congr 1; omega
    · intro h
      have h0 := h 0 y rfl
      refine ⟨h0, fun i x hx => ?_⟩
      have := h (i + 1) x (by simpa using hx)
      rw [this]; congr 1; omega
theorem getD_get {l : List Step} {i : Nat} {x : Step} (h : l[i]? = some x) : l.getD i StP.st0 = x := by simp [List.getD, h]
theorem sortR_iff {l : List Step} : ∀ (n : Nat), sortR l n = true ↔ ∀ i, i < n → (l.getD i StP.st0).cls ≤ (l.getD (i + 1) StP.st0).cls
  | 0 => by simp [sortR]
  | n + 1 => by
    rw [sortR]
    by_cases h : (l.getD (n + 1) StP.st0).cls < (l.getD n StP.st0).cls
    · rw [if_pos h]
      constructor
      · intro e; cases e
      · intro e; have := e n (by omega); omega
    · rw [if_neg h, sortR_iff n]
      constructor
      · intro e i hi
        by_cases hin : i = n
        · subst hin; omega
        · exact e i (by omega)
      · intro e i hi
        exact e i (by omega)
theorem sort_mono {l : List Step} (h : sortR l (l.length - 1) = true) : ∀ (i j : Nat) (x y : Step), i < j → l[i]? = some x → l[j]? = some y → x.cls ≤ y.cls := by
  have h1 := (sortR_iff (l := l) (l.length - 1)).1 h
  have key : ∀ (d i : Nat), i + d < l.length → (l.getD i StP.st0).cls ≤ (l.getD (i + d) StP.st0).cls := by
    intro d
    induction d with
    | zero => intro i _; exact Int.le_refl _
    | succ d ih =>
      intro i hi
      have a := ih i (by omega)
      have b := h1 (i + d) (by omega)
      rw [show i + (d + 1) = i + d + 1 by omega]
      omega
  intro i j x y hij hx hy
  have hj := (List.getElem?_eq_some_iff.1 hy).1
  have := key (j - i) i (by omega)
  rw [show i + (j - i) = j by omega, getD_get hx, getD_get hy] at this
  exact this
theorem many_none {c : Int} : ∀ {l : List Step}, manyL c l = 0 ↔ ∀ x ∈ l, x.cls ≠ c
  | [] => by simp [manyL]
  | y :: r => by
    rw [manyL]
    by_cases h : y.cls = c
    · rw [if_pos h]
      constructor
      · intro e; omega
      · intro e; exact absurd h (e y (by simp))
    · rw [if_neg h, Nat.zero_add, many_none]
      simp [h]
theorem many_one {c : Int} : ∀ {l : List Step}, manyL c l ≤ 1 ↔ ∀ (i j : Nat) (x y : Step), i < j → l[i]? = some x → l[j]? = some y → x.cls = c → y.cls ≠ c
  | [] => by simp [manyL]
  | z :: r => by
    rw [manyL]
    by_cases h : z.cls = c
    · rw [if_pos h]
      constructor
      · intro e i j x y hij hx hy hxc
        have e0 : manyL c r = 0 := by omega
        cases j with
        | zero => omega
        | succ j => exact many_none.1 e0 y (List.mem_of_getElem? (by simpa using hy))
      · intro e
        have : manyL c r = 0 := many_none.2 fun y hy => by
          obtain ⟨j, hj, ej⟩ := List.mem_iff_getElem.1 hy
          exact e 0 (j + 1) z y (by omega) rfl (by simp [hj, ej]) h
        omega
    · rw [if_neg h, Nat.zero_add, many_one]
      constructor
      · intro e i j x y hij hx hy hxc
        cases j with
        | zero => omega
        | succ j =>
          cases i with
          | zero => simp at hx; subst hx; exact absurd hxc h
          | succ i => exact e i j x y (by omega) (by simpa using hx) (by simpa using hy) hxc
      · intro e i j x y hij hx hy hxc
        exact e (i + 1) (j + 1) x y (by omega) (by simpa using hx) (by simpa using hy) hxc
theorem many_some {c : Int} {l : List Step} (h : manyL c l ≠ 0) : ∃ (i : Nat) (x : Step), l[i]? = some x ∧ x.cls = c := by
  refine Classical.byContradiction fun hn => h (many_none.2 fun x hx e => hn ?_)
  obtain ⟨i, hi, ei⟩ := List.mem_iff_getElem.1 hx
  exact ⟨i, x, by rw [List.getElem?_eq_getElem hi, ei], e⟩
theorem order_eq (l : List Step) : orderL l = (shipR (placeL l 1) (placeL l 3) (placeL l 5) && capR (placeL l 2) (placeL l 6)) := by
  unfold orderL shipR capR
  have p3 : -1 ≤ placeL l 3 := by rcases placeL_cases 3 l with ⟨h, _⟩ | ⟨i, x, h, _⟩ <;> omega
  by_cases h : placeL l 1 < 0
  · rw [if_pos h]
    simp [h, show ¬ 0 ≤ placeL l 1 by omega]
  · rw [if_neg h]
    simp [h, show 0 ≤ placeL l 1 by omega]
theorem bool_eq {a b : Bool} (h : a = true ↔ b = true) : a = b := by
  cases a <;> cases b <;> simp_all
/-- The program's rules, in its order. -/
theorem fitL_eq (l : List Step) : fitL l = (lenR l && (allR l && (placeR l 0 l && (sortR l (l.length - 1) && (decide (manyL 2 l ≤ 1) && ((decide (manyL 3 l = 0) || decide (manyL 2 l = 1)) && (shipR (placeL l 1) (placeL l 3) (placeL l 5) && capR (placeL l 2) (placeL l 6)))))))) := by
  rw [← order_eq]
  apply bool_eq
  constructor
  · intro h
    have f := fitL_iff.1 h
    unfold fitL at h
    simp only [Bool.and_eq_true, decide_eq_true_eq] at h
    unfold lenR
    simp only [Bool.and_eq_true, Bool.or_eq_true, decide_eq_true_eq]
    refine ⟨⟨f.len1, f.len6⟩, allR_iff.2 f.fit, ?_, ?_, many_one.2 f.piv1, ?_, f.order⟩
    · exact (placeR_iff l 0).2 fun i x hx => ((onceUp_iff l 0).1 h.2.2.2.1 i x hx).2
    · refine (sortR_iff _).2 fun i hi => ?_
      have h1 : l[i]? = some l[i] := List.getElem?_eq_getElem (by omega)
      have h2 : l[i + 1]? = some l[i + 1] := List.getElem?_eq_getElem (by omega)
      rw [getD_get h1, getD_get h2]
      exact f.mono i (i + 1) _ _ (by omega) h1 h2
    · by_cases h3 : manyL 3 l = 0
      · exact .inl h3
      · right
        obtain ⟨j, y, hy, hyc⟩ := many_some h3
        obtain ⟨i, x, _, hx, hxc⟩ := f.firm j y hy hyc
        have h1 : manyL 2 l ≤ 1 := many_one.2 f.piv1
        have h2 : manyL 2 l ≠ 0 := fun e => many_none.1 e x (List.mem_of_getElem? hx) hxc
        omega
  · intro h
    unfold lenR at h
    simp only [Bool.and_eq_true, Bool.or_eq_true, decide_eq_true_eq] at h
    obtain ⟨⟨h1, h2⟩, h3, h4, h5, h6, h7, h8⟩ := h
    have hp := (placeR_iff l 0).1 h4
    have hm := sort_mono h5
    refine fitL_iff.2 ⟨h1, h2, allR_iff.1 h3, ?_, hm, ?_, many_one.1 h6, h8⟩
    · intro i j x y hij hx hy e
      have a := hp i x hx
      have b := hp j y hy
      rw [e, b] at a
      omega
    · intro j y hy hyc
      have h30 : manyL 3 l ≠ 0 := fun e => many_none.1 e y (List.mem_of_getElem? hy) hyc
      have h21 : manyL 2 l ≠ 0 := by omega
      obtain ⟨i, x, hx, hxc⟩ := many_some h21
      refine ⟨i, x, ?_, hx, hxc⟩
      rcases Nat.lt_trichotomy i j with hij | rfl | hij
      · exact hij
      · rw [hx] at hy; cases hy; omega
      · have := hm j i y x hij hy hx; omega
/-! ### as the loops go -/
theorem all_no {l : List Step} {k : Nat} {x : Step} (h : l[k]? = some x) (e : fitS x = false) : allR (l.drop k) = false := by
  obtain ⟨hk, ex⟩ := List.getElem?_eq_some_iff.1 h
  rw [List.drop_eq_getElem_cons hk, ex, allR, e]; rfl
theorem all_go {l : List Step} {k : Nat} {x : Step} (h : l[k]? = some x) (e : fitS x = true) : allR (l.drop k) = allR (l.drop (k + 1)) := by
  obtain ⟨hk, ex⟩ := List.getElem?_eq_some_iff.1 h
  rw [List.drop_eq_getElem_cons hk, ex, allR, e]; rfl
theorem all_end {l : List Step} {k : Nat} (h : l.length ≤ k) : allR (l.drop k) = true := by rw [List.drop_eq_nil_of_le h]; rfl
theorem pl_no {l : List Step} {k : Nat} {x : Step} (h : l[k]? = some x) (e : (placeL l x.op == (k : Int)) = false) : placeR l k (l.drop k) = false := by
  obtain ⟨hk, ex⟩ := List.getElem?_eq_some_iff.1 h
  rw [List.drop_eq_getElem_cons hk, ex, placeR, e]; rfl
theorem pl_go {l : List Step} {k : Nat} {x : Step} (h : l[k]? = some x) (e : (placeL l x.op == (k : Int)) = true) : placeR l k (l.drop k) = placeR l (k + 1) (l.drop (k + 1)) := by
  obtain ⟨hk, ex⟩ := List.getElem?_eq_some_iff.1 h
  rw [List.drop_eq_getElem_cons hk, ex, placeR, e]; rfl
theorem pl_end {l : List Step} {k : Nat} (h : l.length ≤ k) : placeR l k (l.drop k) = true := by rw [List.drop_eq_nil_of_le h]; rfl
theorem many_yes {c : Int} {l : List Step} {k m n : Nat} {x : Step} (hd : m + manyL c (l.drop k) = n) (h : l[k]? = some x) (e : x.cls = c) : (m + 1) + manyL c (l.drop (k + 1)) = n := by
  obtain ⟨hk, ex⟩ := List.getElem?_eq_some_iff.1 h
  rw [List.drop_eq_getElem_cons hk, ex, manyL, if_pos e] at hd; omega
theorem many_no {c : Int} {l : List Step} {k m n : Nat} {x : Step} (hd : m + manyL c (l.drop k) = n) (h : l[k]? = some x) (e : x.cls ≠ c) : m + manyL c (l.drop (k + 1)) = n := by
  obtain ⟨hk, ex⟩ := List.getElem?_eq_some_iff.1 h
  rw [List.drop_eq_getElem_cons hk, ex, manyL, if_neg e] at hd; omega
theorem many_end {c : Int} {l : List Step} {k m n : Nat} (hd : m + manyL c (l.drop k) = n) (h : l.length ≤ k) : m = n := by
  rw [List.drop_eq_nil_of_le h, manyL] at hd; omega
theorem many_le (c : Int) : ∀ (l : List Step), manyL c l ≤ l.length
  | [] => Nat.le_refl _
  | x :: r => by have := many_le c r; rw [manyL, List.length_cons]; split <;> omega
theorem sort_no {l : List Step} {i : Nat} {x y : Step} (hx : l[i]? = some x) (hy : l[i + 1]? = some y) (e : y.cls < x.cls) : sortR l (i + 1) = false := by
  rw [sortR, getD_get hx, getD_get hy, if_pos e]
theorem sort_go {l : List Step} {i : Nat} {x y : Step} (hx : l[i]? = some x) (hy : l[i + 1]? = some y) (e : ¬ y.cls < x.cls) : sortR l (i + 1) = sortR l i := by
  rw [sortR, getD_get hx, getD_get hy, if_neg e]
/-- The document's way through the classes: where it stands behind the last class and so many pivots. -/
theorem class_bad {l : List Step} {k : Nat} {x : Step} {last piv : Int} (h : l[k]? = some x) (e : x.cls < last ∨ (x.cls = 3 ∧ piv = 0)) : classUp last piv (l.drop k) = false := by
  obtain ⟨hk, ex⟩ := List.getElem?_eq_some_iff.1 h
  rw [List.drop_eq_getElem_cons hk, ex, classUp, if_pos e]
theorem class_go {l : List Step} {k : Nat} {x : Step} {last piv : Int} (h : l[k]? = some x) (e : ¬ (x.cls < last ∨ (x.cls = 3 ∧ piv = 0))) : classUp last piv (l.drop k) = classUp x.cls (if x.cls = 2 then piv + 1 else piv) (l.drop (k + 1)) := by
  obtain ⟨hk, ex⟩ := List.getElem?_eq_some_iff.1 h
  rw [List.drop_eq_getElem_cons hk, ex, classUp, if_neg e]
theorem class_end {l : List Step} {k : Nat} {last piv : Int} (h : l.length ≤ k) : classUp last piv (l.drop k) = decide (piv ≤ 1) := by rw [List.drop_eq_nil_of_le h]; rfl
theorem once_nofit {l : List Step} {k : Nat} {x : Step} (h : l[k]? = some x) (e : fitS x = false) : onceUp l k (l.drop k) = false := by
  obtain ⟨hk, ex⟩ := List.getElem?_eq_some_iff.1 h
  rw [List.drop_eq_getElem_cons hk, ex, onceUp, e]; rfl
theorem once_no {l : List Step} {k : Nat} {x : Step} (h : l[k]? = some x) (e : (placeL l x.op == (k : Int)) = false) : onceUp l k (l.drop k) = false := by
  obtain ⟨hk, ex⟩ := List.getElem?_eq_some_iff.1 h
  rw [List.drop_eq_getElem_cons hk, ex, onceUp, e]; simp
theorem once_go {l : List Step} {k : Nat} {x : Step} (h : l[k]? = some x) (e : fitS x = true) (e2 : (placeL l x.op == (k : Int)) = true) : onceUp l k (l.drop k) = onceUp l (k + 1) (l.drop (k + 1)) := by
  obtain ⟨hk, ex⟩ := List.getElem?_eq_some_iff.1 h
  rw [List.drop_eq_getElem_cons hk, ex, onceUp, e, e2]; rfl
theorem once_end {l : List Step} {k : Nat} (h : l.length ≤ k) : onceUp l k (l.drop k) = true := by rw [List.drop_eq_nil_of_le h]; rfl
end DefP
end Go.Proofs.YtdpgfnnhbfkacaaDoor
