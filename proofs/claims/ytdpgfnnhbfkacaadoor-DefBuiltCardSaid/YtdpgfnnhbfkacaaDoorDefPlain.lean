/-
  Plain facts of def: fit definitions, their texts and octets, read and written; lists, numbers and octets alone, nothing of the program.
-/
import Derived.Test.YtdpgfnnhbfkacaaDoorStepPlain
import Derived.Test.YtdpgfnnhbfkacaaDoorNameTest
import Derived.Test.YtdpgfnnhbfkacaaDoorWirePlain
set_option linter.unusedVariables false
namespace Go.Proofs.YtdpgfnnhbfkacaaDoor
open NumP
namespace DefP
open StP (fitS FitS fitS_of textS readS parts cutAt)
abbrev Step := StP.St
abbrev Rd := WireP.St

/-- A definition. -/
structure Df where
  name : ByteArray
  steps : List Step
def df0 : Df := ⟨ByteArray.empty, []⟩
def nm (s : ByteArray) : Bool := NameP.fitV (NameP.vals s.data.toList)
/-! ### where a step is -/
def placeUp (op : Int) : Nat → List Step → Int
  | _, [] => -1
  | k, x :: r => if x.op = op then (k : Int) else placeUp op (k + 1) r
def placeL (l : List Step) (op : Int) : Int := placeUp op 0 l
def pivUp : Nat → List Step → Int
  | _, [] => -1
  | k, x :: r => if x.cls = 2 then (k : Int) else pivUp (k + 1) r
def pivL (l : List Step) : Int := pivUp 0 l
theorem place_hit {op : Int} {l : List Step} {k : Nat} {x : Step} (h : l[k]? = some x) (e : x.op = op) : placeUp op k (l.drop k) = (k : Int) := by
  have hk : k < l.length := (List.getElem?_eq_some_iff.1 h).1
  rw [List.drop_eq_getElem_cons hk, (List.getElem?_eq_some_iff.1 h).2, placeUp, if_pos e]
theorem place_miss {op : Int} {l : List Step} {k : Nat} {x : Step} (h : l[k]? = some x) (e : x.op ≠ op) : placeUp op k (l.drop k) = placeUp op (k + 1) (l.drop (k + 1)) := by
  have hk : k < l.length := (List.getElem?_eq_some_iff.1 h).1
  rw [List.drop_eq_getElem_cons hk, (List.getElem?_eq_some_iff.1 h).2, placeUp, if_neg e]
theorem place_end {op : Int} {l : List Step} {k : Nat} (h : l.length ≤ k) : placeUp op k (l.drop k) = -1 := by rw [List.drop_eq_nil_of_le h]; rfl
theorem piv_hit {l : List Step} {k : Nat} {x : Step} (h : l[k]? = some x) (e : x.cls = 2) : pivUp k (l.drop k) = (k : Int) := by
  have hk : k < l.length := (List.getElem?_eq_some_iff.1 h).1
  rw [List.drop_eq_getElem_cons hk, (List.getElem?_eq_some_iff.1 h).2, pivUp, if_pos e]
theorem piv_miss {l : List Step} {k : Nat} {x : Step} (h : l[k]? = some x) (e : x.cls ≠ 2) : pivUp k (l.drop k) = pivUp (k + 1) (l.drop (k + 1)) := by
  have hk : k < l.length := (List.getElem?_eq_some_iff.1 h).1
  rw [List.drop_eq_getElem_cons hk, (List.getElem?_eq_some_iff.1 h).2, pivUp, if_neg e]
theorem piv_end {l : List Step} {k : Nat} (h : l.length ≤ k) : pivUp k (l.drop k) = -1 := by rw [List.drop_eq_nil_of_le h]; rfl
/-- The first step of a kind: below it there is none, at it there is one. -/
theorem placeUp_cases (op : Int) : ∀ (r : List Step) (k : Nat), (placeUp op k r = -1 ∧ ∀ x ∈ r, x.op ≠ op) ∨ ∃ (i : Nat) (x : Step), placeUp op k r = ((k + i : Nat) : Int) ∧ r[i]? = some x ∧ x.op = op ∧ ∀ (j : Nat) (y : Step), j < i → r[j]? = some y → y.op ≠ op
  | [], k => .inl ⟨rfl, by simp⟩
  | x :: r, k => by
    by_cases e : x.op = op
    · exact .inr ⟨0, x, by rw [placeUp, if_pos e]; rfl, rfl, e, fun j y hj _ => by omega⟩
    · rcases placeUp_cases op r (k + 1) with ⟨h1, h2⟩ | ⟨i, y, h1, h2, h3, h4⟩
      · refine .inl ⟨by rw [placeUp, if_neg e, h1], fun z hz => ?_⟩
        rcases List.mem_cons.1 hz with rfl | hz
        · exact e
        · exact h2 z hz
      · refine .inr ⟨i + 1, y, by rw [placeUp, if_neg e, h1]; congr 1; omega, h2, h3, fun j z hj hz => ?_⟩
        cases j with
        | zero => simp at hz; subst hz; exact e
        | succ j => exact h4 j z (by omega) (by simpa using hz)
theorem placeL_cases (op : Int) (l : List Step) : (placeL l op = -1 ∧ ∀ x ∈ l, x.op ≠ op) ∨ ∃ (i : Nat) (x : Step), placeL l op = (i : Int) ∧ l[i]? = some x ∧ x.op = op ∧ ∀ (j : Nat) (y : Step), j < i → l[j]? = some y → y.op ≠ op := by
  rcases placeUp_cases op l 0 with h | ⟨i, x, h1, h2⟩
  · exact .inl h
  · exact .inr ⟨i, x, by unfold placeL; rw [h1, Nat.zero_add], h2⟩
theorem pivUp_cases : ∀ (r : List Step) (k : Nat), (pivUp k r = -1 ∧ ∀ x ∈ r, x.cls ≠ 2) ∨ ∃ (i : Nat) (x : Step), pivUp k r = ((k + i : Nat) : Int) ∧ r[i]? = some x ∧ x.cls = 2 ∧ ∀ (j : Nat) (y : Step), j < i → r[j]? = some y → y.cls ≠ 2
  | [], k => .inl ⟨rfl, by simp⟩
  | x :: r, k => by
    by_cases e : x.cls = 2
    · exact .inr ⟨0, x, by rw [pivUp, if_pos e]; rfl, rfl, e, fun j y hj _ => by omega⟩
    · rcases pivUp_cases r (k + 1) with ⟨h1, h2⟩ | ⟨i, y, h1, h2, h3, h4⟩
      · refine .inl ⟨by rw [pivUp, if_neg e, h1], fun z hz => ?_⟩
        rcases List.mem_cons.1 hz with rfl | hz
        · exact e
        · exact h2 z hz
      · refine .inr ⟨i + 1, y, by rw [pivUp, if_neg e, h1]; congr 1; omega, h2, h3, fun j z hj hz => ?_⟩
        cases j with
        | zero => simp at hz; subst hz; exact e
        | succ j => exact h4 j z (by omega) (by simpa using hz)
theorem pivL_cases (l : List Step) : (pivL l = -1 ∧ ∀ x ∈ l, x.cls ≠ 2) ∨ ∃ (i : Nat) (x : Step), pivL l = (i : Int) ∧ l[i]? = some x ∧ x.cls = 2 ∧ ∀ (j : Nat) (y : Step), j < i → l[j]? = some y → y.cls ≠ 2 := by
  rcases pivUp_cases l 0 with h | ⟨i, x, h1, h2⟩
  · exact .inl h
  · exact .inr ⟨i, x, by unfold pivL; rw [h1, Nat.zero_add], h2⟩
/-! ### fit definitions -/
/-- The classes from here on, behind the last one and so many pivots. -/
def classUp (last piv : Int) : List Step → Bool
  | [] => decide (piv ≤ 1)
  | x :: r => if x.cls < last ∨ (x.cls = 3 ∧ piv = 0) then false else classUp x.cls (if x.cls = 2 then piv + 1 else piv) r
def onceUp (l : List Step) : Nat → List Step → Bool
  | _, [] => true
  | k, x :: r => fitS x && (placeL l x.op == (k : Int) && onceUp l (k + 1) r)
def orderL (l : List Step) : Bool :=
  ((decide (placeL l 1 < 0) && decide (placeL l 3 < 0) && decide (placeL l 5 < 0)) || (decide (0 ≤ placeL l 1) && decide (placeL l 1 < placeL l 3) && decide (placeL l 3 < placeL l 5))) &&
  (decide (placeL l 6 < 0) || (decide (0 ≤ placeL l 2) && decide (placeL l 2 < placeL l 6)))
def fitL (l : List Step) : Bool := decide (1 ≤ l.length) && (decide (l.length ≤ 6) && (classUp 1 0 l && (onceUp l 0 l && orderL l)))
def fitD (d : Df) : Bool := nm d.name && fitL d.steps
theorem onceUp_iff {l : List Step} : ∀ (r : List Step) (k : Nat), onceUp l k r = true ↔ ∀ (i : Nat) (x : Step), r[i]? = some x → fitS x = true ∧ placeL l x.op = ((k + i : Nat) : Int)
  | [], k => by simp [onceUp]
  | y :: r, k => by
    rw [onceUp]
    simp only [Bool.and_eq_true, beq_iff_eq]
    rw [onceUp_iff r (k + 1)]
    constructor
    · rintro ⟨h1, h2, h3⟩ i x hx
      cases i with
      | zero => simp at hx; subst hx; exact ⟨h1, h2⟩
      | succ i =>
        have := h3 i x (by simpa using hx)
        exact ⟨this.1, by rw [this.2]; congr 1; omega⟩
    · intro h
      have h0 := h 0 y rfl
      refine ⟨h0.1, h0.2, fun i x hx => ?_⟩
      have := h (i + 1) x (by simpa using hx)
      exact ⟨this.1, by rw [this.2]; congr 1; omega⟩
theorem fitL_steps {l : List Step} (h : fitL l = true) : ∀ x ∈ l, fitS x = true := by
  unfold fitL at h
  simp only [Bool.and_eq_true, decide_eq_true_eq] at h
  intro x hx
  obtain ⟨i, hi, e⟩ := List.mem_iff_getElem.1 hx
  exact ((onceUp_iff l 0).1 h.2.2.2.1 i x (by rw [List.getElem?_eq_getElem hi, e])).1
theorem fitL_len {l : List Step} (h : fitL l = true) : 1 ≤ l.length ∧ l.length ≤ 6 := by
  unfold fitL at h
  simp only [Bool.and_eq_true, decide_eq_true_eq] at h
  exact ⟨h.1, h.2.1⟩
theorem fitD_iff {d : Df} : fitD d = true ↔ nm d.name = true ∧ fitL d.steps = true := by unfold fitD; simp
theorem fitL_long {l : List Step} (h : 6 < l.length) : fitL l = false := by
  cases hf : fitL l with
  | false => rfl
  | true => have := (fitL_len hf).2; omega
/-! ### what follows of the classes -/
/-- Behind the last class and so many pivots: all classes are no less; Firm only behind a pivot; at most one pivot in all. -/
theorem classUp_facts : ∀ (r : List Step) (last piv : Int), 0 ≤ piv → classUp last piv r = true →
    (∀ x ∈ r, last ≤ x.cls) ∧ (∀ (i j : Nat) (x y : Step), i < j → r[i]? = some x → r[j]? = some y → x.cls ≤ y.cls) ∧
    (∀ (j : Nat) (y : Step), r[j]? = some y → y.cls = 3 → 0 < piv ∨ ∃ (i : Nat) (x : Step), i < j ∧ r[i]? = some x ∧ x.cls = 2) ∧
    (0 < piv → ∀ x ∈ r, x.cls ≠ 2) ∧ (∀ (i j : Nat) (x y : Step), i < j → r[i]? = some x → r[j]? = some y → x.cls = 2 → y.cls ≠ 2) ∧ piv ≤ 1
  | [], last, piv, h0, h => by
    refine ⟨by simp, by simp, by simp, by simp, by simp, ?_⟩
    unfold classUp at h
    simpa using h
  | z :: r, last, piv, h0, h => by
    unfold classUp at h
    by_cases hc : z.cls < last ∨ (z.cls = 3 ∧ piv = 0)
    · rw [if_pos hc] at h; cases h
    rw [if_neg hc] at h
    obtain ⟨f1, f2, f3, f4, f5, f6⟩ := classUp_facts r z.cls (if z.cls = 2 then piv + 1 else piv) (by split <;> omega) h
    have hz : last ≤ z.cls := by omega
    have hz3 : z.cls = 3 → 0 < piv := by intro e; omega
    refine ⟨?_, ?_, ?_, ?_, ?_, ?_⟩
    · intro x hx
      rcases List.mem_cons.1 hx with rfl | hx
      · exact hz
      · have := f1 x hx; omega
    · intro i j x y hij hx hy
      cases j with
      | zero => omega
      | succ j =>
        cases i with
        | zero => simp at hx; subst hx; exact f1 y (List.mem_of_getElem? (by simpa using hy))
        | succ i => exact f2 i j x y (by omega) (by simpa using hx) (by simpa using hy)
    · intro j y hy h3
      cases j with
      | zero => simp at hy; subst hy; exact .inl (hz3 h3)
      | succ j =>
        rcases f3 j y (by simpa using hy) h3 with h4 | ⟨i, x, hi, hx, hx2⟩
        · by_cases e : z.cls = 2
          · exact .inr ⟨0, z, by omega, rfl, e⟩
          · rw [if_neg e] at h4; exact .inl h4
        · exact .inr ⟨i + 1, x, by omega, by simpa using hx, hx2⟩
    · intro hp x hx
      rcases List.mem_cons.1 hx with rfl | hx
      · intro e
        rw [if_pos e] at f6
        omega
      · refine f4 ?_ x hx
        split <;> omega
    · intro i j x y hij hx hy hx2
      cases j with
      | zero => omega
      | succ j =>
        cases i with
        | zero =>
          simp at hx; subst hx
          rw [if_pos hx2] at f4
          exact f4 (by omega) y (List.mem_of_getElem? (by simpa using hy))
        | succ i => exact f5 i j x y (by omega) (by simpa using hx) (by simpa using hy) hx2
    · split at f6 <;> omega
/-- And the other way: what these say is all. -/
theorem classUp_of : ∀ (r : List Step) (last piv : Int), 0 ≤ piv → piv ≤ 1 → (∀ x ∈ r, last ≤ x.cls) → (∀ (i j : Nat) (x y : Step), i < j → r[i]? = some x → r[j]? = some y → x.cls ≤ y.cls) →
    (∀ (j : Nat) (y : Step), r[j]? = some y → y.cls = 3 → 0 < piv ∨ ∃ (i : Nat) (x : Step), i < j ∧ r[i]? = some x ∧ x.cls = 2) → (0 < piv → ∀ x ∈ r, x.cls ≠ 2) → (∀ (i j : Nat) (x y : Step), i < j → r[i]? = some x → r[j]? = some y → x.cls = 2 → y.cls ≠ 2) → classUp last piv r = true
  | [], last, piv, h0, h1, _, _, _, _, _ => by unfold classUp; simpa using h1
  | z :: r, last, piv, h0, h1, f1, f2, f3, f4, f5 => by
    have hz := f1 z (by simp)
    have hn : ¬ (z.cls < last ∨ (z.cls = 3 ∧ piv = 0)) := by
      rintro (h | ⟨h, hp⟩)
      · omega
      · rcases f3 0 z rfl h with h4 | ⟨i, x, hi, _⟩ <;> omega
    unfold classUp
    rw [if_neg hn]
    have hz2 : z.cls = 2 → piv = 0 := fun e => by
      by_cases hp : 0 < piv
      · exact absurd e (f4 hp z (by simp))
      · omega
    refine classUp_of r _ _ (by split <;> omega) (by split <;> omega) ?_ ?_ ?_ ?_ ?_
    · intro x hx
      obtain ⟨i, hi, e⟩ := List.mem_iff_getElem.1 hx
      exact f2 0 (i + 1) z x (by omega) rfl (by simp [hi, e])
    · intro i j x y hij hx hy
      exact f2 (i + 1) (j + 1) x y (by omega) (by simpa using hx) (by simpa using hy)
    · intro j y hy h3
      rcases f3 (j + 1) y (by simpa using hy) h3 with h4 | ⟨i, x, hi, hx, hx2⟩
      · left; split <;> omega
      · cases i with
        | zero => simp at hx; subst hx; left; rw [if_pos hx2]; omega
        | succ i => exact .inr ⟨i, x, by omega, by simpa using hx, hx2⟩
    · intro hp x hx
      by_cases e : z.cls = 2
      · obtain ⟨i, hi, ex⟩ := List.mem_iff_getElem.1 hx
        exact f5 0 (i + 1) z x (by omega) rfl (by simp [hi, ex]) e
      · rw [if_neg e] at hp
        exact f4 hp x (List.mem_cons_of_mem _ hx)
    · intro i j x y hij hx hy
      exact f5 (i + 1) (j + 1) x y (by omega) (by simpa using hx) (by simpa using hy)
/-- What a fit list of steps is. -/
structure FitL (l : List Step) : Prop where
  len1 : 1 ≤ l.length
  len6 : l.length ≤ 6
  fit : ∀ x ∈ l, fitS x = true
  once : ∀ (i j : Nat) (x y : Step), i < j → l[i]? = some x → l[j]? = some y → x.op ≠ y.op
  mono : ∀ (i j : Nat) (x y : Step), i < j → l[i]? = some x → l[j]? = some y → x.cls ≤ y.cls
  firm : ∀ (j : Nat) (y : Step), l[j]? = some y → y.cls = 3 → ∃ (i : Nat) (x : Step), i < j ∧ l[i]? = some x ∧ x.cls = 2
  piv1 : ∀ (i j : Nat) (x y : Step), i < j → l[i]? = some x → l[j]? = some y → x.cls = 2 → y.cls ≠ 2
  order : orderL l = true
theorem fitL_iff {l : List Step} : fitL l = true ↔ FitL l := by
  constructor
  · intro h
    have hl := fitL_len h
    have hs := fitL_steps h
    unfold fitL at h
    simp only [Bool.and_eq_true, decide_eq_true_eq] at h
    obtain ⟨_, _, hc, ho, hor⟩ := h
    obtain ⟨f1, f2, f3, f4, f5, _⟩ := classUp_facts l 1 0 (by omega) hc
    refine ⟨hl.1, hl.2, hs, ?_, f2, ?_, f5, hor⟩
    · intro i j x y hij hx hy e
      have h1 := ((onceUp_iff l 0).1 ho i x hx).2
      have h2 := ((onceUp_iff l 0).1 ho j y hy).2
      rw [e, h2] at h1
      omega
    · intro j y hy h3
      rcases f3 j y hy h3 with h4 | h4
      · omega
      · exact h4
  · intro h
    unfold fitL
    simp only [Bool.and_eq_true, decide_eq_true_eq]
    refine ⟨h.len1, h.len6, ?_, ?_, h.order⟩
    · refine classUp_of l 1 0 (by omega) (by omega) (fun x hx => (fitS_of (h.fit x hx)).cls0) h.mono (fun j y hy h3 => .inr (h.firm j y hy h3)) (fun hp => by omega) h.piv1
    · refine (onceUp_iff l 0).2 fun i x hx => ⟨h.fit x (List.mem_of_getElem? hx), ?_⟩
      rcases placeL_cases x.op l with ⟨_, hn⟩ | ⟨j, y, h1, h2, h3, h4⟩
      · exact absurd rfl (hn x (List.mem_of_getElem? hx))
      · rcases Nat.lt_trichotomy i j with hij | rfl | hij
        · exact absurd rfl (h4 i x hij hx)
        · rw [h1, Nat.zero_add]
        · exact absurd h3 (h.once j i y x hij h2 hx)
end DefP
end Go.Proofs.YtdpgfnnhbfkacaaDoor
