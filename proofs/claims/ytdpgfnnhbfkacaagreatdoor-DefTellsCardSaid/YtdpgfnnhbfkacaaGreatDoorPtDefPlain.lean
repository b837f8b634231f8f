/-
  Plain facts of def: fit definitions, their texts and octets, read and written; lists, numbers and octets alone, nothing of the program.
-/
import Derived.Test.YtdpgfnnhbfkacaaGreatDoorPtStepPlain
import Derived.Test.YtdpgfnnhbfkacaaGreatDoorPtNamePlain
import Derived.Test.YtdpgfnnhbfkacaaGreatDoorPtWirePlain
set_option linter.unusedVariables false
namespace Go.Proofs.YtdpgfnnhbfkacaaGreatDoor
open NumP
namespace DefP
open StP (fitS FitS fitS_of textS readS parts cutAt)
abbrev Step := StP.St
structure Df where
  name : ByteArray
  steps : List Step
def df0 : Df := ⟨ByteArray.empty, []⟩
def nm (s : ByteArray) : Bool := NameP.fitV (NameP.vals s.data.toList)
/-! ### where a step is -/
def placeUp (op : Int) : Nat → List Step → Int
  | _, [] => -1
  | k, x :: r => if x.op = op then (k : Int) else placeUp op (k + 1) r
def placeL (l : List Step) (op : Int) : Int := placeUp op 0 l
def pivUp : Nat → List Step → Int
  | _, [] => -1
  | k, x :: r => if x.cls = 2 then (k : Int) else pivUp (k + 1) r
def pivL (l : List Step) : Int := pivUp 0 l
theorem place_hit {op : Int} {l : List Step} {k : Nat} {x : Step} (h : l[k]? = some x) (e : x.op = op) : placeUp op k (l.drop k) = (k : Int) := by
  have hk : k < l.length := (List.getElem?_eq_some_iff.1 h).1
  rw [List.drop_eq_getElem_cons hk, (List.getElem?_eq_some_iff.1 h).2, placeUp, if_pos e]
theorem place_miss {op : Int} {l : List Step} {k : Nat} {x : Step} (h : l[k]? = some x) (e : x.op ≠ op) : placeUp op k (l.drop k) = placeUp op (k + 1) (l.drop (k + 1)) := by
  have hk : k < l.length := (List.getElem?_eq_some_iff.1 h).1
  rw [List.drop_eq_getElem_cons hk, (List.getElem?_eq_some_iff.1 h).2, placeUp, if_neg e]
theorem place_end {op : Int} {l : List Step} {k : Nat} (h : l.length ≤ k) : placeUp op k (l.drop k) = -1 := by rw [List.drop_eq_nil_of_le h]; rfl
theorem piv_hit {l : List Step} {k : Nat} {x : Step} (h : l[k]? = some x) (e : x.cls = 2) : pivUp k (l.drop k) = (k : Int) := by
  have hk : k < l.length := (List.getElem?_eq_some_iff.1 h).1
  rw [List.drop_eq_getElem_cons hk, (List.getElem?_eq_some_iff.1 h).2, pivUp, if_pos e]
theorem piv_miss {l : List Step} {k : Nat} {x : Step} (h : l[k]? = some x) (e : x.cls ≠ 2) : pivUp k (l.drop k) = pivUp (k + 1) (l.drop (k + 1)) := by
  have hk : k < l.length := (List.getElem?_eq_some_iff.1 h).1
  rw [List.drop_eq_getElem_cons hk, (List.getElem?_eq_some_iff.1 h).2, pivUp, if_neg e]
theorem piv_end {l : List Step} {k : Nat} (h : l.length ≤ k) : pivUp k (l.drop k) = -1 := by rw [List.drop_eq_nil_of_le h]; rfl
theorem placeUp_cases (op : Int) : ∀ (r : List Step) (k : Nat), (placeUp op k r = -1 ∧ ∀ x ∈ r, x.op ≠ op) ∨ ∃ (i : Nat) (x : Step), placeUp op k r = ((k + i : Nat) : Int) ∧ r[i]? = some x ∧ x.op = op ∧ ∀ (j : Nat) (y : Step), j < i → r[j]? = some y → y.op ≠ op
  | [], k => .inl ⟨rfl, by simp⟩
  | x :: r, k => by
    by_cases e : x.op = op
    · exact .inr ⟨0, x, by rw [placeUp, if_pos e]; rfl, rfl, e, fun j y hj _ => by omega⟩
    · rcases placeUp_cases op r (k + 1) with ⟨h1, h2⟩ | ⟨i, y, h1, h2, h3, h4⟩
      · refine .inl ⟨by rw [placeUp, if_neg e, h1], fun z hz => ?_⟩
        rcases List.mem_cons.1 hz with rfl | hz
        · exact e
        · exact h2 z hz
      · refine .inr ⟨i + 1, y, by rw [placeUp, if_neg e, h1]; congr 1; omega, h2, h3, fun j z hj hz => ?_⟩
        cases j with
        | zero => simp at hz; subst hz; exact e
        | succ j => exact h4 j z (by omega) (by simpa using hz)
theorem placeL_cases (op : Int) (l : List Step) : (placeL l op = -1 ∧ ∀ x ∈ l, x.op ≠ op) ∨ ∃ (i : Nat) (x : Step), placeL l op = (i : Int) ∧ l[i]? = some x ∧ x.op = op ∧ ∀ (j : Nat) (y : Step), j < i → l[j]? = some y → y.op ≠ op := by
  rcases placeUp_cases op l 0 with h | ⟨i, x, h1, h2⟩
  · exact .inl h
  · exact .inr ⟨i, x, by unfold placeL; rw [h1, Nat.zero_add], h2⟩
/-! ### fit definitions -/
def classUp (last piv : Int) : List Step → Bool
  | [] => decide (piv ≤ 1)
  | x :: r => if x.cls < last ∨ (x.cls = 3 ∧ piv = 0) then false else classUp x.cls (if x.cls = 2 then piv + 1 else piv) r
def onceUp (l : List Step) : Nat → List Step → Bool
  | _, [] => true
  | k, x :: r => fitS x && (placeL l x.op == (k : Int) && onceUp l (k + 1) r)
def orderL (l : List Step) : Bool :=
  ((decide (placeL l 1 < 0) && decide (placeL l 3 < 0) && decide (placeL l 5 < 0)) || (decide (0 ≤ placeL l 1) && decide (placeL l 1 < placeL l 3) && decide (placeL l 3 < placeL l 5))) &&
  (decide (placeL l 6 < 0) || (decide (0 ≤ placeL l 2) && decide (placeL l 2 < placeL l 6)))
def fitL (l : List Step) : Bool := decide (1 ≤ l.length) && (decide (l.length ≤ 6) && (classUp 1 0 l && (onceUp l 0 l && orderL l)))
def fitD (d : Df) : Bool := nm d.name && fitL d.steps
theorem onceUp_iff {l : List Step} : ∀ (r : List Step) (k : Nat), onceUp l k r = true ↔ ∀ (i : Nat) (x : Step), r[i]? = some x → fitS x = true ∧ placeL l x.op = ((k + i : Nat) : Int)
  | [], k => by simp [onceUp]
  | y :: r, k => by
    rw [onceUp]
    simp only [Bool.and_eq_true, beq_iff_eq]
    rw [onceUp_iff r (k + 1)]
    constructor
    · rintro ⟨h1, h2, h3⟩ i x hx
      cases i with
      | zero => simp at hx; subst hx; exact ⟨h1, h2⟩
      | succ i =>
        have := h3 i x (by simpa using hx)
        exact ⟨this.1, by rw [this.2]; congr 1; omega⟩
    · intro h
      have h0 := h 0 y rfl
      refine ⟨h0.1, h0.2, fun i x hx => ?_⟩
      have := h (i + 1) x (by simpa using hx)
      exact ⟨this.1, by rw [this.2]; congr 1; omega⟩
theorem fitL_steps {l : List Step} (h : fitL l = true) : ∀ x ∈ l, fitS x = true := by
  unfold fitL at h
  simp only [Bool.and_eq_true, decide_eq_true_eq] at h
  intro x hx
  obtain ⟨i, hi, e⟩ := List.mem_iff_getElem.1 hx
  exact ((onceUp_iff l 0).1 h.2.2.2.1 i x (by rw [List.getElem?_eq_getElem hi, e])).1
theorem fitL_len {l : List Step} (h : fitL l = true) : 1 ≤ l.length ∧ l.length ≤ 6 := by
  unfold fitL at h
  simp only [Bool.and_eq_true, decide_eq_true_eq] at h
  exact ⟨h.1, h.2.1⟩
theorem fitD_iff {d : Df} : fitD d = true ↔ nm d.name = true ∧ fitL d.steps = true := by unfold fitD; simp
theorem fitL_long {l : List Step} (h : 6 < l.length) : fitL l = false := by
  cases hf : fitL l with
  | false => rfl
  | true => have := (fitL_len hf).2; omega
/-! ### what follows of the classes -/
theorem classUp_facts : ∀ (r : List Step) (last piv : Int), 0 ≤ piv → classUp last piv r = true →
    (∀ x ∈ r, last ≤ x.cls) ∧ (∀ (i j : Nat) (x y : Step), i < j → r[i]? = some x → r[j]? = some y → x.cls ≤ y.cls) ∧
    (∀ (j : Nat) (y : Step), r[j]? = some y → y.cls = 3 → 0 < piv ∨ ∃ (i : Nat) (x : Step), i < j ∧ r[i]? = some x ∧ x.cls = 2) ∧
    (0 < piv → ∀ x ∈ r, x.cls ≠ 2) ∧ (∀ (i j : Nat) (x y : Step), i < j → r[i]? = some x → r[j]? = some y → x.cls = 2 → y.cls ≠ 2) ∧ piv ≤ 1
  | [], last, piv, h0, h => by
    refine ⟨by simp, by simp, by simp, by simp, by simp, ?_⟩
    unfold classUp at h
    simpa using h
  | z :: r, last, piv, h0, h => by
    unfold classUp at h
    by_cases hc : z.cls < last ∨ (z.cls = 3 ∧ piv = 0)
    · rw [if_pos hc] at h; cases h
    rw [if_neg hc] at h
    obtain ⟨f1, f2, f3, f4, f5, f6⟩ := classUp_facts r z.cls (if z.cls = 2 then piv + 1 else piv) (by split <;> omega) h
    have hz : last ≤ z.cls := by omega
    have hz3 : z.cls = 3 → 0 < piv := by intro e; omega
    refine ⟨?_, ?_, ?_, ?_, ?_, ?_⟩
    · intro x hx
      rcases List.mem_cons.1 hx with rfl | hx
      · exact hz
      · have := f1 x hx; omega
    · intro i j x y hij hx hy
      cases j with
      | zero => omega
      | succ j =>
        cases i with
        | zero => simp at hx; subst hx; exact f1 y (List.mem_of_getElem? (by simpa using hy))
        | succ i => exact f2 i j x y (by omega) (by simpa using hx) (by simpa using hy)
    · intro j y hy h3
      cases j with
      | zero => simp at hy; subst hy; exact .inl (hz3 h3)
      | succ j =>
        rcases f3 j y (by simpa using hy) h3 with h4 | ⟨i, x, hi, hx, hx2⟩
        · by_cases e : z.cls = 2
          · exact .inr ⟨0, z, by omega, rfl, e⟩
          · rw [if_neg e] at h4; exact .inl h4
        · exact .inr ⟨i + 1, x, by omega, by simpa using hx, hx2⟩
    · intro hp x hx
      rcases List.mem_cons.1 hx with rfl | hx
      · intro e
        rw [if_pos e] at f6
        omega
      · refine f4 ?_ x hx
        split <;> omega
    · intro i j x y hij hx hy hx2
      cases j with
      | zero => omega
      | succ j =>
        cases i with
        | zero =>
          simp at hx; subst hx
          rw [if_pos hx2] at f4
          exact f4 (by omega) y (List.mem_of_getElem? (by simpa using hy))
        | succ i => exact f5 i j x y (by omega) (by simpa using hx) (by simpa using hy) hx2
    · split at f6 <;> omega
theorem classUp_of : ∀ (r : List Step) (last piv : Int), 0 ≤ piv → piv ≤ 1 → (∀ x ∈ r, last ≤ x.cls) → (∀ (i j : Nat) (x y : Step), i < j → r[i]? = some x → r[j]? = some y → x.cls ≤ y.cls) →
    (∀ (j : Nat) (y : Step), r[j]? = some y → y.cls = 3 → 0 < piv ∨ ∃ (i : Nat) (x : Step), i < j ∧ r[i]? = some x ∧ x.cls = 2) → (0 < piv → ∀ x ∈ r, x.cls ≠ 2) → (∀ (i j : Nat) (x y : Step), i < j → r[i]? = some x → r[j]? = some y → x.cls = 2 → y.cls ≠ 2) → classUp last piv r = true
  | [], last, piv, h0, h1, _, _, _, _, _ => by unfold classUp; simpa using h1
  | z :: r, last, piv, h0, h1, f1, f2, f3, f4, f5 => by
    have hz := f1 z (by simp)
    have hn : ¬ (z.cls < last ∨ (z.cls = 3 ∧ piv = 0)) := by
      rintro (h | ⟨h, hp⟩)
      · omega
      · rcases f3 0 z rfl h with h4 | ⟨i, x, hi, _⟩ <;> omega
    unfold classUp
    rw [if_neg hn]
    have hz2 : z.cls = 2 → piv = 0 := fun e => by
      by_cases hp : 0 < piv
      · exact absurd e (f4 hp z (by simp))
      · omega
    refine classUp_of r _ _ (by split <;> omega) (by split <;> omega) ?_ ?_ ?_ ?_ ?_
    · intro x hx
      obtain ⟨i, hi, e⟩ := List.mem_iff_getElem.1 hx
      exact f2 0 (i + 1) z x (by omega) rfl (by simp [hi, e])
    · intro i j x y hij hx hy
      exact f2 (i + 1) (j + 1) x y (by omega) (by simpa using hx) (by simpa using hy)
    · intro j y hy h3
      rcases f3 (j + 1) y (by simpa using hy) h3 with h4 | ⟨i, x, hi, hx, hx2⟩
      · left; split <;> omega
      · cases i with
        | zero => simp at hx; subst hx; left; rw [if_pos hx2]; omega
        | succ i => exact .inr ⟨i, x, by omega, by simpa using hx, hx2⟩
    · intro hp x hx
      by_cases e : z.cls = 2
      · obtain ⟨i, hi, ex⟩ := List.mem_iff_getElem.1 hx
        exact f5 0 (i + 1) z x (by omega) rfl (by simp [hi, ex]) e
      · rw [if_neg e] at hp
        exact f4 hp x (List.mem_cons_of_mem _ hx)
    · intro i j x y hij hx hy
      exact f5 (i + 1) (j + 1) x y (by omega) (by simpa using hx) (by simpa using hy)
structure FitL (l : List Step) : Prop where
  len1 : 1 ≤ l.length
  len6 : l.length ≤ 6
  fit : ∀ x ∈ l, fitS x = true
  once : ∀ (i j : Nat) (x y : Step), i < j → l[i]? = some x → l[j]? = some y → x.op ≠ y.op
  mono : ∀ (i j : Nat) (x y : Step), i < j → l[i]? = some x → l[j]? = some y → x.cls ≤ y.cls
  firm : ∀ (j : Nat) (y : Step), l[j]? = some y → y.cls = 3 → ∃ (i : Nat) (x : Step), i < j ∧ l[i]? = some x ∧ x.cls = 2
  piv1 : ∀ (i j : Nat) (x y : Step), i < j → l[i]? = some x → l[j]? = some y → x.cls = 2 → y.cls ≠ 2
  order : orderL l = true
theorem fitL_iff {l : List Step} : fitL l = true ↔ FitL l := by
  constructor
  · intro h
    have hl := fitL_len h
    have hs := fitL_steps h
    unfold fitL at h
    simp only [Bool.and_eq_true, decide_eq_true_eq] at h
    obtain ⟨_, _, hc, ho, hor⟩ := h
    obtain ⟨f1, f2, f3, f4, f5, _⟩ := classUp_facts l 1 0 (by omega) hc
    refine ⟨hl.1, hl.2, hs, ?_, f2, ?_, f5, hor⟩
    · intro i j x y hij hx hy e
      have h1 := ((onceUp_iff l 0).1 ho i x hx).2
      have h2 := ((onceUp_iff l 0).1 ho j y hy).2
      rw [e, h2] at h1
      omega
    · intro j y hy h3
      rcases f3 j y hy h3 with h4 | h4
      · omega
      · exact h4
  · intro h
    unfold fitL
    simp only [Bool.and_eq_true, decide_eq_true_eq]
    refine ⟨h.len1, h.len6, ?_, ?_, h.order⟩
    · refine classUp_of l 1 0 (by omega) (by omega) (fun x hx => (fitS_of (h.fit x hx)).cls0) h.mono (fun j y hy h3 => .inr (h.firm j y hy h3)) (fun hp => by omega) h.piv1
    · refine (onceUp_iff l 0).2 fun i x hx => ⟨h.fit x (List.mem_of_getElem? hx), ?_⟩
      rcases placeL_cases x.op l with ⟨_, hn⟩ | ⟨j, y, h1, h2, h3, h4⟩
      · exact absurd rfl (hn x (List.mem_of_getElem? hx))
      · rcases Nat.lt_trichotomy i j with hij | rfl | hij
        · exact absurd rfl (h4 i x hij hx)
        · rw [h1, Nat.zero_add]
        · exact absurd h3 (h.once j i y x hij h2 hx)
end DefP
end Go.Proofs.YtdpgfnnhbfkacaaGreatDoor

/-
  Plain facts of def: texts of definitions, read and written; lists, numbers and octets alone, nothing of the program.
-/
set_option linter.unusedVariables false
namespace Go.Proofs.YtdpgfnnhbfkacaaGreatDoor
open NumP
namespace DefP
open StP (fitS FitS fitS_of textS readS parts cutAt partsS opL clL opL_len clL_len not_itoa)
open NameP (nr nr_iff encs vals fitV fitV_iff allNr_good encs_vals toByte_nat vals_four)

theorem rune_low {c : Nat} (h : nr (c : Int) = true) : ∀ b ∈ Lib.encodeRune (c : Int), 45 ≤ b.toNat := by
  have hc := nr_iff.1 h
  unfold Lib.encodeRune
  by_cases h1 : (c : Int) ≤ 127
  · rw [Lib.encodeRuneZ_one (by omega) h1]
    intro b hb
    simp only [List.map_cons, List.map_nil, List.mem_singleton] at hb
    subst hb
    have e : ((c : Int).toNat.toUInt8).toNat = c := by
      rw [show (c : Int).toNat.toUInt8.toNat = (c : Int).toNat from toByte_nat _ (by omega) (by omega)]; omega
    omega
  · rw [Lib.encodeRuneZ_two (by omega) (by omega)]
    intro b hb
    simp only [List.map_cons, List.map_nil, List.mem_cons, List.not_mem_nil, or_false] at hb
    have key : ∀ z : Int, 128 ≤ z → z < 256 → 45 ≤ (z.toNat.toUInt8).toNat := by
      intro z h0 h1
      rw [toByte_nat z (by omega) h1]
      omega
    rcases hb with rfl | rfl
    · exact key _ (by omega) (by omega)
    · exact key _ (by omega) (by omega)
/-! ### texts -/
theorem join_mem {sep : List UInt8} {c : UInt8} : ∀ {xs : List (List UInt8)}, c ∈ Lib.join xs sep → c ∈ sep ∨ ∃ x ∈ xs, c ∈ x
  | [], h => by rw [Lib.join_nil] at h; cases h
  | [x], h => by rw [Lib.join_one] at h; exact .inr ⟨x, by simp, h⟩
  | x :: y :: r, h => by
    rw [Lib.join_cons] at h
    rcases List.mem_append.1 h with h | h
    · exact .inr ⟨x, by simp, h⟩
    · unfold Lib.joinTail at h
      obtain ⟨z, hz, hc⟩ := List.mem_flatten.1 h
      obtain ⟨w, hw, rfl⟩ := List.mem_map.1 hz
      rcases List.mem_append.1 hc with hc | hc
      · exact .inl hc
      · exact .inr ⟨w, List.mem_cons_of_mem _ hw, hc⟩
theorem opL_low (n : Int) : ∀ c ∈ opL n, 97 ≤ c.toNat := by
  unfold opL
  split
  · decide
  split
  · decide
  split
  · decide
  split
  · decide
  split <;> decide
theorem clL_low (n : Int) : ∀ c ∈ clL n, 97 ≤ c.toNat := by
  unfold clL
  split
  · decide
  split <;> decide
theorem textS_no {x : Step} (c : UInt8) (hc : c.toNat < 45) : c ∉ textS x := by
  unfold textS
  split
  · intro hm
    rcases join_mem hm with h | ⟨y, hy, hcy⟩
    · rw [List.mem_singleton] at h; subst h; exact absurd hc (by decide)
    · unfold partsS at hy
      simp only [List.mem_cons, List.mem_nil_iff, or_false] at hy
      have h45 : c ≠ 45 := fun e => by subst e; exact absurd hc (by decide)
      rcases hy with rfl | rfl | rfl | rfl | rfl | rfl
      · have := opL_low _ c hcy; omega
      · have := clL_low _ c hcy; omega
      · exact not_itoa _ c (.inl (by omega)) h45 hcy
      · exact not_itoa _ c (.inl (by omega)) h45 hcy
      · exact not_itoa _ c (.inl (by omega)) h45 hcy
      · exact not_itoa _ c (.inl (by omega)) h45 hcy
  · intro h; cases h
def stepsT (l : List Step) : List UInt8 := Lib.join (l.map textS) [44]
def textD (d : Df) : List UInt8 := if fitD d = true then d.name.data.toList ++ 32 :: stepsT d.steps else []
theorem textD_no {d : Df} (h : fitD d = false) : textD d = [] := by unfold textD; rw [h]; rfl
/-! ### what is read -/
def allS : List (List UInt8) → Option (List Step)
  | [] => some []
  | p :: r => match readS p with
    | none => none
    | some x => (allS r).map (x :: ·)
def readD (s : List UInt8) : Option Df := match parts 32 s with
  | [n, p] => match allS (parts 44 p) with
    | none => none
    | some l => if fitD ⟨⟨n.toArray⟩, l⟩ = true then some ⟨⟨n.toArray⟩, l⟩ else none
  | _ => none
theorem allS_some : ∀ {ps : List (List UInt8)} {l : List Step}, allS ps = some l → l.map textS = ps ∧ ∀ x ∈ l, fitS x = true
  | [], l, h => by rw [allS] at h; cases h; exact ⟨rfl, by simp⟩
  | p :: r, l, h => by
    rw [allS] at h
    cases hr : readS p with
    | none => rw [hr] at h; cases h
    | some x =>
      rw [hr] at h
      cases ha : allS r with
      | none => rw [ha] at h; cases h
      | some m =>
        rw [ha] at h
        cases h
        obtain ⟨h1, h2⟩ := allS_some ha
        obtain ⟨h3, h4⟩ := StP.readS_some hr
        refine ⟨by rw [List.map_cons, h4, h1], fun y hy => ?_⟩
        rcases List.mem_cons.1 hy with rfl | hy
        · exact h3
        · exact h2 y hy
theorem allS_len : ∀ {ps : List (List UInt8)} {l : List Step}, allS ps = some l → l.length = ps.length := fun {ps l} h => by
  have := congrArg List.length (allS_some h).1
  simpa using this
end DefP
end Go.Proofs.YtdpgfnnhbfkacaaGreatDoor

/-
  Plain facts of def: definitions as octets, written and read; lists, numbers and octets alone, nothing of the program.
-/
set_option linter.unusedVariables false
namespace Go.Proofs.YtdpgfnnhbfkacaaGreatDoor
open NumP
namespace DefP
open WireP (rdInt rdText rdList lenOk enc text ok num nl left done encs)

def I64 (n : Int) : Prop := -9223372036854775808 ≤ n ∧ n ≤ 9223372036854775807
structure S64 (x : Step) : Prop where
  op : I64 x.op
  cls : I64 x.cls
  tries : I64 x.tries
  base : I64 x.base
  cap : I64 x.cap
  wait : I64 x.wait
def six (x : Step) : List Int := [x.op, x.cls, x.tries, x.base, x.cap, x.wait]
def one (x : Step) : List UInt8 := encs (six x)
def putD (d : Df) : List UInt8 := text d.name.data.toList ++ (enc (d.steps.length : Int) ++ d.steps.flatMap one)
def pk (d : Df) (k : Nat) : List UInt8 := text d.name.data.toList ++ enc (d.steps.length : Int) ++ (d.steps.take k).flatMap one
theorem putD_pk (d : Df) : putD d = pk d d.steps.length := by unfold putD pk; rw [List.take_length, List.append_assoc]
theorem pk_zero (d : Df) : pk d 0 = text d.name.data.toList ++ enc (d.steps.length : Int) := by simp [pk]
theorem pk_step {d : Df} {k : Nat} {x : Step} (h : d.steps[k]? = some x) : pk d (k + 1) = pk d k ++ one x := by
  have hk : k < d.steps.length := (List.getElem?_eq_some_iff.1 h).1
  unfold pk
  rw [List.take_succ_eq_append_getElem hk, (List.getElem?_eq_some_iff.1 h).2, List.flatMap_append, List.flatMap_cons, List.flatMap_nil, List.append_nil]
  simp only [List.append_assoc]
theorem one_len {x : Step} (h : S64 x) : (one x).length ≤ 54 := by
  have := WireP.encs_len (six x) (by
    intro n hn
    unfold six at hn
    simp only [List.mem_cons, List.mem_nil_iff, or_false] at hn
    rcases hn with rfl | rfl | rfl | rfl | rfl | rfl
    · exact h.op
    · exact h.cls
    · exact h.tries
    · exact h.base
    · exact h.cap
    · exact h.wait)
  exact this
theorem ones_len {l : List Step} (h : ∀ x ∈ l, S64 x) : (l.flatMap one).length ≤ 54 * l.length := by
  induction l with
  | nil => simp
  | cons x r ih =>
    have h1 := ih fun y hy => h y (List.mem_cons_of_mem _ hy)
    have h2 := one_len (h x (by simp))
    rw [List.flatMap_cons, List.length_append, List.length_cons]
    omega
/-! ### definitions read from a reader -/
/-! ### bad readers stay bad -/
end DefP
end Go.Proofs.YtdpgfnnhbfkacaaGreatDoor

/-
  Plain facts of def: the definitions that are built in; nothing of the program.
-/
set_option linter.unusedVariables false
set_option maxRecDepth 8000
namespace Go.Proofs.YtdpgfnnhbfkacaaGreatDoor
namespace DefP

def fulfilS : List Step := [⟨1, 1, 0, 1, 1, 40⟩, ⟨2, 1, 3, 1, 8, 30⟩, ⟨3, 1, 0, 1, 1, 0⟩, ⟨4, 2, 3, 1, 8, 0⟩, ⟨5, 3, 0, 1, 1, 0⟩, ⟨6, 3, 5, 1, 8, 0⟩]
def fulfilB : ByteArray := ⟨#[102, 117, 108, 102, 105, 108]⟩
def fulfilT : List UInt8 := [102, 117, 108, 102, 105, 108, 32, 104, 111, 108, 100, 47, 115, 111, 102, 116, 47, 48, 47, 49, 47, 49, 47, 52, 48, 44, 97, 117, 116, 104, 47, 115, 111, 102, 116, 47, 51, 47, 49, 47, 56, 47, 51, 48, 44, 107, 101, 101, 112, 47, 115, 111, 102, 116, 47, 48, 47, 49, 47, 49, 47, 48, 44, 98, 111, 111, 107, 47, 112, 105, 118, 111, 116, 47, 51, 47, 49, 47, 56, 47, 48, 44, 115, 101, 110, 100, 47, 102, 105, 114, 109, 47, 48, 47, 49, 47, 49, 47, 48, 44, 116, 97, 107, 101, 47, 102, 105, 114, 109, 47, 53, 47, 49, 47, 56, 47, 48]
theorem fulfil_read : readD fulfilT = some ⟨fulfilB, fulfilS⟩ := by rfl
def pickupS : List Step := [⟨1, 1, 0, 1, 1, 20⟩, ⟨2, 1, 2, 1, 4, 20⟩, ⟨3, 1, 0, 1, 1, 0⟩, ⟨6, 2, 2, 1, 4, 0⟩, ⟨5, 3, 0, 1, 1, 0⟩]
def pickupB : ByteArray := ⟨#[112, 105, 99, 107, 117, 112]⟩
def pickupT : List UInt8 := [112, 105, 99, 107, 117, 112, 32, 104, 111, 108, 100, 47, 115, 111, 102, 116, 47, 48, 47, 49, 47, 49, 47, 50, 48, 44, 97, 117, 116, 104, 47, 115, 111, 102, 116, 47, 50, 47, 49, 47, 52, 47, 50, 48, 44, 107, 101, 101, 112, 47, 115, 111, 102, 116, 47, 48, 47, 49, 47, 49, 47, 48, 44, 116, 97, 107, 101, 47, 112, 105, 118, 111, 116, 47, 50, 47, 49, 47, 52, 47, 48, 44, 115, 101, 110, 100, 47, 102, 105, 114, 109, 47, 48, 47, 49, 47, 49, 47, 48]
theorem pickup_read : readD pickupT = some ⟨pickupB, pickupS⟩ := by rfl
def prepaidS : List Step := [⟨2, 1, 3, 2, 8, 0⟩, ⟨6, 1, 3, 2, 8, 0⟩, ⟨4, 1, 3, 1, 4, 50⟩]
def prepaidB : ByteArray := ⟨#[112, 114, 101, 112, 97, 105, 100]⟩
def prepaidT : List UInt8 := [112, 114, 101, 112, 97, 105, 100, 32, 97, 117, 116, 104, 47, 115, 111, 102, 116, 47, 51, 47, 50, 47, 56, 47, 48, 44, 116, 97, 107, 101, 47, 115, 111, 102, 116, 47, 51, 47, 50, 47, 56, 47, 48, 44, 98, 111, 111, 107, 47, 115, 111, 102, 116, 47, 51, 47, 49, 47, 52, 47, 53, 48]
theorem prepaid_read : readD prepaidT = some ⟨prepaidB, prepaidS⟩ := by rfl
theorem keep_alone : readD [120, 32, 107, 101, 101, 112, 47, 115, 111, 102, 116, 47, 48, 47, 49, 47, 49, 47, 48] = none := by rfl
theorem fulfil_piv : pivL fulfilS = 3 := by decide
theorem prepaid_piv : pivL prepaidS = -1 := by decide
theorem pickup_take : placeL pickupS 6 = 3 := by decide
end DefP
end Go.Proofs.YtdpgfnnhbfkacaaGreatDoor

/-
  Plain facts of def: the program's rules of a fit definition, one by one, and the document's; nothing of the program.
-/
set_option linter.unusedVariables false
namespace Go.Proofs.YtdpgfnnhbfkacaaGreatDoor
namespace DefP
open StP (fitS FitS fitS_of)

def lenR (l : List Step) : Bool := decide (1 ≤ l.length) && decide (l.length ≤ 6)
def allR : List Step → Bool
  | [] => true
  | x :: r => fitS x && allR r
def placeR (l : List Step) : Nat → List Step → Bool
  | _, [] => true
  | k, x :: r => placeL l x.op == (k : Int) && placeR l (k + 1) r
def sortR (l : List Step) : Nat → Bool
  | 0 => true
  | i + 1 => if (l.getD (i + 1) StP.st0).cls < (l.getD i StP.st0).cls then false else sortR l i
def manyL (c : Int) : List Step → Nat
  | [] => 0
  | x :: r => (if x.cls = c then 1 else 0) + manyL c r
def shipR (h k s : Int) : Bool := if h < 0 then decide (k < 0) && decide (s < 0) else decide (h < k) && decide (k < s)
def capR (a t : Int) : Bool := decide (t < 0) || (decide (0 ≤ a) && decide (a < t))
theorem allR_iff {l : List Step} : allR l = true ↔ ∀ x ∈ l, fitS x = true := by
  induction l with
  | nil => simp [allR]
  | cons y r ih => simp [allR, ih]
theorem placeR_iff {l : List Step} : ∀ (r : List Step) (k : Nat), placeR l k r = true ↔ ∀ (i : Nat) (x : Step), r[i]? = some x → placeL l x.op = ((k + i : Nat) : Int)
  | [], k => by simp [placeR]
  | y :: r, k => by
    rw [placeR]
    simp only [Bool.and_eq_true, beq_iff_eq]
    rw [placeR_iff r (k + 1)]
    constructor
    · rintro ⟨h2, h3⟩ i x hx
      cases i with
      | zero => simp at hx; subst hx; exact h2
      | succ i =>
        have := h3 i x (by simpa using hx)
        rw [this]; congr 1; omega
    · intro h
      have h0 := h 0 y rfl
      refine ⟨h0, fun i x hx => ?_⟩
      have := h (i + 1) x (by simpa using hx)
      rw [this]; congr 1; omega
theorem getD_get {l : List Step} {i : Nat} {x : Step} (h : l[i]? = some x) : l.getD i StP.st0 = x := by simp [List.getD, h]
theorem sortR_iff {l : List Step} : ∀ (n : Nat), sortR l n = true ↔ ∀ i, i < n → (l.getD i StP.st0).cls ≤ (l.getD (i + 1) StP.st0).cls
  | 0 => by simp [sortR]
  | n + 1 => by
    rw [sortR]
    by_cases h : (l.getD (n + 1) StP.st0).cls < (l.getD n StP.st0).cls
    · rw [if_pos h]
      constructor
      · intro e; cases e
      · intro e; have := e n (by omega); omega
    · rw [if_neg h, sortR_iff n]
      constructor
      · intro e i hi
        by_cases hin : i = n
        · subst hin; omega
        · exact e i (by omega)
      · intro e i hi
        exact e i (by omega)
theorem sort_mono {l : List Step} (h : sortR l (l.length - 1) = true) : ∀ (i j : Nat) (x y : Step), i < j → l[i]? = some x → l[j]? = some y → x.cls ≤ y.cls := by
  have h1 := (sortR_iff (l := l) (l.length - 1)).1 h
  have key : ∀ (d i : Nat), i + d < l.length → (l.getD i StP.st0).cls ≤ (l.getD (i + d) StP.st0).cls := by
    intro d
    induction d with
    | zero => intro i _; exact Int.le_refl _
    | succ d ih =>
      intro i hi
      have a := ih i (by omega)
      have b := h1 (i + d) (by omega)
      rw [show i + (d + 1) = i + d + 1 by omega]
      omega
  intro i j x y hij hx hy
  have hj := (List.getElem?_eq_some_iff.1 hy).1
  have := key (j - i) i (by omega)
  rw [show i + (j - i) = j by omega, getD_get hx, getD_get hy] at this
  exact this
theorem many_none {c : Int} : ∀ {l : List Step}, manyL c l = 0 ↔ ∀ x ∈ l, x.cls ≠ c
  | [] => by simp [manyL]
  | y :: r => by
    rw [manyL]
    by_cases h : y.cls = c
    · rw [if_pos h]
      constructor
      · intro e; omega
      · intro e; exact absurd h (e y (by simp))
    · rw [if_neg h, Nat.zero_add, many_none]
      simp [h]
theorem many_one {c : Int} : ∀ {l : List Step}, manyL c l ≤ 1 ↔ ∀ (i j : Nat) (x y : Step), i < j → l[i]? = some x → l[j]? = some y → x.cls = c → y.cls ≠ c
  | [] => by simp [manyL]
  | z :: r => by
    rw [manyL]
    by_cases h : z.cls = c
    · rw [if_pos h]
      constructor
      · intro e i j x y hij hx hy hxc
        have e0 : manyL c r = 0 := by omega
        cases j with
        | zero => omega
        | succ j => exact many_none.1 e0 y (List.mem_of_getElem? (by simpa using hy))
      · intro e
        have : manyL c r = 0 := many_none.2 fun y hy => by
          obtain ⟨j, hj, ej⟩ := List.mem_iff_getElem.1 hy
          exact e 0 (j + 1) z y (by omega) rfl (by simp [hj, ej]) h
        omega
    · rw [if_neg h, Nat.zero_add, many_one]
      constructor
      · intro e i j x y hij hx hy hxc
        cases j with
        | zero => omega
        | succ j =>
          cases i with
          | zero => simp at hx; subst hx; exact absurd hxc h
          | succ i => exact e i j x y (by omega) (by simpa using hx) (by simpa using hy) hxc
      · intro e i j x y hij hx hy hxc
        exact e (i + 1) (j + 1) x y (by omega) (by simpa using hx) (by simpa using hy) hxc
theorem many_some {c : Int} {l : List Step} (h : manyL c l ≠ 0) : ∃ (i : Nat) (x : Step), l[i]? = some x ∧ x.cls = c := by
  refine Classical.byContradiction fun hn => h (many_none.2 fun x hx e => hn ?_)
  obtain ⟨i, hi, ei⟩ := List.mem_iff_getElem.1 hx
  exact ⟨i, x, by rw [List.getElem?_eq_getElem hi, ei], e⟩
theorem order_eq (l : List Step) : orderL l = (shipR (placeL l 1) (placeL l 3) (placeL l 5) && capR (placeL l 2) (placeL l 6)) := by
  unfold orderL shipR capR
  have p3 : -1 ≤ placeL l 3 := by rcases placeL_cases 3 l with ⟨h, _⟩ | ⟨i, x, h, _⟩ <;> omega
  by_cases h : placeL l 1 < 0
  · rw [if_pos h]
    simp [h, show ¬ 0 ≤ placeL l 1 by omega]
  · rw [if_neg h]
    simp [h, show 0 ≤ placeL l 1 by omega]
theorem bool_eq {a b : Bool} (h : a = true ↔ b = true) : a = b := by
  cases a <;> cases b <;> simp_all
theorem fitL_eq (l : List Step) : fitL l = (lenR l && (allR l && (placeR l 0 l && (sortR l (l.length - 1) && (decide (manyL 2 l ≤ 1) && ((decide (manyL 3 l = 0) || decide (manyL 2 l = 1)) && (shipR (placeL l 1) (placeL l 3) (placeL l 5) && capR (placeL l 2) (placeL l 6)))))))) := by
  rw [← order_eq]
  apply bool_eq
  constructor
  · intro h
    have f := fitL_iff.1 h
    unfold fitL at h
    simp only [Bool.and_eq_true, decide_eq_true_eq] at h
    unfold lenR
    simp only [Bool.and_eq_true, Bool.or_eq_true, decide_eq_true_eq]
    refine ⟨⟨f.len1, f.len6⟩, allR_iff.2 f.fit, ?_, ?_, many_one.2 f.piv1, ?_, f.order⟩
    · exact (placeR_iff l 0).2 fun i x hx => ((onceUp_iff l 0).1 h.2.2.2.1 i x hx).2
    · refine (sortR_iff _).2 fun i hi => ?_
      have h1 : l[i]? = some l[i] := List.getElem?_eq_getElem (by omega)
      have h2 : l[i + 1]? = some l[i + 1] := List.getElem?_eq_getElem (by omega)
      rw [getD_get h1, getD_get h2]
      exact f.mono i (i + 1) _ _ (by omega) h1 h2
    · by_cases h3 : manyL 3 l = 0
      · exact .inl h3
      · right
        obtain ⟨j, y, hy, hyc⟩ := many_some h3
        obtain ⟨i, x, _, hx, hxc⟩ := f.firm j y hy hyc
        have h1 : manyL 2 l ≤ 1 := many_one.2 f.piv1
        have h2 : manyL 2 l ≠ 0 := fun e => many_none.1 e x (List.mem_of_getElem? hx) hxc
        omega
  · intro h
    unfold lenR at h
    simp only [Bool.and_eq_true, Bool.or_eq_true, decide_eq_true_eq] at h
    obtain ⟨⟨h1, h2⟩, h3, h4, h5, h6, h7, h8⟩ := h
    have hp := (placeR_iff l 0).1 h4
    have hm := sort_mono h5
    refine fitL_iff.2 ⟨h1, h2, allR_iff.1 h3, ?_, hm, ?_, many_one.1 h6, h8⟩
    · intro i j x y hij hx hy e
      have a := hp i x hx
      have b := hp j y hy
      rw [e, b] at a
      omega
    · intro j y hy hyc
      have h30 : manyL 3 l ≠ 0 := fun e => many_none.1 e y (List.mem_of_getElem? hy) hyc
      have h21 : manyL 2 l ≠ 0 := by omega
      obtain ⟨i, x, hx, hxc⟩ := many_some h21
      refine ⟨i, x, ?_, hx, hxc⟩
      rcases Nat.lt_trichotomy i j with hij | rfl | hij
      · exact hij
      · rw [hx] at hy; cases hy; omega
      · have := hm j i y x hij hy hx; omega
/-! ### as the loops go -/
theorem all_no {l : List Step} {k : Nat} {x : Step} (h : l[k]? = some x) (e : fitS x = false) : allR (l.drop k) = false := by
  obtain ⟨hk, ex⟩ := List.getElem?_eq_some_iff.1 h
  rw [List.drop_eq_getElem_cons hk, ex, allR, e]; rfl
theorem all_go {l : List Step} {k : Nat} {x : Step} (h : l[k]? = some x) (e : fitS x = true) : allR (l.drop k) = allR (l.drop (k + 1)) := by
  obtain ⟨hk, ex⟩ := List.getElem?_eq_some_iff.1 h
  rw [List.drop_eq_getElem_cons hk, ex, allR, e]; rfl
theorem all_end {l : List Step} {k : Nat} (h : l.length ≤ k) : allR (l.drop k) = true := by rw [List.drop_eq_nil_of_le h]; rfl
theorem pl_no {l : List Step} {k : Nat} {x : Step} (h : l[k]? = some x) (e : (placeL l x.op == (k : Int)) = false) : placeR l k (l.drop k) = false := by
  obtain ⟨hk, ex⟩ := List.getElem?_eq_some_iff.1 h
  rw [List.drop_eq_getElem_cons hk, ex, placeR, e]; rfl
theorem pl_go {l : List Step} {k : Nat} {x : Step} (h : l[k]? = some x) (e : (placeL l x.op == (k : Int)) = true) : placeR l k (l.drop k) = placeR l (k + 1) (l.drop (k + 1)) := by
  obtain ⟨hk, ex⟩ := List.getElem?_eq_some_iff.1 h
  rw [List.drop_eq_getElem_cons hk, ex, placeR, e]; rfl
theorem pl_end {l : List Step} {k : Nat} (h : l.length ≤ k) : placeR l k (l.drop k) = true := by rw [List.drop_eq_nil_of_le h]; rfl
theorem many_yes {c : Int} {l : List Step} {k m n : Nat} {x : Step} (hd : m + manyL c (l.drop k) = n) (h : l[k]? = some x) (e : x.cls = c) : (m + 1) + manyL c (l.drop (k + 1)) = n := by
  obtain ⟨hk, ex⟩ := List.getElem?_eq_some_iff.1 h
  rw [List.drop_eq_getElem_cons hk, ex, manyL, if_pos e] at hd; omega
theorem many_no {c : Int} {l : List Step} {k m n : Nat} {x : Step} (hd : m + manyL c (l.drop k) = n) (h : l[k]? = some x) (e : x.cls ≠ c) : m + manyL c (l.drop (k + 1)) = n := by
  obtain ⟨hk, ex⟩ := List.getElem?_eq_some_iff.1 h
  rw [List.drop_eq_getElem_cons hk, ex, manyL, if_neg e] at hd; omega
theorem many_end {c : Int} {l : List Step} {k m n : Nat} (hd : m + manyL c (l.drop k) = n) (h : l.length ≤ k) : m = n := by
  rw [List.drop_eq_nil_of_le h, manyL] at hd; omega
theorem sort_no {l : List Step} {i : Nat} {x y : Step} (hx : l[i]? = some x) (hy : l[i + 1]? = some y) (e : y.cls < x.cls) : sortR l (i + 1) = false := by
  rw [sortR, getD_get hx, getD_get hy, if_pos e]
theorem sort_go {l : List Step} {i : Nat} {x y : Step} (hx : l[i]? = some x) (hy : l[i + 1]? = some y) (e : ¬ y.cls < x.cls) : sortR l (i + 1) = sortR l i := by
  rw [sortR, getD_get hx, getD_get hy, if_neg e]
theorem class_bad {l : List Step} {k : Nat} {x : Step} {last piv : Int} (h : l[k]? = some x) (e : x.cls < last ∨ (x.cls = 3 ∧ piv = 0)) : classUp last piv (l.drop k) = false := by
  obtain ⟨hk, ex⟩ := List.getElem?_eq_some_iff.1 h
  rw [List.drop_eq_getElem_cons hk, ex, classUp, if_pos e]
theorem class_go {l : List Step} {k : Nat} {x : Step} {last piv : Int} (h : l[k]? = some x) (e : ¬ (x.cls < last ∨ (x.cls = 3 ∧ piv = 0))) : classUp last piv (l.drop k) = classUp x.cls (if x.cls = 2 then piv + 1 else piv) (l.drop (k + 1)) := by
  obtain ⟨hk, ex⟩ := List.getElem?_eq_some_iff.1 h
  rw [List.drop_eq_getElem_cons hk, ex, classUp, if_neg e]
theorem class_end {l : List Step} {k : Nat} {last piv : Int} (h : l.length ≤ k) : classUp last piv (l.drop k) = decide (piv ≤ 1) := by rw [List.drop_eq_nil_of_le h]; rfl
theorem once_nofit {l : List Step} {k : Nat} {x : Step} (h : l[k]? = some x) (e : fitS x = false) : onceUp l k (l.drop k) = false := by
  obtain ⟨hk, ex⟩ := List.getElem?_eq_some_iff.1 h
  rw [List.drop_eq_getElem_cons hk, ex, onceUp, e]; rfl
theorem once_no {l : List Step} {k : Nat} {x : Step} (h : l[k]? = some x) (e : (placeL l x.op == (k : Int)) = false) : onceUp l k (l.drop k) = false := by
  obtain ⟨hk, ex⟩ := List.getElem?_eq_some_iff.1 h
  rw [List.drop_eq_getElem_cons hk, ex, onceUp, e]; simp
theorem once_go {l : List Step} {k : Nat} {x : Step} (h : l[k]? = some x) (e : fitS x = true) (e2 : (placeL l x.op == (k : Int)) = true) : onceUp l k (l.drop k) = onceUp l (k + 1) (l.drop (k + 1)) := by
  obtain ⟨hk, ex⟩ := List.getElem?_eq_some_iff.1 h
  rw [List.drop_eq_getElem_cons hk, ex, onceUp, e, e2]; rfl
theorem once_end {l : List Step} {k : Nat} (h : l.length ≤ k) : onceUp l k (l.drop k) = true := by rw [List.drop_eq_nil_of_le h]; rfl
end DefP
end Go.Proofs.YtdpgfnnhbfkacaaGreatDoor

/-
  Plain facts of def: what is read by a cut at the first space and a split into seven parts at most is what the document reads; nothing of the program.
-/
set_option linter.unusedVariables false
namespace Go.Proofs.YtdpgfnnhbfkacaaGreatDoor
namespace DefP
open StP (textS readS parts partsF cutAt)

def goL (acc : List Step) : List (List UInt8) → Option (List Step)
  | [] => some acc
  | p :: r => match readS p with
    | none => none
    | some x => goL (acc ++ [x]) r
theorem goL_all : ∀ (ps : List (List UInt8)) (acc : List Step), goL acc ps = (allS ps).map (acc ++ ·)
  | [], acc => by simp [goL, allS]
  | p :: r, acc => by
    rw [goL, allS]
    cases hr : readS p with
    | none => rfl
    | some x =>
      simp only
      rw [goL_all r]
      cases allS r with
      | none => rfl
      | some l => simp
def finD (n : List UInt8) : Option (List Step) → Option Df
  | none => none
  | some l => if fitD ⟨⟨n.toArray⟩, l⟩ = true then some ⟨⟨n.toArray⟩, l⟩ else none
def cutN (s : List UInt8) : List UInt8 := match cutAt 32 s with | none => s | some q => q.1
def cutB (s : List UInt8) : List UInt8 := match cutAt 32 s with | none => [] | some q => q.2
theorem cut_len (s : List UInt8) : (cutN s).length ≤ s.length ∧ (cutB s).length ≤ s.length := by
  unfold cutN cutB
  cases h : cutAt 32 s with
  | none => exact ⟨Nat.le_refl _, Nat.zero_le _⟩
  | some q =>
    obtain ⟨a, b⟩ := q
    have := congrArg List.length (StP.cut_some h).1
    rw [List.length_append, List.length_cons] at this
    exact ⟨by show a.length ≤ _; omega, by show b.length ≤ _; omega⟩
theorem readS_nil : readS [] = none := by rfl
theorem mem_partsF (c x : UInt8) (hx : x ≠ c) : ∀ (k : Nat) (l : List UInt8), x ∈ l → ∃ q ∈ partsF c k l, x ∈ q
  | 0, l, h => ⟨l, by simp [partsF], h⟩
  | k + 1, l, h => by
    rw [partsF]
    cases hc : cutAt c l with
    | none => exact ⟨l, by simp, h⟩
    | some p =>
      obtain ⟨a, b⟩ := p
      have hl := (StP.cut_some hc).1
      rw [hl] at h
      rcases List.mem_append.1 h with h | h
      · exact ⟨a, by simp, h⟩
      · rcases List.mem_cons.1 h with h | h
        · exact absurd h hx
        · obtain ⟨q, hq, hxq⟩ := mem_partsF c x hx k b h
          exact ⟨q, by simp only; exact List.mem_cons_of_mem _ hq, hxq⟩
theorem allS_no {ps : List (List UInt8)} {l : List Step} (h : allS ps = some l) {q : List UInt8} (hq : q ∈ ps) (c : UInt8) (hc : c.toNat < 45) : c ∉ q := by
  have h1 := (allS_some h).1
  rw [← h1] at hq
  obtain ⟨x, _, rfl⟩ := List.mem_map.1 hq
  exact textS_no c hc
theorem fin_long {n : List UInt8} {ps : List (List UInt8)} (h : 6 < ps.length) : finD n (allS ps) = none := by
  cases ha : allS ps with
  | none => rfl
  | some l =>
    have hl := allS_len ha
    have : fitD ⟨⟨n.toArray⟩, l⟩ = false := by
      unfold fitD
      rw [fitL_long (by show 6 < l.length; omega), Bool.and_false]
    show ite _ _ _ = _
    rw [this]; rfl
theorem prog_read (s : List UInt8) (m : Nat) (hm : m = min 7 ((cutB s).length + 1) - 1) : finD (cutN s) (goL [] (partsF 44 m (cutB s))) = readD s := by
  rw [goL_all, show (fun x : List Step => [] ++ x) = id from rfl, Option.map_id, id]
  have hor : partsF 44 m (cutB s) = parts 44 (cutB s) ∨ ((partsF 44 m (cutB s)).length = 7 ∧ 7 ≤ (parts 44 (cutB s)).length) := by
    by_cases h : (cutB s).length < 6
    · left
      rw [hm, show min 7 ((cutB s).length + 1) - 1 = (cutB s).length by omega]
      rfl
    · rw [hm, show min 7 ((cutB s).length + 1) - 1 = 6 by omega]
      exact StP.partsF_or 44 6 (cutB s)
  cases hc : cutAt 32 s with
  | none =>
    have hb : cutB s = [] := by unfold cutB; rw [hc]
    unfold readD
    rw [StP.parts_one hc, hb]
    rw [hb] at hm
    rw [hm, show min 7 (([] : List UInt8).length + 1) - 1 = 0 from rfl, partsF, allS, readS_nil]
    rfl
  | some q =>
    obtain ⟨n, p⟩ := q
    have hb : cutB s = p := by unfold cutB; rw [hc]
    have hn : cutN s = n := by unfold cutN; rw [hc]
    rw [hb] at hor ⊢
    rw [hn]
    cases hc2 : cutAt 32 p with
    | none =>
      have hrd : readD s = finD n (allS (parts 44 p)) := by
        unfold readD finD
        rw [StP.parts_more hc, StP.parts_one hc2]
        all_goals (cases ha : allS (parts 44 p) <;> simp only [ha])
      rw [hrd]
      rcases hor with h | ⟨h1, h2⟩
      · rw [h]
      · rw [fin_long (by omega), fin_long (by omega)]
    | some q2 =>
      obtain ⟨a, b⟩ := q2
      have hrd : readD s = none := by
        unfold readD
        rw [StP.parts_more hc, StP.parts_more hc2]
        cases hp : parts 32 b with
        | nil => exact absurd hp (StP.parts_ne 32 b)
        | cons y r => rfl
      rw [hrd]
      cases ha : allS (partsF 44 m p) with
      | none => rfl
      | some l =>
        have h32 : (32 : UInt8) ∈ p := by rw [(StP.cut_some hc2).1]; simp
        obtain ⟨q, hq, hxq⟩ := mem_partsF 44 32 (by decide) m p h32
        exact absurd hxq (allS_no ha hq 32 (by decide))
theorem goL_no {acc : List Step} {ps : List (List UInt8)} {k : Nat} {p : List UInt8} (h : ps[k]? = some p) (e : readS p = none) : goL acc (ps.drop k) = none := by
  obtain ⟨hk, ex⟩ := List.getElem?_eq_some_iff.1 h
  rw [List.drop_eq_getElem_cons hk, ex, goL, e]
theorem goL_go {acc : List Step} {ps : List (List UInt8)} {k : Nat} {p : List UInt8} {x : Step} (h : ps[k]? = some p) (e : readS p = some x) : goL acc (ps.drop k) = goL (acc ++ [x]) (ps.drop (k + 1)) := by
  obtain ⟨hk, ex⟩ := List.getElem?_eq_some_iff.1 h
  rw [List.drop_eq_getElem_cons hk, ex, goL, e]
theorem goL_end {acc : List Step} {ps : List (List UInt8)} {k : Nat} (h : ps.length ≤ k) : goL acc (ps.drop k) = some acc := by rw [List.drop_eq_nil_of_le h]; rfl
theorem fin_yes {n : List UInt8} {l : List Step} (h : fitD ⟨⟨n.toArray⟩, l⟩ = true) : finD n (some l) = some ⟨⟨n.toArray⟩, l⟩ := by show ite _ _ _ = _; rw [if_pos h]
theorem fin_no {n : List UInt8} {l : List Step} (h : fitD ⟨⟨n.toArray⟩, l⟩ = false) : finD n (some l) = none := by show ite _ _ _ = _; rw [h]; rfl
def gotD (o : Option Df) : Df := o.getD df0
def errD (o : Option Df) : Int := if o.isSome then 0 else 7
end DefP
end Go.Proofs.YtdpgfnnhbfkacaaGreatDoor
