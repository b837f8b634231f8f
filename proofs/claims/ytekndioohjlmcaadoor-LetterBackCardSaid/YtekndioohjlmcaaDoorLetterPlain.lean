/-
  Plain facts of letter: fit letters, what is found, dropped, put, a letter's text; lists, numbers and octets alone, nothing of the program.
-/
import Derived.Test.YtekndioohjlmcaaDoorChecked
import Derived.Test.YtekndioohjlmcaaDoorNumBackP
import Derived.Lib.Join
set_option linter.unusedVariables false
namespace Go.Proofs.YtekndioohjlmcaaDoor
namespace LeP

/-- A dead letter. -/
structure Lt where
  saga : Int
  step : Int
  back : Bool
  why : Int
  at_ : Int
def lt0 : Lt := ⟨0, 0, false, 0, 0⟩
def amtL (n : Int) : Bool := decide (0 ≤ n) && decide (n ≤ 1099511627776)
def oneL (x : Lt) : Bool := decide (1 ≤ x.saga) && (decide (x.saga ≤ 1099511627776) && (decide (0 ≤ x.step) && (decide (x.step < 6) && ((decide (x.why = 7) || decide (x.why = 8)) && amtL x.at_))))
structure OneL (x : Lt) : Prop where
  saga0 : 1 ≤ x.saga
  saga1 : x.saga ≤ 1099511627776
  step0 : 0 ≤ x.step
  step1 : x.step < 6
  why : x.why = 7 ∨ x.why = 8
  at0 : 0 ≤ x.at_
  at1 : x.at_ ≤ 1099511627776
theorem oneL_iff {x : Lt} : oneL x = true ↔ OneL x := by
  unfold oneL amtL
  simp only [Bool.and_eq_true, Bool.or_eq_true, decide_eq_true_eq]
  exact ⟨fun ⟨a, b, c, d, e, f, g⟩ => ⟨a, b, c, d, e, f, g⟩, fun h => ⟨h.saga0, h.saga1, h.step0, h.step1, h.why, h.at0, h.at1⟩⟩
abbrev Up (l : List Lt) : Prop := l.Pairwise fun a b => a.saga < b.saga
structure FitL (l : List Lt) : Prop where
  len : l.length ≤ 16
  one : ∀ t ∈ l, oneL t = true
  up : Up l
def lastOk (p : List Lt) (t : Lt) : Bool := match p.getLast? with
  | none => true
  | some x => decide (x.saga < t.saga)
def okL (p : List Lt) (t : Lt) : Bool := oneL t && lastOk p t
def fitUp : List Lt → List Lt → Bool
  | p, [] => true
  | p, t :: r => okL p t && fitUp (p ++ [t]) r
def fitB (l : List Lt) : Bool := decide (l.length ≤ 16) && fitUp [] l
theorem last_all {p : List Lt} {t : Lt} (h : Up p) (hl : lastOk p t = true) : ∀ x ∈ p, x.saga < t.saga := by
  intro x hx
  rcases List.eq_nil_or_concat p with rfl | ⟨q, y, hq⟩
  · cases hx
  · rw [List.concat_eq_append] at hq
    subst hq
    unfold lastOk at hl
    rw [List.getLast?_concat] at hl
    have hy := of_decide_eq_true hl
    rcases List.mem_append.1 hx with hx | hx
    · exact Int.lt_trans ((List.pairwise_append.1 h).2.2 x hx y (List.mem_singleton.2 rfl)) hy
    · rw [List.mem_singleton.1 hx]; exact hy
theorem last_of {p : List Lt} {t : Lt} (h : ∀ x ∈ p, x.saga < t.saga) : lastOk p t = true := by
  unfold lastOk
  cases e : p.getLast? with
  | none => rfl
  | some x => exact decide_eq_true (h x (List.mem_of_getLast? e))
theorem fitUp_iff : ∀ {l p : List Lt}, Up p → (fitUp p l = true ↔ (Up (p ++ l) ∧ ∀ t ∈ l, oneL t = true))
  | [], p, h1 => by
    rw [fitUp, List.append_nil]
    exact ⟨fun _ => ⟨h1, fun t ht => by cases ht⟩, fun _ => rfl⟩
  | t :: r, p, h1 => by
    rw [fitUp, Bool.and_eq_true]
    have e : p ++ t :: r = (p ++ [t]) ++ r := by simp
    unfold okL
    rw [Bool.and_eq_true]
    constructor
    · rintro ⟨⟨a1, a2⟩, a4⟩
      have ha := last_all h1 a2
      have q1 : Up (p ++ [t]) := List.pairwise_append.2 ⟨h1, List.pairwise_singleton _ _, fun x hx y hy => by rw [List.mem_singleton.1 hy]; exact ha x hx⟩
      obtain ⟨b1, b3⟩ := (fitUp_iff q1).1 a4
      rw [e]
      exact ⟨b1, fun y hy => by
        rcases List.mem_cons.1 hy with rfl | hy
        · exact a1
        · exact b3 y hy⟩
    · rw [e]
      rintro ⟨b1, b3⟩
      have q1 := (List.pairwise_append.1 b1).1
      exact ⟨⟨b3 t List.mem_cons_self, last_of fun x hx => (List.pairwise_append.1 q1).2.2 x hx t (List.mem_singleton.2 rfl)⟩, (fitUp_iff q1).2 ⟨b1, fun y hy => b3 y (List.mem_cons_of_mem _ hy)⟩⟩
theorem fitB_iff {l : List Lt} : fitB l = true ↔ FitL l := by
  unfold fitB
  rw [Bool.and_eq_true, decide_eq_true_eq, fitUp_iff List.Pairwise.nil, List.nil_append]
  exact ⟨fun ⟨a, b, c⟩ => ⟨a, c, b⟩, fun h => ⟨h.len, h.up, h.one⟩⟩
theorem fitUp_step {l : List Lt} {i : Nat} (hi : i < l.length) : fitUp (l.take i) (l.drop i) = (okL (l.take i) l[i] && fitUp (l.take (i + 1)) (l.drop (i + 1))) := by
  rw [List.drop_eq_getElem_cons hi, fitUp, List.take_succ_eq_append_getElem hi]
theorem lastOk_at {l : List Lt} {i : Nat} (hi : i < l.length) (h0 : 0 < i) : lastOk (l.take i) l[i] = decide ((l[i - 1]'(by omega)).saga < l[i].saga) := by
  unfold lastOk
  have : (l.take i).getLast? = some (l[i - 1]'(by omega)) := by
    rw [List.getLast?_eq_getElem?, List.length_take, Nat.min_eq_left (Nat.le_of_lt hi), List.getElem?_take_of_lt (by omega), List.getElem?_eq_getElem (by omega)]
  rw [this]
/-! ### what is found -/
def findL (g : Int) : List Lt → Option Lt
  | [] => none
  | t :: r => if t.saga = g then some t else findL g r
theorem findL_mem : ∀ {g : Int} {l : List Lt} {t : Lt}, findL g l = some t → t ∈ l ∧ t.saga = g
  | g, y :: r, t, h => by
    rw [findL] at h
    split at h
    · rename_i e; cases h; exact ⟨List.mem_cons_self, e⟩
    · have := findL_mem h; exact ⟨List.mem_cons_of_mem _ this.1, this.2⟩
theorem findL_none : ∀ {g : Int} {l : List Lt}, findL g l = none ↔ ∀ y ∈ l, ¬ y.saga = g
  | g, [] => by rw [findL]; exact ⟨fun _ y hy => (by cases hy), fun _ => rfl⟩
  | g, y :: r => by
    rw [findL]
    by_cases h : y.saga = g
    · rw [if_pos h]; exact ⟨fun e => (by cases e), fun e => absurd h (e y List.mem_cons_self)⟩
    · rw [if_neg h, findL_none]
      exact ⟨fun e z hz => by
        rcases List.mem_cons.1 hz with rfl | hz
        · exact h
        · exact e z hz, fun e z hz => e z (List.mem_cons_of_mem _ hz)⟩
/-! ### where a letter stands, or would stand -/
def posL (g : Int) : List Lt → Nat
  | [] => 0
  | y :: r => if y.saga < g then posL g r + 1 else 0
theorem posL_le (g : Int) : ∀ l : List Lt, posL g l ≤ l.length
  | [] => Nat.le_refl _
  | y :: r => by rw [posL]; split <;> simp [posL_le g r]
theorem getD_mem {l : List Lt} {k : Nat} (hk : k < l.length) : l.getD k lt0 ∈ l := by
  rw [show l.getD k lt0 = l[k] by simp [List.getD, hk]]; exact List.getElem_mem hk
theorem posL_iff {g : Int} : ∀ {l : List Lt}, Up l → ∀ {i : Nat}, i < l.length → (i < posL g l ↔ (l.getD i lt0).saga < g)
  | y :: r, hp, i, hi => by
    have hp2 := List.pairwise_cons.1 hp
    rw [posL]
    by_cases h : y.saga < g
    · rw [if_pos h]
      cases i with
      | zero => simp only [List.getD_cons_zero]; exact ⟨fun _ => h, fun _ => Nat.succ_pos _⟩
      | succ i =>
        rw [List.getD_cons_succ, ← posL_iff hp2.2 (by simpa using hi)]
        omega
    · rw [if_neg h]
      refine ⟨fun k => absurd k (Nat.not_lt_zero _), fun k => ?_⟩
      cases i with
      | zero => exact absurd (by simpa using k) h
      | succ i =>
        have hi2 : i < r.length := by simpa using hi
        rw [List.getD_cons_succ] at k
        exact absurd (Int.lt_trans (hp2.1 _ (getD_mem hi2)) k) h
theorem find_pos : ∀ {l : List Lt} {g : Int}, Up l → findL g l = if posL g l < l.length ∧ (l.getD (posL g l) lt0).saga = g then some (l.getD (posL g l) lt0) else none
  | [], g, _ => by simp [findL]
  | y :: r, g, hp => by
    have hp2 := List.pairwise_cons.1 hp
    rw [findL, posL]
    by_cases h : y.saga < g
    · rw [if_neg (by omega), if_pos h, find_pos hp2.2, List.getD_cons_succ, List.length_cons]
      by_cases k : posL g r < r.length ∧ (r.getD (posL g r) lt0).saga = g
      · rw [if_pos k, if_pos ⟨by omega, k.2⟩]
      · rw [if_neg k, if_neg fun e => k ⟨by omega, e.2⟩]
    · rw [if_neg h, List.getD_cons_zero]
      by_cases k : y.saga = g
      · rw [if_pos k, if_pos ⟨by simp, k⟩]
      · rw [if_neg k, if_neg fun e => k e.2, findL_none]
        intro z hz e
        have := hp2.1 z hz
        omega
theorem place_some {l : List Lt} {g : Int} (hf : Up l) (h1 : posL g l < l.length) (h2 : (l.getD (posL g l) lt0).saga = g) : findL g l = some (l.getD (posL g l) lt0) := by
  rw [find_pos hf, if_pos ⟨h1, h2⟩]
theorem place_none {l : List Lt} {g : Int} (hf : Up l) (h : ¬ (posL g l < l.length ∧ (l.getD (posL g l) lt0).saga = g)) : findL g l = none := by
  rw [find_pos hf, if_neg h]
theorem place_found {l : List Lt} {g : Int} (hf : Up l) (h : (findL g l).isSome = true) : posL g l < l.length ∧ (l.getD (posL g l) lt0).saga = g := by
  rw [find_pos hf] at h
  split at h
  · rename_i k; exact k
  · cases h
/-- With one more, at its place. -/
def insL (x : Lt) (l : List Lt) : List Lt := l.take (posL x.saga l) ++ x :: l.drop (posL x.saga l)
/-- Without a saga's. -/
def delL (g : Int) (l : List Lt) : List Lt := l.filter fun x => !(x.saga == g)
theorem take_low {l : List Lt} {g : Int} (hf : Up l) : ∀ y ∈ l.take (posL g l), y.saga < g := by
  intro y hy
  obtain ⟨i, hi, rfl⟩ := List.mem_take_iff_getElem.1 hy
  have hi2 : i < l.length := by omega
  have := (posL_iff (g := g) hf hi2).1 (by omega)
  rwa [show l.getD i lt0 = l[i] by simp [List.getD, hi2]] at this
theorem drop_high {l : List Lt} {g : Int} (hf : Up l) : ∀ y ∈ l.drop (posL g l), g ≤ y.saga := by
  intro y hy
  obtain ⟨i, hi, rfl⟩ := List.mem_drop_iff_getElem.1 hy
  obtain ⟨j, hj⟩ : ∃ j, posL g l + i = j := ⟨_, rfl⟩
  have hjl : j < l.length := by omega
  have h2 := (posL_iff (g := g) hf hjl).2
  rw [show l.getD j lt0 = l[j] by simp [List.getD, hjl]] at h2
  have e : l[posL g l + i]'(by omega) = l[j] := by congr 1
  rw [e]
  rcases Int.lt_or_le (l[j]).saga g with h | h
  · have := h2 h; omega
  · exact h
theorem ins_len (x : Lt) (l : List Lt) : (insL x l).length = l.length + 1 := by
  unfold insL
  have := posL_le x.saga l
  rw [List.length_append, List.length_cons, List.length_take, List.length_drop]; omega
theorem ins_mem {x y : Lt} {l : List Lt} : y ∈ insL x l ↔ y = x ∨ y ∈ l := by
  unfold insL
  rw [List.mem_append, List.mem_cons]
  conv => rhs; rw [← List.take_append_drop (posL x.saga l) l, List.mem_append]
  constructor
  · rintro (h | h | h)
    · exact .inr (.inl h)
    · exact .inl h
    · exact .inr (.inr h)
  · rintro (h | h | h)
    · exact .inr (.inl h)
    · exact .inl h
    · exact .inr (.inr h)
theorem ins_up {x : Lt} {l : List Lt} (hf : Up l) (hn : findL x.saga l = none) : Up (insL x l) := by
  have h1 := take_low (g := x.saga) hf
  have h2 := drop_high (g := x.saga) hf
  have hn2 := findL_none.1 hn
  unfold insL
  have hp := hf
  rw [← List.take_append_drop (posL x.saga l) l] at hp
  have hp2 := List.pairwise_append.1 hp
  refine List.pairwise_append.2 ⟨hp2.1, List.pairwise_cons.2 ⟨fun y hy => ?_, hp2.2.1⟩, fun y hy z hz => ?_⟩
  · have := h2 y hy
    have := hn2 y (List.mem_of_mem_drop hy)
    omega
  · rcases List.mem_cons.1 hz with rfl | hz
    · exact h1 y hy
    · exact hp2.2.2 y hy z hz
theorem ins_fit {x : Lt} {l : List Lt} (h : FitL l) (hx : oneL x = true) (hn : findL x.saga l = none) (hl : ¬ l.length = 16) : FitL (insL x l) :=
  ⟨by rw [ins_len]; have := h.len; omega, fun t ht => by
    rcases ins_mem.1 ht with rfl | ht
    · exact hx
    · exact h.one t ht, ins_up h.up hn⟩
theorem findL_at {x : Lt} : ∀ {p q : List Lt}, (∀ y ∈ p, y.saga < x.saga) → findL x.saga (p ++ x :: q) = some x
  | [], q, _ => by rw [List.nil_append, findL, if_pos rfl]
  | y :: r, q, h => by
    have := h y List.mem_cons_self
    rw [List.cons_append, findL, if_neg (by omega)]
    exact findL_at fun z hz => h z (List.mem_cons_of_mem _ hz)
theorem ins_find {x : Lt} {l : List Lt} (hf : Up l) : findL x.saga (insL x l) = some x := findL_at (take_low hf)
theorem del_none {g : Int} {l : List Lt} (h : ∀ y ∈ l, ¬ y.saga = g) : delL g l = l := by
  unfold delL
  rw [List.filter_eq_self]
  intro y hy
  have := h y hy
  simpa using this
theorem del_append (g : Int) (a b : List Lt) : delL g (a ++ b) = delL g a ++ delL g b := List.filter_append _ _
theorem del_same (x : Lt) (r : List Lt) : delL x.saga (x :: r) = delL x.saga r := by unfold delL; rw [List.filter_cons, if_neg (by simp)]
theorem ins_del {x : Lt} {l : List Lt} (hn : findL x.saga l = none) : delL x.saga (insL x l) = l := by
  have hn2 := findL_none.1 hn
  unfold insL
  rw [del_append, del_same, ← del_append, List.take_append_drop, del_none hn2]
/-- What stands beside a place of rising letters is all but a saga's. -/
theorem del_parts {g : Int} {l : List Lt} (hf : Up l) (h : (findL g l).isSome = true) : delL g l = l.take (posL g l) ++ l.drop (posL g l + 1) := by
  obtain ⟨h1, h2⟩ := place_found hf h
  have hx : l.getD (posL g l) lt0 = l[posL g l] := by simp [List.getD, h1]
  rw [hx] at h2
  have hd := List.drop_eq_getElem_cons h1
  have hp := hf
  rw [← List.take_append_drop (posL g l) l, hd] at hp
  have hp2 := List.pairwise_append.1 hp
  have hp3 := List.pairwise_cons.1 hp2.2.1
  conv => lhs; rw [← List.take_append_drop (posL g l) l, hd]
  rw [del_append, del_none fun y hy => by have := take_low (g := g) hf y hy; omega]
  have h3 : delL g (l[posL g l] :: l.drop (posL g l + 1)) = l.drop (posL g l + 1) := by
    have h4 := del_same l[posL g l] (l.drop (posL g l + 1))
    rw [h2] at h4
    rw [h4, del_none fun y hy => by have := hp3.1 y hy; omega]
  rw [h3]
theorem del_len (g : Int) (l : List Lt) : (delL g l).length ≤ l.length := List.length_filter_le _ _
/-- With one more, or why not. -/
def putL (l : List Lt) (x : Lt) : List Lt × Int :=
  if fitB l = true then
    if oneL x = true then
      if (findL x.saga l).isSome = true then ([], 3)
      else if l.length = 16 then ([], 4) else (insL x l, 0)
    else ([], 1)
  else ([], 12)
/-- Without one, or why not. -/
def dropL (l : List Lt) (g : Int) : List Lt × Int :=
  if fitB l = true then if (findL g l).isSome = true then (delL g l, 0) else ([], 2) else ([], 12)
/-- One letter, or another. -/
def eqL (a b : Lt) : Bool := decide (a.saga = b.saga) && (decide (a.step = b.step) && (decide (a.back = b.back) && (decide (a.why = b.why) && decide (a.at_ = b.at_))))
theorem eqL_iff {a b : Lt} : eqL a b = true ↔ a = b := by
  obtain ⟨a0, a1, a2, a3, a4⟩ := a
  obtain ⟨b0, b1, b2, b3, b4⟩ := b
  simp [eqL]
theorem eqL_self (a : Lt) : eqL a a = true := eqL_iff.2 rfl
def eqLs : List Lt → List Lt → Bool
  | [], [] => true
  | a :: r, b :: q => eqL a b && eqLs r q
  | _, _ => false
theorem eqLs_iff : ∀ {a b : List Lt}, eqLs a b = true ↔ a = b
  | [], [] => by simp [eqLs]
  | [], b :: q => by simp [eqLs]
  | a :: r, [] => by simp [eqLs]
  | a :: r, b :: q => by rw [eqLs, Bool.and_eq_true, eqL_iff, eqLs_iff, List.cons.injEq]
/-! ### texts -/
def wSaga : List UInt8 := [115, 97, 103, 97]
def wStep : List UInt8 := [115, 116, 101, 112]
def wBack : List UInt8 := [98, 97, 99, 107]
def wTries : List UInt8 := [116, 114, 105, 101, 115]
def wParked : List UInt8 := [112, 97, 114, 107, 101, 100]
def wAt : List UInt8 := [97, 116]
def whyL (n : Int) : List UInt8 := if n = 7 then wTries else if n = 8 then wParked else []
def wordsL (x : Lt) : List (List UInt8) := [wSaga, Lib.itoa x.saga, wStep, Lib.itoa x.step] ++ (if x.back = true then [wBack] else []) ++ [whyL x.why, wAt, Lib.itoa x.at_]
def textL (x : Lt) : List UInt8 := if oneL x = true then Lib.join (wordsL x) [32] else []
def noSp (l : List UInt8) : Prop := ∀ c ∈ l, c ≠ 32
theorem cut_eq : ∀ {a b r s : List UInt8}, noSp a → noSp b → a ++ 32 :: r = b ++ 32 :: s → a = b ∧ r = s
  | [], [], r, s, _, _, h => ⟨rfl, by simpa using h⟩
  | [], c :: b, r, s, _, hb, h => by
    simp at h
    exact absurd h.1.symm (hb c List.mem_cons_self)
  | c :: a, [], r, s, ha, _, h => by
    simp at h
    exact absurd h.1 (ha c List.mem_cons_self)
  | c :: a, d :: b, r, s, ha, hb, h => by
    simp only [List.cons_append, List.cons.injEq] at h
    have := cut_eq (fun x hx => ha x (List.mem_cons_of_mem _ hx)) (fun x hx => hb x (List.mem_cons_of_mem _ hx)) h.2
    exact ⟨by rw [h.1, this.1], this.2⟩
theorem itoa_nat {n : Int} (h : 0 ≤ n) : Lib.itoa n = Lib.decDigits n.toNat := by
  unfold Lib.itoa; rw [if_neg (by omega)]
theorem itoa_noSp {n : Int} (h : 0 ≤ n) : noSp (Lib.itoa n) := by
  rw [itoa_nat h]
  intro c hc e
  subst e
  obtain ⟨i, hi, he⟩ := List.mem_iff_getElem.1 hc
  have := NumP.allDig_at (NumP.dec_dig (n.toNat + 1) n.toNat (by omega)) i 32 (by rw [List.getElem?_eq_getElem hi, he])
  exact absurd this.1 (by decide)
theorem itoa_inj {n m : Int} (h0 : 0 ≤ n) (h1 : n ≤ 1099511627776) (k0 : 0 ≤ m) (k1 : m ≤ 1099511627776) (h : Lib.itoa n = Lib.itoa m) : n = m := by
  rw [itoa_nat h0, itoa_nat k0] at h
  have a := NumP.dec_val (n.toNat + 1) n.toNat (by omega) (by omega)
  have b := NumP.dec_val (m.toNat + 1) m.toNat (by omega) (by omega)
  rw [h, b] at a
  have := Option.some.inj a
  omega
theorem join_two (a b : List UInt8) (r : List (List UInt8)) : Lib.join (a :: b :: r) [32] = a ++ 32 :: Lib.join (b :: r) [32] := by
  rw [Lib.join_cons, Lib.join_cons]
  simp [Lib.joinTail]
/-- A letter's text behind its saga and its step. -/
def tailL (x : Lt) : List UInt8 := if x.back = true then wBack ++ 32 :: (whyL x.why ++ 32 :: (wAt ++ 32 :: Lib.itoa x.at_)) else whyL x.why ++ 32 :: (wAt ++ 32 :: Lib.itoa x.at_)
theorem join_words (x : Lt) : Lib.join (wordsL x) [32] = wSaga ++ 32 :: (Lib.itoa x.saga ++ 32 :: (wStep ++ 32 :: (Lib.itoa x.step ++ 32 :: tailL x))) := by
  unfold wordsL tailL
  cases x.back
  · simp only [Bool.false_eq_true, if_false, List.append_nil, List.cons_append, List.nil_append]
    simp only [join_two, Lib.join_one]
  · simp only [if_true, List.cons_append, List.nil_append]
    simp only [join_two, Lib.join_one]
theorem why_noSp (n : Int) : noSp (whyL n) := by
  unfold whyL noSp
  split
  · decide
  · split
    · decide
    · intro c hc; cases hc
theorem why_inj {n m : Int} (h : n = 7 ∨ n = 8) (k : m = 7 ∨ m = 8) (e : whyL n = whyL m) : n = m := by
  rcases h with rfl | rfl <;> rcases k with rfl | rfl
  · rfl
  · exact absurd e (by decide)
  · exact absurd e (by decide)
  · rfl
theorem why_not_back (n : Int) : whyL n ≠ wBack := by
  unfold whyL
  split
  · decide
  · split <;> decide
theorem tail_inj {x y : Lt} (hx : OneL x) (hy : OneL y) (e : tailL x = tailL y) : x.back = y.back ∧ x.why = y.why ∧ x.at_ = y.at_ := by
  have rest : whyL x.why ++ 32 :: (wAt ++ 32 :: Lib.itoa x.at_) = whyL y.why ++ 32 :: (wAt ++ 32 :: Lib.itoa y.at_) → x.why = y.why ∧ x.at_ = y.at_ := by
    intro h
    obtain ⟨h1, h2⟩ := cut_eq (why_noSp _) (why_noSp _) h
    obtain ⟨_, h3⟩ := cut_eq (a := wAt) (b := wAt) (by unfold noSp; decide) (by unfold noSp; decide) h2
    exact ⟨why_inj hx.why hy.why h1, itoa_inj hx.at0 hx.at1 hy.at0 hy.at1 h3⟩
  have nb : noSp wBack := by unfold noSp; decide
  unfold tailL at e
  cases hb : x.back <;> cases hc : y.back <;> rw [hb, hc] at e <;> simp only [if_true, Bool.false_eq_true, if_false] at e
  · exact ⟨rfl, rest e⟩
  · exact absurd (cut_eq (why_noSp _) nb e).1 (why_not_back _)
  · exact absurd (cut_eq nb (why_noSp _) e).1.symm (why_not_back _)
  · exact ⟨rfl, rest (cut_eq nb nb e).2⟩
theorem text_inj {x y : Lt} (hx : oneL x = true) (hy : oneL y = true) (e : textL x = textL y) : x = y := by
  unfold textL at e
  rw [if_pos hx, if_pos hy, join_words, join_words] at e
  have ox := oneL_iff.1 hx
  have oy := oneL_iff.1 hy
  have n1 : noSp wSaga := by unfold noSp; decide
  have n2 : noSp wStep := by unfold noSp; decide
  obtain ⟨_, e1⟩ := cut_eq n1 n1 e
  obtain ⟨h1, e2⟩ := cut_eq (itoa_noSp (by have := ox.saga0; omega)) (itoa_noSp (by have := oy.saga0; omega)) e1
  obtain ⟨_, e3⟩ := cut_eq n2 n2 e2
  obtain ⟨h2, e4⟩ := cut_eq (itoa_noSp ox.step0) (itoa_noSp oy.step0) e3
  obtain ⟨h3, h4, h5⟩ := tail_inj ox oy e4
  have g1 := itoa_inj (by have := ox.saga0; omega) ox.saga1 (by have := oy.saga0; omega) oy.saga1 h1
  have g2 := itoa_inj ox.step0 (by have := ox.step1; omega) oy.step0 (by have := oy.step1; omega) h2
  obtain ⟨a0, a1, a2, a3, a4⟩ := x
  obtain ⟨b0, b1, b2, b3, b4⟩ := y
  simp only at g1 g2 h3 h4 h5
  subst g1 g2 h3 h4 h5
  rfl
theorem text_some {x : Lt} (hx : oneL x = true) : textL x ≠ [] := by
  unfold textL
  rw [if_pos hx, join_words]
  simp [wSaga]
theorem text_same {x y : Lt} (hx : oneL x = true) (hy : oneL y = true) : decide (textL x = textL y) = eqL x y := by
  by_cases h : x = y
  · subst h; rw [decide_eq_true rfl, eqL_self]
  · rw [decide_eq_false fun e => h (text_inj hx hy e)]
    cases e : eqL x y with
    | false => rfl
    | true => exact absurd (eqL_iff.1 e) h
end LeP
end Go.Proofs.YtekndioohjlmcaaDoor
