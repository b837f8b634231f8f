/-
  Plain facts of lines: fit lines, a text's parts, lines read and written as text; lists, bytes and numbers alone, nothing of the program.
-/
import Derived.Test.YtleopanfggmenaaNumBackP
import Derived.Test.YtleopanfggmenaaNameTest
import Derived.Lib.SplitLaws
import Derived.Lib.ItoaLen
import Derived.Lib.Join
set_option linter.unusedVariables false
set_option maxRecDepth 4000
namespace Go.Proofs.Ytleopanfggmenaa
open NumP NameP
namespace LinesP

/-- A line: its Sku and its number. -/
abbrev Ln := ByteArray × Int
abbrev ln0 : Ln := (ByteArray.empty, 0)
def qty (n : Int) : Bool := decide (1 ≤ n) && decide (n ≤ 1048576)
def nm (s : ByteArray) : Bool := fitV (vals s.data.toList)
def lss (a b : ByteArray) : Bool := Op.bytesLess a.data.toList b.data.toList
/-- Fit lines behind a Sku that stands ahead of them. -/
def okUp : Option ByteArray → List Ln → Bool
  | _, [] => true
  | none, x :: r => nm x.1 && qty x.2 && okUp (some x.1) r
  | some q, x :: r => nm x.1 && qty x.2 && lss q x.1 && okUp (some x.1) r
def fitL (l : List Ln) : Bool := decide (l.length ≤ 4) && okUp none l
theorem qty_iff {n : Int} : qty n = true ↔ 1 ≤ n ∧ n ≤ 1048576 := by unfold qty; simp
theorem qty_no {n : Int} (h : n < 1 ∨ 1048576 < n) : qty n = false := by
  cases hq : qty n with
  | false => rfl
  | true => have := qty_iff.1 hq; omega
def prev (l : List Ln) (k : Nat) : Option ByteArray := if k = 0 then none else some (l.getD (k - 1) ln0).1
theorem fitL_long {l : List Ln} (h : 4 < l.length) : fitL l = false := by unfold fitL; simp; omega
theorem fitL_short {l : List Ln} (h : l.length ≤ 4) : fitL l = okUp none l := by unfold fitL; simp [h]
theorem okUp_done {l : List Ln} {k : Nat} (h : ¬ k < l.length) : okUp (prev l k) (l.drop k) = true := by
  rw [List.drop_eq_nil_of_le (by omega)]; cases prev l k <;> rfl
theorem drop_get {l : List Ln} {k : Nat} {x : Ln} (hk : k < l.length) (hx : l.getD k ln0 = x) : l.drop k = x :: l.drop (k + 1) := by
  rw [List.drop_eq_getElem_cons hk, ← hx]; simp [List.getD, hk]
theorem prev_succ {l : List Ln} {k : Nat} {x : Ln} (hx : l.getD k ln0 = x) : prev l (k + 1) = some x.1 := by
  unfold prev; rw [if_neg (by omega), Nat.add_sub_cancel, hx]
theorem okUp_no {l : List Ln} {k : Nat} {x : Ln} (hk : k < l.length) (hx : l.getD k ln0 = x) (h : nm x.1 = false ∨ qty x.2 = false) : okUp (prev l k) (l.drop k) = false := by
  rw [drop_get hk hx]
  cases prev l k with
  | none => unfold okUp; rcases h with h | h <;> simp [h]
  | some q => unfold okUp; rcases h with h | h <;> simp [h]
theorem okUp_less {l : List Ln} {k : Nat} {x y : Ln} (h0 : 0 < k) (hk : k < l.length) (hx : l.getD k ln0 = x) (hy : l.getD (k - 1) ln0 = y) (h : lss y.1 x.1 = false) : okUp (prev l k) (l.drop k) = false := by
  rw [drop_get hk hx]
  unfold prev
  rw [if_neg (by omega), hy]
  unfold okUp
  simp [h]
theorem okUp_go0 {l : List Ln} {x : Ln} (hk : 0 < l.length) (hx : l.getD 0 ln0 = x) (h1 : nm x.1 = true) (h2 : qty x.2 = true) : okUp (prev l 0) (l.drop 0) = okUp (prev l (0 + 1)) (l.drop (0 + 1)) := by
  rw [drop_get hk hx, prev_succ hx]
  unfold prev
  rw [if_pos rfl, okUp, h1, h2]; rfl
theorem okUp_go {l : List Ln} {k : Nat} {x y : Ln} (h0 : 0 < k) (hk : k < l.length) (hx : l.getD k ln0 = x) (hy : l.getD (k - 1) ln0 = y) (h1 : nm x.1 = true) (h2 : qty x.2 = true) (h : lss y.1 x.1 = true) : okUp (prev l k) (l.drop k) = okUp (prev l (k + 1)) (l.drop (k + 1)) := by
  rw [drop_get hk hx, prev_succ hx]
  unfold prev
  rw [if_neg (by omega), hy, okUp, h1, h2, h]; rfl
/-- A fit list's lines, one by one. -/
theorem okUp_mem : ∀ {p : Option ByteArray} {l : List Ln}, okUp p l = true → ∀ x ∈ l, nm x.1 = true ∧ qty x.2 = true
  | _, [], _, x, hx => by cases hx
  | none, y :: r, h, x, hx => by
    simp only [okUp, Bool.and_eq_true] at h
    rcases List.mem_cons.1 hx with rfl | hx
    · exact h.1
    · exact okUp_mem h.2 x hx
  | some q, y :: r, h, x, hx => by
    simp only [okUp, Bool.and_eq_true] at h
    rcases List.mem_cons.1 hx with rfl | hx
    · exact h.1.1
    · exact okUp_mem h.2 x hx
theorem fitL_mem {l : List Ln} (h : fitL l = true) : ∀ x ∈ l, nm x.1 = true ∧ qty x.2 = true := by
  unfold fitL at h; rw [Bool.and_eq_true] at h; exact okUp_mem h.2
theorem fitL_len {l : List Ln} (h : fitL l = true) : l.length ≤ 4 := by
  unfold fitL at h; rw [Bool.and_eq_true] at h; exact of_decide_eq_true h.1

/-! ### the first line with a Sku, the sum -/
def ofL (s : ByteArray) : List Ln → Int
  | [] => 0
  | x :: r => if x.1.toList == s.toList then x.2 else ofL s r
theorem ofL_yes {l : List Ln} {k : Nat} {x : Ln} {s : ByteArray} (hk : k < l.length) (hx : l.getD k ln0 = x) (h : (x.1.toList == s.toList) = true) : ofL s (l.drop k) = x.2 := by
  rw [drop_get hk hx, ofL, if_pos h]
theorem ofL_no {l : List Ln} {k : Nat} {x : Ln} {s : ByteArray} (hk : k < l.length) (hx : l.getD k ln0 = x) (h : (x.1.toList == s.toList) = false) : ofL s (l.drop k) = ofL s (l.drop (k + 1)) := by
  rw [drop_get hk hx, ofL, if_neg (by rw [h]; decide)]
theorem ofL_done {l : List Ln} {k : Nat} {s : ByteArray} (hk : ¬ k < l.length) : ofL s (l.drop k) = 0 := by
  rw [List.drop_eq_nil_of_le (by omega)]; rfl
def addL (l : List Ln) : Int := (l.map (·.2)).sum
def sumV (l : List Ln) : Int := if fitL l then addL l else 0
theorem addL_step {l : List Ln} {k : Nat} {x : Ln} (hk : k < l.length) (hx : l.getD k ln0 = x) : addL (l.take (k + 1)) = addL (l.take k) + x.2 := by
  rw [List.take_succ_eq_append_getElem hk]
  have : l[k] = x := by rw [← hx]; simp [List.getD, hk]
  simp [addL, this]
theorem addL_fit {l : List Ln} (h : fitL l = true) (k : Nat) : 0 ≤ addL (l.take k) ∧ addL (l.take k) ≤ 4194304 := by
  have hl := fitL_len h
  have hm := fitL_mem h
  have key : ∀ m : List Ln, (∀ x ∈ m, qty x.2 = true) → 0 ≤ addL m ∧ addL m ≤ 1048576 * m.length := by
    intro m
    induction m with
    | nil => intro _; simp [addL]
    | cons y r ih =>
      intro hy
      have h1 := ih fun x hx => hy x (List.mem_cons_of_mem _ hx)
      have h2 := qty_iff.1 (hy y (List.mem_cons_self ..))
      simp only [addL, List.map_cons, List.sum_cons, List.length_cons] at h1 ⊢
      omega
  have := key (l.take k) fun x hx => (hm x (List.mem_of_mem_take hx)).2
  have hlt : (l.take k).length ≤ 4 := by rw [List.length_take]; omega
  omega

/-! ### a text's parts -/
def cutAt (c : UInt8) : List UInt8 → Option (List UInt8 × List UInt8)
  | [] => none
  | b :: l => if b = c then some ([], l) else (cutAt c l).map fun p => (b :: p.1, p.2)
theorem cut_cases (c : UInt8) : ∀ l, (cutAt c l = none ∧ c ∉ l ∧ Lib.indexByte l c = -1) ∨ ∃ a b, cutAt c l = some (a, b) ∧ l = a ++ c :: b ∧ c ∉ a ∧ Lib.indexByte l c = a.length
  | [] => .inl ⟨rfl, by simp, rfl⟩
  | x :: l => by
    by_cases hx : x = c
    · subst hx
      exact .inr ⟨[], l, by simp [cutAt], rfl, by simp, by simp [Lib.indexByte]⟩
    · have hb : (x == c) = false := beq_eq_false_iff_ne.2 hx
      rcases cut_cases c l with ⟨h1, h2, h3⟩ | ⟨a, b, h1, h2, h3, h4⟩
      · exact .inl ⟨by simp [cutAt, hx, h1], by simp [h2]; exact fun e => hx e.symm, by simp [Lib.indexByte, hb, h3]⟩
      · refine .inr ⟨x :: a, b, by simp [cutAt, hx, h1], by rw [h2]; rfl, by simp [h3]; exact fun e => hx e.symm, ?_⟩
        rw [Lib.indexByte, hb, h4]
        have : (((a.length : Nat) : Int) == -1) = false := by rw [beq_eq_false_iff_ne]; omega
        simp [this]
theorem cut_none {c : UInt8} {l : List UInt8} (h : c ∉ l) : cutAt c l = none := by
  rcases cut_cases c l with ⟨h1, _⟩ | ⟨a, b, _, h2, _⟩
  · exact h1
  · exact absurd (by rw [h2]; simp) h
theorem cut_mk {c : UInt8} (a b : List UInt8) (h : c ∉ a) : cutAt c (a ++ c :: b) = some (a, b) := by
  induction a with
  | nil => simp [cutAt]
  | cons x a ih =>
    have h1 : x ≠ c := fun e => h (by simp [e])
    have h2 : c ∉ a := fun e => h (by simp [e])
    rw [List.cons_append, cutAt, if_neg h1, ih h2]; rfl
theorem cut_some {c : UInt8} {l a b : List UInt8} (h : cutAt c l = some (a, b)) : l = a ++ c :: b ∧ c ∉ a := by
  rcases cut_cases c l with ⟨h1, _⟩ | ⟨a', b', h1, h2, h3, _⟩
  · rw [h] at h1; cases h1
  · rw [h] at h1; cases h1; exact ⟨h2, h3⟩
theorem cut_not {c : UInt8} {l : List UInt8} (h : cutAt c l = none) : c ∉ l := by
  rcases cut_cases c l with ⟨_, h2, _⟩ | ⟨a, b, h1, _⟩
  · exact h2
  · rw [h] at h1; cases h1
theorem cut_lib (c : UInt8) (l : List UInt8) : Lib.cut l [c] = match cutAt c l with | none => (l, [], false) | some (a, b) => (a, b, true) := by
  unfold Lib.cut
  rw [Lib.index_one]
  rcases cut_cases c l with ⟨h1, _, h3⟩ | ⟨a, b, h1, h2, _, h4⟩
  · rw [h1, h3]; simp
  · rw [h1, h4, if_pos (by omega), Int.toNat_natCast, h2]
    simp
def partsF (c : UInt8) : Nat → List UInt8 → List (List UInt8)
  | 0, l => [l]
  | k + 1, l => match cutAt c l with
    | none => [l]
    | some (a, b) => a :: partsF c k b
theorem partsF_fuel (c : UInt8) : ∀ (n m : Nat) (l : List UInt8), l.length ≤ n → l.length ≤ m → partsF c n l = partsF c m l := by
  intro n
  induction n with
  | zero =>
    intro m l h _
    have : l = [] := List.eq_nil_of_length_eq_zero (by omega)
    subst this
    cases m <;> rfl
  | succ n ih =>
    intro m l h1 h2
    cases m with
    | zero =>
      have : l = [] := List.eq_nil_of_length_eq_zero (by omega)
      subst this; rfl
    | succ m =>
      unfold partsF
      cases hc : cutAt c l with
      | none => rfl
      | some p =>
        obtain ⟨a, b⟩ := p
        have hl := congrArg List.length (cut_some hc).1
        simp only [List.length_append, List.length_cons] at hl
        show a :: _ = a :: _
        rw [ih m b (by omega) (by omega)]
def parts (c : UInt8) (l : List UInt8) : List (List UInt8) := partsF c l.length l
theorem parts_one {c : UInt8} {l : List UInt8} (h : cutAt c l = none) : parts c l = [l] := by
  unfold parts
  cases hl : l.length with
  | zero => rfl
  | succ n => rw [partsF, h]
theorem parts_more {c : UInt8} {l a b : List UInt8} (h : cutAt c l = some (a, b)) : parts c l = a :: parts c b := by
  have hl := congrArg List.length (cut_some h).1
  simp only [List.length_append, List.length_cons] at hl
  unfold parts
  obtain ⟨n, hn⟩ : ∃ n, l.length = n + 1 := ⟨l.length - 1, by omega⟩
  rw [hn, partsF, h]
  show a :: _ = a :: _
  rw [partsF_fuel c n b.length b (by omega) (Nat.le_refl _)]
theorem parts_ne (c : UInt8) (l : List UInt8) : parts c l ≠ [] := by
  cases h : cutAt c l with
  | none => rw [parts_one h]; simp
  | some p => rw [parts_more (a := p.1) (b := p.2) h]; simp
theorem partsF_or (c : UInt8) : ∀ (k : Nat) (l : List UInt8), partsF c k l = parts c l ∨ ((partsF c k l).length = k + 1 ∧ k + 1 ≤ (parts c l).length)
  | 0, l => .inr ⟨rfl, by have := parts_ne c l; have := List.length_pos_iff.2 this; omega⟩
  | k + 1, l => by
    cases h : cutAt c l with
    | none => left; rw [partsF, h, parts_one h]
    | some p =>
      obtain ⟨a, b⟩ := p
      rw [partsF, h, parts_more h]
      rcases partsF_or c k b with e | ⟨e1, e2⟩
      · left; show a :: _ = _; rw [e]
      · right; exact ⟨by show (a :: _).length = _; rw [List.length_cons, e1], by rw [List.length_cons]; omega⟩
theorem splitK_parts (c : UInt8) : ∀ (k : Nat) (l : List UInt8), Lib.splitK [c] 0 k l = partsF c k l
  | 0, _ => rfl
  | k + 1, l => by
    unfold Lib.splitK partsF
    rw [Lib.index_one]
    rcases cut_cases c l with ⟨h1, _, h3⟩ | ⟨a, b, h1, h2, _, h4⟩
    · rw [h1, h3]; rfl
    · have hne : ((a.length : Int) == -1) = false := by rw [beq_eq_false_iff_ne]; omega
      rw [h1, h4, hne]
      simp only [Bool.false_eq_true, if_false, Int.toNat_natCast]
      rw [splitK_parts c k, h2]
      simp
theorem join_cons2 (c : UInt8) (x y : List UInt8) (r : List (List UInt8)) : Lib.join (x :: y :: r) [c] = x ++ c :: Lib.join (y :: r) [c] := by
  rw [Lib.join_cons, Lib.join_cons]; simp [Lib.joinTail]
theorem join_parts (c : UInt8) : ∀ (n : Nat) (l : List UInt8), l.length ≤ n → Lib.join (parts c l) [c] = l
  | 0, l, h => by
    have : l = [] := List.eq_nil_of_length_eq_zero (by omega)
    subst this; exact Lib.join_one _ _
  | n + 1, l, h => by
    cases hc : cutAt c l with
    | none => rw [parts_one hc, Lib.join_one]
    | some p =>
      obtain ⟨a, b⟩ := p
      have hl := (cut_some hc).1
      have hlen := congrArg List.length hl
      simp only [List.length_append, List.length_cons] at hlen
      have ih := join_parts c n b (by omega)
      rw [parts_more hc]
      cases hp : parts c b with
      | nil => exact absurd hp (parts_ne c b)
      | cons y r => rw [join_cons2, ← hp, ih]; exact hl.symm
theorem parts_join (c : UInt8) : ∀ (xs : List (List UInt8)), xs ≠ [] → (∀ x ∈ xs, c ∉ x) → parts c (Lib.join xs [c]) = xs
  | [], h, _ => absurd rfl h
  | [x], _, h => by rw [Lib.join_one]; exact parts_one (cut_none (h x (by simp)))
  | x :: y :: r, _, h => by
    rw [join_cons2, parts_more (cut_mk _ _ (h x (by simp))), parts_join c (y :: r) (by simp) fun z hz => h z (List.mem_cons_of_mem _ hz)]

/-! ### lines read from a text -/
def partV (p : List UInt8) : Option Ln := match cutAt 58 p with
  | none => none
  | some (a, b) => if (numP b).2 = 0 then some (⟨a.toArray⟩, (numP b).1) else none
def readAll : List (List UInt8) → Option (List Ln)
  | [] => some []
  | p :: r => match partV p with
    | none => none
    | some x => (readAll r).map (x :: ·)
def readUp (acc : List Ln) (ps : List (List UInt8)) : Option (List Ln) := match readAll ps with
  | none => none
  | some l => if fitL (acc ++ l) then some (acc ++ l) else none
def readV (s : List UInt8) : Option (List Ln) := if s = [] then some [] else readUp [] (parts 44 s)
theorem readUp_no {acc : List Ln} {p : List UInt8} {r : List (List UInt8)} (h : partV p = none) : readUp acc (p :: r) = none := by
  unfold readUp readAll; rw [h]
theorem readUp_go {acc : List Ln} {p : List UInt8} {r : List (List UInt8)} {x : Ln} (h : partV p = some x) : readUp acc (p :: r) = readUp (acc ++ [x]) r := by
  unfold readUp; rw [readAll, h]
  cases readAll r with
  | none => rfl
  | some l => simp
theorem readUp_end (acc : List Ln) : readUp acc [] = if fitL acc then some acc else none := by
  unfold readUp readAll; simp
theorem readAll_len : ∀ {ps : List (List UInt8)} {l : List Ln}, readAll ps = some l → l.length = ps.length
  | [], l, h => by cases h; rfl
  | p :: r, l, h => by
    rw [readAll] at h
    cases hp : partV p with
    | none => rw [hp] at h; cases h
    | some x =>
      rw [hp] at h
      cases hr : readAll r with
      | none => rw [hr] at h; cases h
      | some m => rw [hr] at h; cases h; rw [List.length_cons, List.length_cons, readAll_len hr]
theorem readUp_long {acc : List Ln} {ps : List (List UInt8)} (h : 4 < acc.length + ps.length) : readUp acc ps = none := by
  unfold readUp
  cases hr : readAll ps with
  | none => rfl
  | some l =>
    have := readAll_len hr
    show ite _ _ _ = _
    rw [if_neg]
    rw [fitL_long (by rw [List.length_append]; omega)]; decide
theorem read_few (n : Nat) (s : List UInt8) (hs : s ≠ []) (hn : n = min 5 (s.length + 1) - 1) : readUp [] (partsF 44 n s) = readV s := by
  unfold readV
  rw [if_neg hs]
  by_cases h : s.length ≤ 4
  · have : n = s.length := by omega
    rw [this]; rfl
  · have : n = 4 := by omega
    rw [this]
    rcases partsF_or 44 4 s with e | ⟨e1, e2⟩
    · rw [e]
    · rw [readUp_long (by simp; omega), readUp_long (by simp; omega)]

/-! ### there and back -/
theorem not_dig {l : List UInt8} {c : UInt8} (h : allDig l = true) (hc : c.toNat < 48 ∨ 57 < c.toNat) : c ∉ l := by
  intro hm
  obtain ⟨k, hk, hkc⟩ := List.mem_iff_getElem.1 hm
  have := allDig_at h k c (by rw [List.getElem?_eq_getElem hk, hkc])
  omega
theorem not_itoa (n : Int) (c : UInt8) (hc : (c.toNat < 48 ∨ 57 < c.toNat)) (h45 : c ≠ 45) : c ∉ Lib.itoa n := by
  unfold Lib.itoa
  split
  · rw [List.mem_cons]
    rintro (h | h)
    · exact h45 h
    · exact not_dig (dec_dig _ _ (Nat.lt_succ_self _)) hc h
  · exact not_dig (dec_dig _ _ (Nat.lt_succ_self _)) hc
theorem num_58 {b : List UInt8} (h : (58 : UInt8) ∈ b) : (numP b).2 ≠ 0 := by
  rcases numP_cases b with ⟨f, e, hf⟩ | ⟨k, e, hk, _⟩
  · rw [e]; exact hf
  · exact absurd h (by rw [← hk]; exact not_itoa k 58 (by decide) (by decide))
theorem num_nil : (numP []).2 ≠ 0 := by decide
theorem part_num {p a b : List UInt8} (h : cutAt 58 p = some (a, b)) {n : Int} (hn : numP b = (n, 0)) : partV p = some (⟨a.toArray⟩, n) := by
  unfold partV; rw [h]; simp [hn]
theorem part_bad {p a b : List UInt8} (h : cutAt 58 p = some (a, b)) (hn : (numP b).2 ≠ 0) : partV p = none := by
  unfold partV; rw [h]; simp [hn]
theorem part_none {p : List UInt8} (h : cutAt 58 p = none) : partV p = none := by
  unfold partV; rw [h]
/-- A line's text. -/
def tx (x : Ln) : List UInt8 := x.1.data.toList ++ 58 :: Lib.itoa x.2
def textV (l : List Ln) : List UInt8 := if fitL l then Lib.join (l.map tx) [44] else []
theorem part_tx {p : List UInt8} {x : Ln} (h : partV p = some x) : tx x = p := by
  unfold partV at h
  cases hc : cutAt 58 p with
  | none => rw [hc] at h; cases h
  | some q =>
    obtain ⟨a, b⟩ := q
    rw [hc] at h
    simp only at h
    split at h
    · rename_i hz
      cases h
      have hl := (cut_some hc).1
      rcases numP_cases b with ⟨f, e, hf⟩ | ⟨k, e, hk, _⟩
      · rw [e] at hz; exact absurd hz hf
      · rw [hl]; unfold tx; rw [e]; simp [hk]
    · cases h
theorem readAll_tx : ∀ {ps : List (List UInt8)} {l : List Ln}, readAll ps = some l → l.map tx = ps
  | [], l, h => by cases h; rfl
  | p :: r, l, h => by
    rw [readAll] at h
    cases hp : partV p with
    | none => rw [hp] at h; cases h
    | some x =>
      rw [hp] at h
      cases hr : readAll r with
      | none => rw [hr] at h; cases h
      | some m => rw [hr] at h; cases h; rw [List.map_cons, part_tx hp, readAll_tx hr]
theorem read_text {s : List UInt8} {l : List Ln} (h : readV s = some l) : fitL l = true ∧ textV l = s := by
  unfold readV at h
  split at h
  · rename_i hs
    cases h
    exact ⟨rfl, hs.symm⟩
  · unfold readUp at h
    cases hr : readAll (parts 44 s) with
    | none => rw [hr] at h; cases h
    | some m =>
      rw [hr] at h
      simp only [List.nil_append] at h
      split at h
      · rename_i hf
        cases h
        refine ⟨hf, ?_⟩
        unfold textV
        rw [if_pos hf, readAll_tx hr, join_parts 44 _ s (Nat.le_refl _)]
      · cases h
theorem rune_bytes {c : Nat} (h : nr (c : Int) = true) : ∀ b ∈ Lib.encodeRune (c : Int), b ≠ 44 ∧ b ≠ 58 := by
  have hc := nr_iff.1 h
  unfold Lib.encodeRune
  by_cases h1 : (c : Int) ≤ 127
  · rw [Lib.encodeRuneZ_one (by omega) h1]
    intro b hb
    simp only [List.map_cons, List.map_nil, List.mem_singleton] at hb
    subst hb
    have e : ((c : Int).toNat.toUInt8).toNat = c := by
      rw [show (c : Int).toNat.toUInt8.toNat = (c : Int).toNat from toByte_nat _ (by omega) (by omega)]; omega
    constructor <;> intro hb <;> rw [hb] at e
    · have : c = 44 := e.symm; omega
    · have : c = 58 := e.symm; omega
  · rw [Lib.encodeRuneZ_two (by omega) (by omega)]
    intro b hb
    simp only [List.map_cons, List.map_nil, List.mem_cons, List.not_mem_nil, or_false] at hb
    have key : ∀ z : Int, 128 ≤ z → z < 256 → z.toNat.toUInt8 ≠ 44 ∧ z.toNat.toUInt8 ≠ 58 := by
      intro z h0 h2
      have e := toByte_nat z (by omega) h2
      constructor <;> intro hb <;> rw [hb] at e
      · have : z.toNat = 44 := e.symm; omega
      · have : z.toNat = 58 := e.symm; omega
    rcases hb with rfl | rfl
    · exact key _ (by omega) (by omega)
    · exact key _ (by omega) (by omega)
theorem nm_bytes {s : ByteArray} (h : nm s = true) : (44 : UInt8) ∉ s.data.toList ∧ (58 : UInt8) ∉ s.data.toList := by
  have ha := (fitV_iff.1 h).1
  have hg := allNr_good _ ha
  have he := encs_vals _ hg
  have key : ∀ b ∈ s.data.toList, b ≠ 44 ∧ b ≠ 58 := by
    intro b hb
    rw [← he] at hb
    unfold encs at hb
    obtain ⟨c, hc, hbc⟩ := List.mem_flatMap.1 hb
    refine rune_bytes ?_ b hbc
    exact List.all_eq_true.1 ha c hc
  exact ⟨fun hb => (key _ hb).1 rfl, fun hb => (key _ hb).2 rfl⟩
theorem nm_len {s : ByteArray} (h : nm s = true) : s.data.toList.length ≤ 48 := by
  have h1 := vals_four s.data.toList
  have h2 := (fitV_iff.1 h).2.2.1
  omega
theorem tx_no44 {x : Ln} (h : nm x.1 = true) : (44 : UInt8) ∉ tx x := by
  unfold tx
  intro hm
  rcases List.mem_append.1 hm with hm | hm
  · exact (nm_bytes h).1 hm
  · rcases List.mem_cons.1 hm with hm | hm
    · exact absurd hm (by decide)
    · exact not_itoa _ 44 (by decide) (by decide) hm
theorem part_of {x : Ln} (h : nm x.1 = true) (hq : qty x.2 = true) : partV (tx x) = some x := by
  have hq' := qty_iff.1 hq
  exact part_num (cut_mk _ _ (nm_bytes h).2) (numP_back (by omega) (by omega))
theorem readAll_of : ∀ {l : List Ln}, (∀ x ∈ l, nm x.1 = true ∧ qty x.2 = true) → readAll (l.map tx) = some l
  | [], _ => rfl
  | x :: r, h => by
    rw [List.map_cons, readAll, part_of (h x (by simp)).1 (h x (by simp)).2, readAll_of fun y hy => h y (List.mem_cons_of_mem _ hy)]
    rfl
theorem text_read {l : List Ln} (h : fitL l = true) : readV (textV l) = some l := by
  have hm := fitL_mem h
  unfold textV
  rw [if_pos h]
  cases l with
  | nil => rfl
  | cons x r =>
    have hne : Lib.join ((x :: r).map tx) [44] ≠ [] := by
      rw [List.map_cons, Lib.join_cons]; simp [tx]
    unfold readV
    rw [if_neg hne, parts_join 44 _ (by simp) (fun y hy => by obtain ⟨z, hz, rfl⟩ := List.mem_map.1 hy; exact tx_no44 (hm z hz).1)]
    unfold readUp
    rw [readAll_of hm]
    simp [h]
theorem textV_no {l : List Ln} (h : fitL l = false) : textV l = [] := by unfold textV; rw [h]; rfl
theorem itoa_short {n : Int} (h : qty n = true) : (Lib.itoa n).length ≤ 21 := by
  have := Lib.itoa_length_le n (by have := qty_iff.1 h; omega) (by have := qty_iff.1 h; omega)
  exact this
theorem tx_len {x : Ln} (h : nm x.1 = true) (hq : qty x.2 = true) : (tx x).length ≤ 70 := by
  have h1 := nm_len h
  have h2 := itoa_short hq
  unfold tx
  rw [List.length_append, List.length_cons]; omega
theorem joinTail_small : ∀ {xs : List (List UInt8)}, (∀ x ∈ xs, x.length ≤ 70) → (Lib.joinTail [44] xs).length ≤ 71 * xs.length
  | [], _ => by simp [Lib.joinTail]
  | x :: r, h => by
    have h1 := h x (by simp)
    have h2 := joinTail_small (xs := r) fun y hy => h y (List.mem_cons_of_mem _ hy)
    simp only [Lib.joinTail, List.map_cons, List.flatten_cons, List.length_append, List.length_cons, List.length_nil] at h2 ⊢
    omega
theorem text_len {l : List Ln} (h : fitL l = true) : (Lib.join (l.map tx) [44]).length ≤ 300 := by
  have hm := fitL_mem h
  have hl := fitL_len h
  cases l with
  | nil => simp [Lib.join_nil]
  | cons x r =>
    rw [List.map_cons, Lib.join_cons, List.length_append]
    have h1 := tx_len (hm x (by simp)).1 (hm x (by simp)).2
    have h2 := joinTail_small (xs := r.map tx) fun y hy => by obtain ⟨z, hz, rfl⟩ := List.mem_map.1 hy; exact tx_len (hm z (List.mem_cons_of_mem _ hz)).1 (hm z (List.mem_cons_of_mem _ hz)).2
    rw [List.length_map] at h2
    simp only [List.length_cons] at hl
    omega
end LinesP
end Go.Proofs.Ytleopanfggmenaa
