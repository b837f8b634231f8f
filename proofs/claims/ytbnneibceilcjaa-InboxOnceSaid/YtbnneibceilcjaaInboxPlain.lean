/-
  Plain facts of inbox: fit boxes, what was had, what is marked; numbers and lists alone, nothing of the program.
-/
import Derived.Test.YtbnneibceilcjaaChecked
set_option linter.unusedVariables false
namespace Go.Proofs.Ytbnneibceilcjaa
namespace InP

/-- A box: whose, up to which number all was had, what was had above. -/
structure Bo where
  sv : Int
  low : Int
  ab : List Int
def bo0 : Bo := ⟨0, 0, []⟩
def amtI (n : Int) : Bool := decide (0 ≤ n) && decide (n ≤ 1099511627776)
theorem amtI_iff {n : Int} : amtI n = true ↔ 0 ≤ n ∧ n ≤ 1099511627776 := by unfold amtI; rw [Bool.and_eq_true, decide_eq_true_eq, decide_eq_true_eq]
def lastOk (p : List Int) (x : Int) : Bool := match p.getLast? with
  | none => true
  | some y => decide (y < x)
def okI (low : Int) (p : List Int) (x : Int) : Bool := amtI x && (decide (low + 1 < x) && lastOk p x)
def upI (low : Int) : List Int → List Int → Bool
  | p, [] => true
  | p, x :: r => okI low p x && upI low (p ++ [x]) r
def headOk (b : Bo) : Bool := (decide (b.sv = 1) || decide (b.sv = 2)) && (amtI b.low && decide (b.ab.length ≤ 16))
def fitB (b : Bo) : Bool := headOk b && upI b.low [] b.ab
structure FitX (b : Bo) : Prop where
  sv : b.sv = 1 ∨ b.sv = 2
  low : 0 ≤ b.low ∧ b.low ≤ 1099511627776
  len : b.ab.length ≤ 16
  amt : ∀ x ∈ b.ab, x ≤ 1099511627776
  gap : ∀ x ∈ b.ab, b.low + 1 < x
  up : b.ab.Pairwise (· < ·)
theorem last_all {p : List Int} {t : Int} (h : p.Pairwise (· < ·)) (hl : lastOk p t = true) : ∀ x ∈ p, x < t := by
  intro x hx
  rcases List.eq_nil_or_concat p with rfl | ⟨q, y, hq⟩
  · cases hx
  · rw [List.concat_eq_append] at hq
    subst hq
    unfold lastOk at hl
    rw [List.getLast?_concat] at hl
    have hy := of_decide_eq_true hl
    rcases List.mem_append.1 hx with hx | hx
    · exact Int.lt_trans ((List.pairwise_append.1 h).2.2 x hx y (List.mem_singleton.2 rfl)) hy
    · rw [List.mem_singleton.1 hx]; exact hy
theorem last_of {p : List Int} {t : Int} (h : ∀ x ∈ p, x < t) : lastOk p t = true := by
  unfold lastOk
  cases e : p.getLast? with
  | none => rfl
  | some x => exact decide_eq_true (h x (List.mem_of_getLast? e))
theorem upI_iff {low : Int} : ∀ {l p : List Int}, p.Pairwise (· < ·) → (upI low p l = true ↔ ((p ++ l).Pairwise (· < ·) ∧ ∀ x ∈ l, amtI x = true ∧ low + 1 < x))
  | [], p, h1 => by
    rw [upI, List.append_nil]
    exact ⟨fun _ => ⟨h1, fun t ht => by cases ht⟩, fun _ => rfl⟩
  | t :: r, p, h1 => by
    rw [upI, Bool.and_eq_true]
    have e : p ++ t :: r = (p ++ [t]) ++ r := by simp
    unfold okI
    rw [Bool.and_eq_true, Bool.and_eq_true, decide_eq_true_eq]
    constructor
    · rintro ⟨⟨a1, a2, a3⟩, a4⟩
      have ha := last_all h1 a3
      have q1 : (p ++ [t]).Pairwise (· < ·) := List.pairwise_append.2 ⟨h1, List.pairwise_singleton _ _, fun x hx y hy => by rw [List.mem_singleton.1 hy]; exact ha x hx⟩
      obtain ⟨b1, b2⟩ := (upI_iff q1).1 a4
      rw [e]
      exact ⟨b1, fun y hy => by
        rcases List.mem_cons.1 hy with rfl | hy
        · exact ⟨a1, a2⟩
        · exact b2 y hy⟩
    · rw [e]
      rintro ⟨b1, b2⟩
      have q1 := (List.pairwise_append.1 b1).1
      have ht := b2 t List.mem_cons_self
      exact ⟨⟨ht.1, ht.2, last_of fun x hx => (List.pairwise_append.1 q1).2.2 x hx t (List.mem_singleton.2 rfl)⟩, (upI_iff q1).2 ⟨b1, fun y hy => b2 y (List.mem_cons_of_mem _ hy)⟩⟩
theorem fitB_iff {b : Bo} : fitB b = true ↔ FitX b := by
  unfold fitB headOk
  rw [Bool.and_eq_true, Bool.and_eq_true, Bool.and_eq_true, Bool.or_eq_true, decide_eq_true_eq, decide_eq_true_eq, decide_eq_true_eq, amtI_iff, upI_iff List.Pairwise.nil, List.nil_append]
  constructor
  · rintro ⟨⟨a1, a2, a3⟩, a4, a5⟩
    exact ⟨a1, a2, a3, fun x hx => (amtI_iff.1 (a5 x hx).1).2, fun x hx => (a5 x hx).2, a4⟩
  · intro h
    exact ⟨⟨h.sv, h.low, h.len⟩, h.up, fun x hx => ⟨amtI_iff.2 ⟨by have := h.gap x hx; have := h.low; omega, h.amt x hx⟩, h.gap x hx⟩⟩
theorem upI_step {low : Int} {l : List Int} {i : Nat} (hi : i < l.length) : upI low (l.take i) (l.drop i) = (okI low (l.take i) l[i] && upI low (l.take (i + 1)) (l.drop (i + 1))) := by
  rw [List.drop_eq_getElem_cons hi, upI, List.take_succ_eq_append_getElem hi]
theorem upI_end {low : Int} (l : List Int) : upI low (l.take l.length) (l.drop l.length) = true := by rw [List.drop_length]; rfl
theorem lastOk_at {l : List Int} {i : Nat} (hi : i < l.length) (h0 : 0 < i) : lastOk (l.take i) l[i] = decide ((l[i - 1]'(by omega)) < l[i]) := by
  unfold lastOk
  have : (l.take i).getLast? = some (l[i - 1]'(by omega)) := by
    rw [List.getLast?_eq_getElem?, List.length_take, Nat.min_eq_left (Nat.le_of_lt hi), List.getElem?_take_of_lt (by omega), List.getElem?_eq_getElem (by omega)]
  rw [this]
def Had (b : Bo) (x : Int) : Prop := x ≤ b.low ∨ x ∈ b.ab
def hadB (b : Bo) (x : Int) : Bool := decide (x ≤ b.low) || decide (x ∈ b.ab)
theorem hadB_iff {b : Bo} {x : Int} : hadB b x = true ↔ Had b x := by unfold hadB Had; rw [Bool.or_eq_true, decide_eq_true_eq, decide_eq_true_eq]
/-- A number in its place. -/
def insI (n : Int) : List Int → List Int
  | [] => [n]
  | y :: r => if y < n then y :: insI n r else n :: y :: r
theorem insI_mem {n x : Int} : ∀ {l : List Int}, x ∈ insI n l ↔ x = n ∨ x ∈ l
  | [] => by simp [insI]
  | y :: r => by
    rw [insI]
    split
    · rw [List.mem_cons, insI_mem (l := r), List.mem_cons]
      constructor
      · rintro (h | h | h)
        · exact .inr (.inl h)
        · exact .inl h
        · exact .inr (.inr h)
      · rintro (h | h | h)
        · exact .inr (.inl h)
        · exact .inl h
        · exact .inr (.inr h)
    · simp
theorem insI_len {n : Int} : ∀ {l : List Int}, (insI n l).length = l.length + 1
  | [] => rfl
  | y :: r => by
    rw [insI]
    split
    · rw [List.length_cons, insI_len, List.length_cons]
    · rfl
theorem insI_up {n : Int} : ∀ {l : List Int}, l.Pairwise (· < ·) → n ∉ l → (insI n l).Pairwise (· < ·)
  | [], _, _ => List.pairwise_singleton _ _
  | y :: r, hp, hn => by
    have hp2 := List.pairwise_cons.1 hp
    have hny : n ≠ y := fun e => hn (by rw [e]; exact List.mem_cons_self)
    rw [insI]
    split
    · rename_i hlt
      refine List.pairwise_cons.2 ⟨fun z hz => ?_, insI_up hp2.2 fun h => hn (List.mem_cons_of_mem _ h)⟩
      rcases insI_mem.1 hz with rfl | hz
      · exact hlt
      · exact hp2.1 z hz
    · rename_i hlt
      refine List.pairwise_cons.2 ⟨fun z hz => ?_, hp⟩
      rcases List.mem_cons.1 hz with rfl | hz
      · omega
      · have := hp2.1 z hz; omega
/-- Where the numbers below one end. -/
def posI (n : Int) : List Int → Nat
  | [] => 0
  | y :: r => if y < n then posI n r + 1 else 0
theorem posI_le (n : Int) : ∀ l : List Int, posI n l ≤ l.length
  | [] => Nat.le_refl _
  | y :: r => by rw [posI]; split <;> simp [posI_le n r]
theorem insI_parts (n : Int) : ∀ l : List Int, insI n l = l.take (posI n l) ++ [n] ++ l.drop (posI n l)
  | [] => rfl
  | y :: r => by
    rw [insI, posI]
    split
    · rw [insI_parts n r]; simp
    · simp
/-- What follows the lowest number at once goes into it. -/
def pruneI : Int → List Int → Int × List Int
  | low, [] => (low, [])
  | low, y :: r => if y = low + 1 then pruneI y r else (low, y :: r)
theorem prune_spec : ∀ (l : List Int) (low : Int), l.Pairwise (· < ·) → (∀ x ∈ l, low < x) →
    low ≤ (pruneI low l).1 ∧ ((pruneI low l).1 = low ∨ (pruneI low l).1 ∈ l) ∧ (pruneI low l).2.length ≤ l.length ∧ (∀ x ∈ (pruneI low l).2, x ∈ l) ∧ (∀ x ∈ (pruneI low l).2, (pruneI low l).1 + 1 < x) ∧ (pruneI low l).2.Pairwise (· < ·) ∧ ∀ x, x ≤ low ∨ x ∈ l → x ≤ (pruneI low l).1 ∨ x ∈ (pruneI low l).2
  | [], low, hp, hg => by
    rw [pruneI]
    exact ⟨Int.le_refl _, .inl rfl, Nat.le_refl _, fun x hx => hx, (fun x hx => by cases hx), hp, fun x hx => hx⟩
  | y :: r, low, hp, hg => by
    have hp2 := List.pairwise_cons.1 hp
    have hy := hg y List.mem_cons_self
    rw [pruneI]
    split
    · obtain ⟨a1, a2, a3, a4, a5, a6, a7⟩ := prune_spec r y hp2.2 hp2.1
      refine ⟨by omega, .inr ?_, by rw [List.length_cons]; omega, fun x hx => List.mem_cons_of_mem _ (a4 x hx), a5, a6, fun x hx => a7 x ?_⟩
      · rcases a2 with h | h
        · rw [h]; exact List.mem_cons_self
        · exact List.mem_cons_of_mem _ h
      · rcases hx with h | h
        · exact .inl (by omega)
        · rcases List.mem_cons.1 h with rfl | h
          · exact .inl (Int.le_refl _)
          · exact .inr h
    · rename_i hne
      refine ⟨Int.le_refl _, .inl rfl, Nat.le_refl _, fun x hx => hx, fun x hx => ?_, hp, fun x hx => hx⟩
      rcases List.mem_cons.1 hx with rfl | hx
      · show low + 1 < x
        omega
      · have := hp2.1 x hx
        show low + 1 < x
        omega
/-- Too many: the least goes into the lowest number. -/
def cutI (low : Int) (l : List Int) : Int × List Int := if 16 < l.length then match l with
  | [] => (low, [])
  | y :: r => (y, r) else (low, l)
def nextB (b : Bo) (n : Int) : Bo :=
  let c := cutI b.low (insI n b.ab)
  let p := pruneI c.1 c.2
  ⟨b.sv, p.1, p.2⟩
def markV (b : Bo) (n : Int) : Bo × Int :=
  if fitB b = true then
    if 1 ≤ n ∧ n ≤ 1099511627776 then
      if hadB b n = true then (bo0, 14) else (nextB b n, 0)
    else (bo0, 1)
  else (bo0, 12)
theorem cut_spec {low : Int} {l : List Int} (hp : l.Pairwise (· < ·)) (hg : ∀ x ∈ l, low < x) (hl : l.length ≤ 17) :
    low ≤ (cutI low l).1 ∧ ((cutI low l).1 = low ∨ (cutI low l).1 ∈ l) ∧ (cutI low l).2.length ≤ 16 ∧ (∀ x ∈ (cutI low l).2, x ∈ l) ∧ (cutI low l).2.Pairwise (· < ·) ∧ (∀ x ∈ (cutI low l).2, (cutI low l).1 < x) ∧ ∀ x, x ≤ low ∨ x ∈ l → x ≤ (cutI low l).1 ∨ x ∈ (cutI low l).2 := by
  unfold cutI
  split
  · match l, hp, hg, hl with
    | [], hp, hg, hl => exact ⟨Int.le_refl _, .inl rfl, Nat.zero_le _, fun x hx => hx, hp, hg, fun x hx => hx⟩
    | y :: r, hp, hg, hl =>
      have hp2 := List.pairwise_cons.1 hp
      have hy := hg y List.mem_cons_self
      rw [List.length_cons] at hl
      refine ⟨Int.le_of_lt hy, .inr List.mem_cons_self, by show r.length ≤ 16; omega, fun x hx => List.mem_cons_of_mem _ hx, hp2.2, hp2.1, fun x hx => ?_⟩
      rcases hx with h | h
      · exact .inl (Int.le_trans h (Int.le_of_lt hy))
      · rcases List.mem_cons.1 h with rfl | h
        · exact .inl (Int.le_refl _)
        · exact .inr h
  · exact ⟨Int.le_refl _, .inl rfl, by show l.length ≤ 16; omega, fun x hx => hx, hp, hg, fun x hx => hx⟩
/-- What is marked: the box stays fit, what was had stays had, and so is the number. -/
theorem next_spec {b : Bo} {n : Int} (h : FitX b) (h1 : 1 ≤ n) (h2 : n ≤ 1099511627776) (hn : ¬ Had b n) : FitX (nextB b n) ∧ Had (nextB b n) n ∧ ∀ x, Had b x → Had (nextB b n) x := by
  have hlow : b.low < n := by have : ¬ n ≤ b.low := fun e => hn (.inl e); omega
  have hp := insI_up h.up (n := n) fun e => hn (.inr e)
  have hg : ∀ x ∈ insI n b.ab, b.low < x := by
    intro x hx
    rcases insI_mem.1 hx with rfl | hx
    · exact hlow
    · have := h.gap x hx; omega
  have ham : ∀ x ∈ insI n b.ab, x ≤ 1099511627776 := by
    intro x hx
    rcases insI_mem.1 hx with rfl | hx
    · exact h2
    · exact h.amt x hx
  obtain ⟨c1, c2, c3, c4, c5, c6, c7⟩ := cut_spec hp hg (by rw [insI_len]; have := h.len; omega)
  obtain ⟨p1, p2, p3, p4, p5, p6, p7⟩ := prune_spec _ _ c5 c6
  have hall : ∀ x, Had b x ∨ x = n → Had (nextB b n) x := by
    intro x hx
    refine p7 x (c7 x ?_)
    rcases hx with (h | h) | h
    · exact .inl h
    · exact .inr (insI_mem.2 (.inr h))
    · exact .inr (insI_mem.2 (.inl h))
  refine ⟨⟨h.sv, ⟨?_, ?_⟩, Nat.le_trans p3 c3, fun x hx => ham x (c4 x (p4 x hx)), p5, p6⟩, hall n (.inr rfl), fun x hx => hall x (.inl hx)⟩
  · exact Int.le_trans h.low.1 (Int.le_trans c1 p1)
  · have hc : (cutI b.low (insI n b.ab)).1 ≤ 1099511627776 := by
      rcases c2 with e | e
      · rw [e]; exact h.low.2
      · exact ham _ e
    rcases p2 with e | e
    · show (pruneI _ _).1 ≤ _
      rw [e]; exact hc
    · exact ham _ (c4 _ e)
/-- What is had is as many as none above: in order. -/
theorem next_order {s low : Int} : nextB ⟨s, low, []⟩ (low + 1) = ⟨s, low + 1, []⟩ := by
  simp [nextB, insI, cutI, pruneI]
theorem next_ahead {s low : Int} : nextB ⟨s, low, []⟩ (low + 2) = ⟨s, low, [low + 2]⟩ := by
  have h : ¬ (low + 2 = low + 1) := by omega
  simp [nextB, insI, cutI, pruneI, h]
theorem next_back {s low : Int} : nextB ⟨s, low, [low + 2]⟩ (low + 1) = ⟨s, low + 2, []⟩ := by
  obtain ⟨m, hm⟩ : ∃ m, low + 1 = m := ⟨_, rfl⟩
  obtain ⟨k, hk⟩ : ∃ k, low + 2 = k := ⟨_, rfl⟩
  have h1 : ¬ (k < m) := by omega
  have h2 : k = m + 1 := by omega
  rw [hm, hk]
  have e1 : insI m [k] = [m, k] := by rw [insI, if_neg h1]
  have e2 : cutI low [m, k] = (low, [m, k]) := rfl
  have e3 : pruneI low [m, k] = (k, []) := by rw [pruneI, if_pos hm.symm, pruneI, if_pos h2, pruneI]
  show Bo.mk s (pruneI (cutI low (insI m [k])).1 (cutI low (insI m [k])).2).1 (pruneI (cutI low (insI m [k])).1 (cutI low (insI m [k])).2).2 = _
  rw [e1, e2, e3]
end InP
end Go.Proofs.Ytbnneibceilcjaa
