/-
  Fit timers told by what is checked one by one; nothing of the program.
-/
import Derived.Test.YtcfjnpepbjaacaaTimerPlain
set_option linter.unusedVariables false
namespace Go.Proofs.Ytcfjnpepbjaacaa
namespace TimerP

/-- Might a timer come behind these? -/
def lastOk (p : List Tm) (t : Tm) : Bool := match p.getLast? with
  | none => true
  | some x => aheadB x t
def okT (p : List Tm) (t : Tm) : Bool := oneT t && (lastOk p t && p.all fun x => !keyB t.saga t.kind x)
def fitUp : List Tm → List Tm → Bool
  | p, [] => true
  | p, t :: r => okT p t && fitUp (p ++ [t]) r
def fitB (l : List Tm) : Bool := decide (l.length ≤ 64) && fitUp [] l
theorem last_all {p : List Tm} {t : Tm} (h : p.Pairwise Ahead) (hl : lastOk p t = true) : ∀ x ∈ p, Ahead x t := by
  intro x hx
  rcases List.eq_nil_or_concat p with rfl | ⟨q, y, hq⟩
  · cases hx
  · rw [List.concat_eq_append] at hq
    subst hq
    unfold lastOk at hl
    rw [List.getLast?_concat] at hl
    have hy := ahead_iff.1 hl
    rcases List.mem_append.1 hx with hx | hx
    · exact ahead_trans ((List.pairwise_append.1 h).2.2 x hx y (List.mem_singleton.2 rfl)) hy
    · rw [List.mem_singleton.1 hx]; exact hy
theorem last_of {p : List Tm} {t : Tm} (h : ∀ x ∈ p, Ahead x t) : lastOk p t = true := by
  unfold lastOk
  cases e : p.getLast? with
  | none => rfl
  | some x => exact ahead_iff.2 (h x (List.mem_of_getLast? e))
theorem fitUp_iff : ∀ {l p : List Tm}, p.Pairwise Ahead → p.Pairwise (fun a b => ¬ Key a b) →
    (fitUp p l = true ↔ ((p ++ l).Pairwise Ahead ∧ (p ++ l).Pairwise (fun a b => ¬ Key a b) ∧ ∀ t ∈ l, oneT t = true))
  | [], p, h1, h2 => by
    rw [fitUp, List.append_nil]
    exact ⟨fun _ => ⟨h1, h2, fun t ht => by cases ht⟩, fun _ => rfl⟩
  | t :: r, p, h1, h2 => by
    rw [fitUp, Bool.and_eq_true]
    have e : p ++ t :: r = (p ++ [t]) ++ r := by simp
    unfold okT
    rw [Bool.and_eq_true, Bool.and_eq_true, List.all_eq_true]
    constructor
    · rintro ⟨⟨a1, a2, a3⟩, a4⟩
      have ha := last_all h1 a2
      have q1 : (p ++ [t]).Pairwise Ahead := List.pairwise_append.2 ⟨h1, List.pairwise_singleton _ _, fun x hx y hy => by rw [List.mem_singleton.1 hy]; exact ha x hx⟩
      have q2 : (p ++ [t]).Pairwise (fun a b => ¬ Key a b) := List.pairwise_append.2 ⟨h2, List.pairwise_singleton _ _, fun x hx y hy hk => by
        rw [List.mem_singleton.1 hy] at hk
        have := a3 x hx
        rw [keyB_iff.2 hk] at this
        cases this⟩
      obtain ⟨b1, b2, b3⟩ := (fitUp_iff q1 q2).1 a4
      rw [e]
      exact ⟨b1, b2, fun y hy => by
        rcases List.mem_cons.1 hy with rfl | hy
        · exact a1
        · exact b3 y hy⟩
    · rw [e]
      rintro ⟨b1, b2, b3⟩
      have q1 := (List.pairwise_append.1 b1).1
      have q2 := (List.pairwise_append.1 b2).1
      refine ⟨⟨b3 t List.mem_cons_self, last_of fun x hx => (List.pairwise_append.1 q1).2.2 x hx t (List.mem_singleton.2 rfl), fun x hx => ?_⟩, (fitUp_iff q1 q2).2 ⟨b1, b2, fun y hy => b3 y (List.mem_cons_of_mem _ hy)⟩⟩
      cases hk : keyB t.saga t.kind x with
      | false => rfl
      | true => exact absurd (keyB_iff.1 hk) ((List.pairwise_append.1 q2).2.2 x hx t (List.mem_singleton.2 rfl))
theorem fitB_iff {l : List Tm} : fitB l = true ↔ FitT l := by
  unfold fitB
  rw [Bool.and_eq_true, decide_eq_true_eq, fitUp_iff List.Pairwise.nil List.Pairwise.nil, List.nil_append]
  exact ⟨fun ⟨a, b, c, d⟩ => ⟨a, d, b, c⟩, fun h => ⟨h.len, h.up, h.keys, h.one⟩⟩
/-- A loop over them: what stands ahead of a place, the one at it. -/
theorem fitUp_step {l : List Tm} {i : Nat} (hi : i < l.length) : fitUp (l.take i) (l.drop i) = (okT (l.take i) l[i] && fitUp (l.take (i + 1)) (l.drop (i + 1))) := by
  rw [List.drop_eq_getElem_cons hi, fitUp, List.take_succ_eq_append_getElem hi]
theorem fitUp_end (l : List Tm) : fitUp (l.take l.length) (l.drop l.length) = true := by rw [List.drop_length]; rfl
theorem lastOk_at {l : List Tm} {i : Nat} (hi : i < l.length) (h0 : 0 < i) : lastOk (l.take i) l[i] = aheadB (l[i - 1]'(by omega)) l[i] := by
  unfold lastOk
  have : (l.take i).getLast? = some (l[i - 1]'(by omega)) := by
    rw [List.getLast?_eq_getElem?, List.length_take, Nat.min_eq_left (Nat.le_of_lt hi), List.getElem?_take_of_lt (by omega), List.getElem?_eq_getElem (by omega)]
  rw [this]
theorem lastOk_zero {l : List Tm} (t : Tm) : lastOk (l.take 0) t = true := rfl
/-- Two timers beside one another. -/
def eqT (a b : Tm) : Bool := (a.at_ == b.at_) && ((a.saga == b.saga) && (a.kind == b.kind))
theorem eqT_iff {a b : Tm} : eqT a b = true ↔ a = b := by
  unfold eqT
  rw [Bool.and_eq_true, Bool.and_eq_true, beq_iff_eq, beq_iff_eq, beq_iff_eq]
  constructor
  · rintro ⟨h1, h2, h3⟩
    cases a; cases b
    simp only at h1 h2 h3
    subst h1 h2 h3
    rfl
  · rintro rfl; exact ⟨rfl, rfl, rfl⟩
def eqTs : List Tm → List Tm → Bool
  | [], [] => true
  | a :: r, b :: q => eqT a b && eqTs r q
  | _, _ => false
theorem eqTs_iff : ∀ {a b : List Tm}, eqTs a b = true ↔ a = b
  | [], [] => by simp [eqTs]
  | [], b :: q => by simp [eqTs]
  | a :: r, [] => by simp [eqTs]
  | a :: r, b :: q => by rw [eqTs, Bool.and_eq_true, eqT_iff, eqTs_iff, List.cons.injEq]
/-- What is first. -/
def firstT (now : Int) : List Tm → Option Tm
  | [] => none
  | t :: _ => if now < t.at_ then none else some t
/-- Setting one, or why not. -/
def setT (l : List Tm) (t : Tm) : List Tm × Int :=
  if fitB l = true then
    if oneT t = true then
      if (dropT t.saga t.kind l).length = 64 then ([], 4) else (insT t (dropT t.saga t.kind l), 0)
    else ([], 1)
  else ([], 12)
end TimerP
end Go.Proofs.Ytcfjnpepbjaacaa
