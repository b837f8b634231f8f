/-
  Plain facts of timer: fit timers, what is found, dropped, set; in order, each saga and kind once; lists and numbers alone, nothing of the program.
-/
import Derived.Test.YtcfjnpepbjaacaaChecked
set_option linter.unusedVariables false
namespace Go.Proofs.Ytcfjnpepbjaacaa
namespace TimerP

/-- A timer: its time, its saga, its kind. -/
structure Tm where
  at_ : Int
  saga : Int
  kind : Int
def tm0 : Tm := ⟨0, 0, 0⟩
def amtT (n : Int) : Bool := decide (0 ≤ n) && decide (n ≤ 1099511627776)
def oneT (t : Tm) : Bool := amtT t.at_ && decide (1 ≤ t.saga) && decide (t.saga ≤ 1099511627776) && decide (1 ≤ t.kind) && decide (t.kind ≤ 4)
def aheadB (a b : Tm) : Bool := if a.at_ = b.at_ then if a.saga = b.saga then decide (a.kind < b.kind) else decide (a.saga < b.saga) else decide (a.at_ < b.at_)
def Ahead (a b : Tm) : Prop := a.at_ < b.at_ ∨ (a.at_ = b.at_ ∧ (a.saga < b.saga ∨ (a.saga = b.saga ∧ a.kind < b.kind)))
theorem ahead_iff {a b : Tm} : aheadB a b = true ↔ Ahead a b := by
  unfold aheadB Ahead
  split
  · split
    · rw [decide_eq_true_eq]; omega
    · rw [decide_eq_true_eq]; omega
  · rw [decide_eq_true_eq]; omega
theorem ahead_irr {a : Tm} : ¬ Ahead a a := by unfold Ahead; omega
theorem ahead_trans {a b c : Tm} (h : Ahead a b) (k : Ahead b c) : Ahead a c := by unfold Ahead at *; omega
theorem ahead_total {a b : Tm} (h : ¬ Ahead a b) (hk : ¬ (a.saga = b.saga ∧ a.kind = b.kind)) : Ahead b a := by unfold Ahead at *; omega
theorem ahead_total' {a b : Tm} (h : ¬ Ahead a b) (hk : a ≠ b) : Ahead b a := by
  have : ¬ (a.at_ = b.at_ ∧ a.saga = b.saga ∧ a.kind = b.kind) := fun ⟨h1, h2, h3⟩ => hk (by cases a; cases b; simp only at h1 h2 h3; subst h1 h2 h3; rfl)
  unfold Ahead at *; omega
/-- Of one saga and kind. -/
def keyB (g k : Int) (t : Tm) : Bool := (t.saga == g) && (t.kind == k)
def Key (a b : Tm) : Prop := a.saga = b.saga ∧ a.kind = b.kind
theorem keyB_iff {g k : Int} {t : Tm} : keyB g k t = true ↔ t.saga = g ∧ t.kind = k := by unfold keyB; simp
structure FitT (l : List Tm) : Prop where
  len : l.length ≤ 64
  one : ∀ t ∈ l, oneT t = true
  up : l.Pairwise Ahead
  keys : l.Pairwise fun a b => ¬ Key a b
def findT (g k : Int) : List Tm → Option Tm
  | [] => none
  | t :: r => if keyB g k t = true then some t else findT g k r
theorem findT_mem : ∀ {g k : Int} {l : List Tm} {t : Tm}, findT g k l = some t → t ∈ l ∧ t.saga = g ∧ t.kind = k
  | g, k, y :: r, t, h => by
    rw [findT] at h
    split at h
    · rename_i e; cases h; exact ⟨List.mem_cons_self, keyB_iff.1 e⟩
    · have := findT_mem h; exact ⟨List.mem_cons_of_mem _ this.1, this.2⟩
theorem findT_at : ∀ {l : List Tm} {t : Tm}, l.Pairwise (fun a b => ¬ Key a b) → t ∈ l → findT t.saga t.kind l = some t
  | y :: r, t, hp, ht => by
    have hp2 := List.pairwise_cons.1 hp
    rw [findT]
    rcases List.mem_cons.1 ht with rfl | ht
    · rw [if_pos (keyB_iff.2 ⟨rfl, rfl⟩)]
    · rw [if_neg fun e => hp2.1 t ht (keyB_iff.1 e)]
      exact findT_at hp2.2 ht
/-- What is left without some: of a saga, of that kind, or of whatever kind (0). -/
def leftB (g k : Int) (t : Tm) : Bool := !(t.saga == g) || (!(k == 0) && !(t.kind == k))
def dropT (g k : Int) (l : List Tm) : List Tm := l.filter (leftB g k)
theorem leftB_iff {g k : Int} {t : Tm} : leftB g k t = true ↔ t.saga ≠ g ∨ (k ≠ 0 ∧ t.kind ≠ k) := by unfold leftB; simp
theorem drop_fitT {l : List Tm} (g k : Int) (h : FitT l) : FitT (dropT g k l) :=
  ⟨Nat.le_trans (List.length_filter_le _ _) h.len, fun t ht => h.one t (List.mem_filter.1 ht).1, h.up.sublist List.filter_sublist, h.keys.sublist List.filter_sublist⟩
/-- A timer in its place. -/
def insT (t : Tm) : List Tm → List Tm
  | [] => [t]
  | y :: r => if aheadB y t = true then y :: insT t r else t :: y :: r
theorem ins_perm (t : Tm) : ∀ l : List Tm, (insT t l).Perm (t :: l)
  | [] => List.Perm.refl _
  | y :: r => by
    rw [insT]
    split
    · exact ((ins_perm t r).cons y).trans (List.Perm.swap t y r)
    · exact List.Perm.refl _
theorem ins_upT {t : Tm} : ∀ {l : List Tm}, l.Pairwise Ahead → (∀ y ∈ l, ¬ Key y t) → (insT t l).Pairwise Ahead
  | [], _, _ => List.pairwise_cons.2 ⟨fun y hy => (by cases hy), List.Pairwise.nil⟩
  | y :: r, hp, hk => by
    have hp2 := List.pairwise_cons.1 hp
    rw [insT]
    by_cases h : aheadB y t = true
    · rw [if_pos h]
      refine List.pairwise_cons.2 ⟨fun z hz => ?_, ins_upT hp2.2 fun z hz => hk z (List.mem_cons_of_mem _ hz)⟩
      rcases List.mem_cons.1 ((ins_perm t r).mem_iff.1 hz) with rfl | hz
      · exact ahead_iff.1 h
      · exact hp2.1 z hz
    · rw [if_neg h]
      have hlt : Ahead t y := ahead_total (fun e => h (ahead_iff.2 e)) (hk y List.mem_cons_self)
      refine List.pairwise_cons.2 ⟨fun z hz => ?_, hp⟩
      rcases List.mem_cons.1 hz with rfl | hz
      · exact hlt
      · exact ahead_trans hlt (hp2.1 z hz)
theorem key_symm {a b : Tm} (h : ¬ Key a b) : ¬ Key b a := fun k => h ⟨k.1.symm, k.2.symm⟩
theorem keys_perm {a b : List Tm} (h : a.Perm b) (k : a.Pairwise fun x y => ¬ Key x y) : b.Pairwise fun x y => ¬ Key x y :=
  h.pairwise k fun {x y} hxy => key_symm hxy
theorem drop_none {t : Tm} (l : List Tm) (hk : t.kind ≠ 0) : ∀ y ∈ dropT t.saga t.kind l, ¬ Key y t := by
  intro y hy e
  rcases leftB_iff.1 (List.mem_filter.1 hy).2 with h | h
  · exact h e.1
  · exact h.2 e.2
theorem set_fitT {l : List Tm} {t : Tm} (h : FitT l) (ht : oneT t = true) (hlen : (dropT t.saga t.kind l).length ≠ 64) : FitT (insT t (dropT t.saga t.kind l)) := by
  have hd := drop_fitT t.saga t.kind h
  have hp := ins_perm t (dropT t.saga t.kind l)
  have hk : t.kind ≠ 0 := by
    unfold oneT at ht
    simp only [Bool.and_eq_true, decide_eq_true_eq] at ht
    omega
  have hn := drop_none l hk
  refine ⟨?_, fun x hx => ?_, ins_upT hd.up hn, keys_perm hp.symm (List.pairwise_cons.2 ⟨fun y hy => key_symm (hn y hy), hd.keys⟩)⟩
  · rw [hp.length_eq, List.length_cons]; have := hd.len; omega
  · rcases List.mem_cons.1 (hp.mem_iff.1 hx) with rfl | hx
    · exact ht
    · exact hd.one x hx
/-- What runs beside: the timers in the order in which they were set. -/
theorem drop_perm {a b : List Tm} (g k : Int) (h : a.Perm b) : (dropT g k a).Perm (dropT g k b) := h.filter _
theorem set_perm {a b : List Tm} (t : Tm) (h : a.Perm b) : (insT t (dropT t.saga t.kind a)).Perm (dropT t.saga t.kind b ++ [t]) :=
  ((ins_perm t _).trans ((drop_perm t.saga t.kind h).cons t)).trans (List.perm_append_singleton _ _).symm
/-- The first of fit timers goes, the others stay as they stand. -/
theorem drop_first {t : Tm} {r : List Tm} (h : FitT (t :: r)) : dropT t.saga t.kind (t :: r) = r := by
  have hk := (List.pairwise_cons.1 h.keys).1
  have ht := h.one t List.mem_cons_self
  have hne : t.kind ≠ 0 := by
    unfold oneT at ht
    simp only [Bool.and_eq_true, decide_eq_true_eq] at ht
    omega
  unfold dropT
  rw [List.filter_cons, if_neg (by intro e; rcases leftB_iff.1 e with k | k <;> simp at k)]
  rw [List.filter_eq_self]
  intro y hy
  rw [leftB_iff]
  by_cases e : y.saga = t.saga
  · exact .inr ⟨hne, fun k => hk y hy ⟨e.symm, k.symm⟩⟩
  · exact .inl e
theorem first_ahead {t u : Tm} {r : List Tm} (h : FitT (t :: u :: r)) : Ahead t u := (List.pairwise_cons.1 h.up).1 u List.mem_cons_self
theorem one_at {t : Tm} (h : oneT t = true) : 0 ≤ t.at_ ∧ t.at_ ≤ 1099511627776 := by
  unfold oneT amtT at h
  simp only [Bool.and_eq_true, decide_eq_true_eq] at h
  exact h.1.1.1.1
end TimerP
end Go.Proofs.Ytcfjnpepbjaacaa
