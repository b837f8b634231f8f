/-
  Plain facts of outbox: fit entries, what is found, dropped, put, told since some number; lists and numbers alone, nothing of the program.
-/
import Derived.Test.YtamcidlkbhanfaaChecked
set_option linter.unusedVariables false
set_option maxRecDepth 4000
namespace Go.Proofs.Ytamcidlkbhanfaa
namespace OutP

/-- An entry. -/
structure En where
  id : Int
  saga : Int
  step : Int
  back : Bool
  op : Int
  sum : Int
  must : Bool
def en0 : En := ⟨0, 0, 0, false, 0, 0, false⟩
def serviceV (op : Int) : Int := if op = 2 ∨ op = 6 then 1 else if op = 4 then 2 else 0
def amtE (n : Int) : Bool := decide (0 ≤ n) && decide (n ≤ 1099511627776)
def oneE (x : En) : Bool := decide (1 ≤ x.id) && (decide (x.id ≤ 1099511627776) && (decide (1 ≤ x.saga) && (decide (x.saga ≤ 1099511627776) && (decide (0 ≤ x.step) && (decide (x.step < 6) && (decide (serviceV x.op ≠ 0) && amtE x.sum))))))
structure FitE (l : List En) : Prop where
  len : l.length ≤ 16
  one : ∀ t ∈ l, oneE t = true
  up : l.Pairwise fun a b => a.id < b.id
  keys : l.Pairwise fun a b => a.saga ≠ b.saga
def lastOk (p : List En) (t : En) : Bool := match p.getLast? with
  | none => true
  | some x => decide (x.id < t.id)
def okE (p : List En) (t : En) : Bool := oneE t && (lastOk p t && p.all fun x => !(x.saga == t.saga))
def fitUp : List En → List En → Bool
  | p, [] => true
  | p, t :: r => okE p t && fitUp (p ++ [t]) r
def fitB (l : List En) : Bool := decide (l.length ≤ 16) && fitUp [] l
theorem last_all {p : List En} {t : En} (h : p.Pairwise fun a b => a.id < b.id) (hl : lastOk p t = true) : ∀ x ∈ p, x.id < t.id := by
  intro x hx
  rcases List.eq_nil_or_concat p with rfl | ⟨q, y, hq⟩
  · cases hx
  · rw [List.concat_eq_append] at hq
    subst hq
    unfold lastOk at hl
    rw [List.getLast?_concat] at hl
    have hy := of_decide_eq_true hl
    rcases List.mem_append.1 hx with hx | hx
    · exact Int.lt_trans ((List.pairwise_append.1 h).2.2 x hx y (List.mem_singleton.2 rfl)) hy
    · rw [List.mem_singleton.1 hx]; exact hy
theorem last_of {p : List En} {t : En} (h : ∀ x ∈ p, x.id < t.id) : lastOk p t = true := by
  unfold lastOk
  cases e : p.getLast? with
  | none => rfl
  | some x => exact decide_eq_true (h x (List.mem_of_getLast? e))
theorem fitUp_iff : ∀ {l p : List En}, (p.Pairwise fun a b => a.id < b.id) → (p.Pairwise fun a b => a.saga ≠ b.saga) →
    (fitUp p l = true ↔ ((p ++ l).Pairwise (fun a b => a.id < b.id) ∧ (p ++ l).Pairwise (fun a b => a.saga ≠ b.saga) ∧ ∀ t ∈ l, oneE t = true))
  | [], p, h1, h2 => by
    rw [fitUp, List.append_nil]
    exact ⟨fun _ => ⟨h1, h2, fun t ht => by cases ht⟩, fun _ => rfl⟩
  | t :: r, p, h1, h2 => by
    rw [fitUp, Bool.and_eq_true]
    have e : p ++ t :: r = (p ++ [t]) ++ r := by simp
    unfold okE
    rw [Bool.and_eq_true, Bool.and_eq_true, List.all_eq_true]
    constructor
    · rintro ⟨⟨a1, a2, a3⟩, a4⟩
      have ha := last_all h1 a2
      have q1 : (p ++ [t]).Pairwise (fun a b => a.id < b.id) := List.pairwise_append.2 ⟨h1, List.pairwise_singleton _ _, fun x hx y hy => by rw [List.mem_singleton.1 hy]; exact ha x hx⟩
      have q2 : (p ++ [t]).Pairwise (fun a b => a.saga ≠ b.saga) := List.pairwise_append.2 ⟨h2, List.pairwise_singleton _ _, fun x hx y hy hk => by
        rw [List.mem_singleton.1 hy] at hk
        have := a3 x hx
        rw [hk] at this
        simp at this⟩
      obtain ⟨b1, b2, b3⟩ := (fitUp_iff q1 q2).1 a4
      rw [e]
      exact ⟨b1, b2, fun y hy => by
        rcases List.mem_cons.1 hy with rfl | hy
        · exact a1
        · exact b3 y hy⟩
    · rw [e]
      rintro ⟨b1, b2, b3⟩
      have q1 := (List.pairwise_append.1 b1).1
      have q2 := (List.pairwise_append.1 b2).1
      refine ⟨⟨b3 t List.mem_cons_self, last_of fun x hx => (List.pairwise_append.1 q1).2.2 x hx t (List.mem_singleton.2 rfl), fun x hx => ?_⟩, (fitUp_iff q1 q2).2 ⟨b1, b2, fun y hy => b3 y (List.mem_cons_of_mem _ hy)⟩⟩
      have := (List.pairwise_append.1 q2).2.2 x hx t (List.mem_singleton.2 rfl)
      rw [Bool.not_eq_true', beq_eq_false_iff_ne]
      exact this
theorem fitB_iff {l : List En} : fitB l = true ↔ FitE l := by
  unfold fitB
  rw [Bool.and_eq_true, decide_eq_true_eq, fitUp_iff List.Pairwise.nil List.Pairwise.nil, List.nil_append]
  exact ⟨fun ⟨a, b, c, d⟩ => ⟨a, d, b, c⟩, fun h => ⟨h.len, h.up, h.keys, h.one⟩⟩
theorem fitUp_step {l : List En} {i : Nat} (hi : i < l.length) : fitUp (l.take i) (l.drop i) = (okE (l.take i) l[i] && fitUp (l.take (i + 1)) (l.drop (i + 1))) := by
  rw [List.drop_eq_getElem_cons hi, fitUp, List.take_succ_eq_append_getElem hi]
theorem fitUp_end (l : List En) : fitUp (l.take l.length) (l.drop l.length) = true := by rw [List.drop_length]; rfl
theorem lastOk_at {l : List En} {i : Nat} (hi : i < l.length) (h0 : 0 < i) : lastOk (l.take i) l[i] = decide ((l[i - 1]'(by omega)).id < l[i].id) := by
  unfold lastOk
  have : (l.take i).getLast? = some (l[i - 1]'(by omega)) := by
    rw [List.getLast?_eq_getElem?, List.length_take, Nat.min_eq_left (Nat.le_of_lt hi), List.getElem?_take_of_lt (by omega), List.getElem?_eq_getElem (by omega)]
  rw [this]
def findE (g : Int) : List En → Option En
  | [] => none
  | t :: r => if t.saga = g then some t else findE g r
theorem findE_mem : ∀ {g : Int} {l : List En} {t : En}, findE g l = some t → t ∈ l ∧ t.saga = g
  | g, y :: r, t, h => by
    rw [findE] at h
    split at h
    · rename_i e; cases h; exact ⟨List.mem_cons_self, e⟩
    · have := findE_mem h; exact ⟨List.mem_cons_of_mem _ this.1, this.2⟩
theorem findE_at : ∀ {l : List En} {t : En}, l.Pairwise (fun a b => a.saga ≠ b.saga) → t ∈ l → findE t.saga l = some t
  | y :: r, t, hp, ht => by
    have hp2 := List.pairwise_cons.1 hp
    rw [findE]
    rcases List.mem_cons.1 ht with rfl | ht
    · rw [if_pos rfl]
    · rw [if_neg (hp2.1 t ht)]
      exact findE_at hp2.2 ht
def dropE (g : Int) (l : List En) : List En := l.filter fun x => !(x.saga == g)
def sinceE (c : Int) (l : List En) : List En := l.filter fun x => decide (c < x.id)
theorem drop_fit {l : List En} (g : Int) (h : FitE l) : FitE (dropE g l) :=
  ⟨Nat.le_trans (List.length_filter_le _ _) h.len, fun t ht => h.one t (List.mem_filter.1 ht).1, h.up.sublist List.filter_sublist, h.keys.sublist List.filter_sublist⟩
/-- Putting one, or why not. -/
def putE (l : List En) (x : En) : List En × Int :=
  if fitB l = true then
    if oneE x = true then
      if lastOk l x = true then
        if (dropE x.saga l).length = 16 then ([], 4) else (dropE x.saga l ++ [x], 0)
      else ([], 16)
    else ([], 1)
  else ([], 12)
theorem drop_none {g : Int} {l : List En} : ∀ y ∈ dropE g l, y.saga ≠ g := by
  intro y hy e
  have := (List.mem_filter.1 hy).2
  rw [e] at this
  simp at this
theorem put_fit {l : List En} {x : En} (h : FitE l) (hx : oneE x = true) (hl : lastOk l x = true) (hn : (dropE x.saga l).length ≠ 16) : FitE (dropE x.saga l ++ [x]) := by
  have hd := drop_fit x.saga h
  refine ⟨?_, fun t ht => ?_, List.pairwise_append.2 ⟨hd.up, List.pairwise_singleton _ _, fun a ha b hb => ?_⟩, List.pairwise_append.2 ⟨hd.keys, List.pairwise_singleton _ _, fun a ha b hb => ?_⟩⟩
  · rw [List.length_append]; have := hd.len; simp; omega
  · rcases List.mem_append.1 ht with ht | ht
    · exact hd.one t ht
    · rw [List.mem_singleton.1 ht]; exact hx
  · rw [List.mem_singleton.1 hb]
    exact last_all h.up hl a (List.mem_filter.1 ha).1
  · rw [List.mem_singleton.1 hb]
    exact drop_none a ha
theorem put_find {l : List En} {x : En} (h : FitE (dropE x.saga l ++ [x])) : findE x.saga (dropE x.saga l ++ [x]) = some x :=
  findE_at h.keys (List.mem_append_right _ (List.mem_singleton.2 rfl))
/-- Two entries beside one another. -/
def eqE (a b : En) : Bool := (a.id == b.id) && ((a.saga == b.saga) && ((a.step == b.step) && ((a.back == b.back) && ((a.op == b.op) && ((a.sum == b.sum) && (a.must == b.must))))))
theorem eqE_iff {a b : En} : eqE a b = true ↔ a = b := by
  unfold eqE
  simp only [Bool.and_eq_true, beq_iff_eq]
  constructor
  · rintro ⟨h1, h2, h3, h4, h5, h6, h7⟩
    cases a; cases b
    simp only at h1 h2 h3 h4 h5 h6 h7
    subst h1 h2 h3 h4 h5 h6 h7
    rfl
  · rintro rfl; exact ⟨rfl, rfl, rfl, rfl, rfl, rfl, rfl⟩
def eqEs : List En → List En → Bool
  | [], [] => true
  | a :: r, b :: q => eqE a b && eqEs r q
  | _, _ => false
theorem eqEs_iff : ∀ {a b : List En}, eqEs a b = true ↔ a = b
  | [], [] => by simp [eqEs]
  | [], b :: q => by simp [eqEs]
  | a :: r, [] => by simp [eqEs]
  | a :: r, b :: q => by rw [eqEs, Bool.and_eq_true, eqE_iff, eqEs_iff, List.cons.injEq]
end OutP
end Go.Proofs.Ytamcidlkbhanfaa
