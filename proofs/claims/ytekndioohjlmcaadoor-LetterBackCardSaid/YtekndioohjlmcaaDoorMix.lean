/-
  A law for a region that draws its order: operations that yield in whatever world first, then such as only read, then the rest in the one order that is left: any program.
-/
import Derived.StillTail
import Derived.StillTactics
set_option linter.unusedVariables false
namespace Go.Proofs.YtekndioohjlmcaaDoor
open Go
namespace Mix

section
variable {P : Program} {ops : Array Oper} {md : Region.Mode}

def wpFree (P : Program) (ops : Array Oper) (Q : Act → Prop) : List Oper → Act → Prop
  | [], a => Q a
  | o :: r, a => ∃ v, Yields P ops o v a ∧ wpFree P ops Q r (a.put o.dst v)
theorem wpFree_nil {Q : Act → Prop} {a : Act} (h : Q a) : wpFree P ops Q [] a := h
theorem wpFree_step {Q : Act → Prop} {a : Act} {o : Oper} {r : List Oper} (v : Value) (hw : Region.wanted o (yielded ops a.tmps) = true) (hv : ∀ w, (execOp a.eval o).run P w = .ok (.value v) w) (h : wpFree P ops Q r (a.put o.dst v)) : wpFree P ops Q (o :: r) a := ⟨v, .inl ⟨hw, hv⟩, h⟩

/-- Each of the head is waited for by a later one of the head, or by the tail's first. -/
def hdB (md : Region.Mode) (ops : Array Oper) (hd : List Nat) (t0 : Nat) : Bool := hd.all fun i => (t0 :: hd).any fun j => decide (i < j) && Region.waitsFor md ops j i
/-- Each of the tail but its first waits for one of the tail. -/
def tlB (md : Region.Mode) (ops : Array Oper) (tl : List Nat) (t0 : Nat) : Bool := tl.all fun t => t == t0 || tl.any fun s => Region.waitsFor md ops t s

structure Inv (md : Region.Mode) (ops : Array Oper) (hd tl : List Nat) (listed : Array Bool) : Prop where
  size : listed.size = ops.size
  closed : ∀ j oj, ops[j]? = some oj → listed.getD j false = true → ∀ e ∈ oj.after, Region.binds md e = true → listed.getD e.on false = true
  tail : ∀ t ∈ tl, t < ops.size ∧ listed.getD t true = false
  rest : ∀ j, j < ops.size → j ∉ hd → j ∉ tl → listed.getD j true = true
  apart : ∀ i ∈ hd, i ∉ tl

theorem Inv.set {hd tl : List Nat} {i : Nat} {listed : Array Bool} (inv : Inv md ops hd tl listed) (hi : i ∈ Region.ready md ops listed) (hin : i ∈ hd) : Inv md ops hd tl (listed.setIfInBounds i true) := by
  obtain ⟨_, oi, hoi, hall⟩ := mem_ready.1 hi
  refine ⟨by simp [inv.size], fun j oj hj hl e he hb => ?_, fun t ht => ?_, fun j hj h1 h2 => ?_, inv.apart⟩
  · by_cases hij : i = j
    · subst hij
      have : oj = oi := Option.some.inj (hj.symm.trans hoi)
      subst this
      exact getD_set_true (hall e he hb)
    · rw [getD_set_ne false hij] at hl
      exact getD_set_true (inv.closed j oj hj hl e he hb)
  · have hne : i ≠ t := fun e => inv.apart i hin (e ▸ ht)
    rw [getD_set_ne true hne]
    exact inv.tail t ht
  · have hne : i ≠ j := fun e => h1 (e ▸ hin)
    rw [getD_set_ne true hne]
    exact inv.rest j hj h1 h2
theorem tail_waits {hd tl : List Nat} {t0 : Nat} {listed : Array Bool} (hs : hdB md ops hd t0 = true) (hc : tlB md ops tl t0 = true) (ht0 : t0 ∈ tl) (inv : Inv md ops hd tl listed) :
    ∀ (d i : Nat), ops.size - i = d → i ∈ hd → listed.getD i true = false → ∀ t ∈ tl, t ∉ Region.ready md ops listed := by
  intro d
  induction d using Nat.strongRecOn with
  | _ d ih =>
    intro i hd' hi hun t ht hr
    obtain ⟨_, ot, hot, hall⟩ := mem_ready.1 hr
    by_cases htn : t = t0
    · subst htn
      have h1 := List.all_eq_true.1 hs i hi
      obtain ⟨j, hj, hj2⟩ := List.any_eq_true.1 h1
      simp only [Bool.and_eq_true, decide_eq_true_eq] at hj2
      obtain ⟨oj, hoj, e, he, hb, hon⟩ := Region.waitsFor_spec hj2.2
      have hjlt : j < ops.size := (Array.getElem?_eq_some_iff.1 hoj).1
      rcases List.mem_cons.1 hj with rfl | hj
      · have : oj = ot := Option.some.inj (hoj.symm.trans hot)
        subst this
        have h2 := hall e he hb
        rw [hon, getD_both hun] at h2
        cases h2
      · cases hl : listed.getD j false with
        | true =>
          have h2 := inv.closed j oj hoj hl e he hb
          rw [hon, getD_both hun] at h2
          cases h2
        | false => exact ih (ops.size - j) (by omega) j rfl hj (getD_in (by rw [inv.size]; exact hjlt) hl) t ht hr
    · have h1 := List.all_eq_true.1 hc t ht
      simp only [Bool.or_eq_true, beq_iff_eq] at h1
      rcases h1 with h1 | h1
      · exact htn h1
      · obtain ⟨s, hs2, hw⟩ := List.any_eq_true.1 h1
        obtain ⟨o', ho', e, he, hb, hon⟩ := Region.waitsFor_spec hw
        have : o' = ot := Option.some.inj (ho'.symm.trans hot)
        subst this
        have h2 := hall e he hb
        rw [hon, getD_both (inv.tail s hs2).2] at h2
        cases h2

def wpAnyV (P : Program) (md : Region.Mode) (ops : Array Oper) (w : World) (hd : List Nat) (L : Array Bool → Act → Prop) : Nat → Array Bool → Act → Prop
  | 0, listed, a => L listed a
  | f + 1, listed, a => Region.ready md ops listed ≠ [] ∧ ∀ i ∈ Region.ready md ops listed, i ∈ hd ∧ stOp P ops w i (wpAnyV P md ops w hd L f (listed.setIfInBounds i true)) a
theorem wpAny_of_headV {w : World} {hd : List Nat} {g : Nat} {L : Array Bool → Act → Prop} {Q' : Exit → Act → World → Prop} (hL : ∀ listed a, L listed a → wpAny P md ops Q' g listed a w) :
    ∀ (f : Nat) (listed : Array Bool) (a : Act), wpAnyV P md ops w hd L f listed a → wpAny P md ops Q' (f + g) listed a w
  | 0, listed, a, h => by rw [Nat.zero_add]; exact hL _ _ h
  | f + 1, listed, a, h => by
    rw [show f + 1 + g = (f + g) + 1 by omega]
    exact ⟨fun h0 => absurd h0 h.1, fun i hi => wpOp_of_stOp (fun a' h' => wpAny_of_headV hL f _ a' h') (h.2 i hi).2⟩
theorem ready_hd {hd tl : List Nat} {t0 i j : Nat} {listed : Array Bool} (hs : hdB md ops hd t0 = true) (hc : tlB md ops tl t0 = true) (ht0 : t0 ∈ tl) (inv : Inv md ops hd tl listed)
    (hin : i ∈ hd) (hun : listed.getD i true = false) (hj : j ∈ Region.ready md ops listed) : j ∈ hd := by
  apply Classical.byContradiction
  intro hn
  by_cases ht : j ∈ tl
  · exact tail_waits hs hc ht0 inv _ i rfl hin hun j ht hj
  · obtain ⟨hjun, oj, hoj, _⟩ := mem_ready.1 hj
    rw [inv.rest j (Array.getElem?_eq_some_iff.1 hoj).1 hn ht] at hjun
    cases hjun
theorem wpAnyV_first {w : World} {hd tl : List Nat} {t0 i : Nat} {oi : Oper} {v : Value} {L : Array Bool → Act → Prop} (hi : ops[i]? = some oi) (hsel : ∀ (j : Nat) (o : Oper) cs b, ops[j]? = some o → o.op ≠ .select cs b)
    (hs : hdB md ops hd t0 = true) (hc : tlB md ops tl t0 = true) (ht0 : t0 ∈ tl) (hin : i ∈ hd)
    (hdone : ∀ listed a, L listed a → ∀ j ∈ Region.ready md ops listed, j ∈ tl) :
    ∀ (f : Nat) (listed : Array Bool) (a : Act), Inv md ops hd tl listed →
      (∀ j oj, ops[j]? = some oj → j ≠ i → listed.getD j true = false → (∀ e ∈ oj.after, Region.binds md e = true → e.on ≠ i) → oi.apart ops oj = true) →
      i ∈ Region.ready md ops listed → YieldsAt P ops w oi v a →
      wpAnyV P md ops w hd L f (listed.setIfInBounds i true) (a.put oi.dst v) → wpAnyV P md ops w hd L (f + 1) listed a := by
  intro f
  induction f with
  | zero =>
    intro listed a inv _ hr hy H
    have hun := (mem_ready.1 hr).1
    refine ⟨fun h => (by rw [h] at hr; cases hr), fun j hj => ?_⟩
    have hjn : j ∈ hd := ready_hd hs hc ht0 inv hin hun hj
    refine ⟨hjn, ?_⟩
    by_cases hji : j = i
    · subst hji; exact hy.stOp hi H
    · exact absurd (hdone _ _ H j (ready_mono hj hji)) (inv.apart j hjn)
  | succ f ih =>
    intro listed a inv hfree hr hy H
    have hun := (mem_ready.1 hr).1
    refine ⟨fun h => (by rw [h] at hr; cases hr), fun j hj => ?_⟩
    have hjn : j ∈ hd := ready_hd hs hc ht0 inv hin hun hj
    refine ⟨hjn, ?_⟩
    by_cases hji : j = i
    · subst hji; exact hy.stOp hi H
    · have h1 := (H.2 j (ready_mono hj hji)).2
      obtain ⟨hjun, oj, hoj, hall⟩ := mem_ready.1 hj
      have hnot : ∀ e ∈ oj.after, Region.binds md e = true → e.on ≠ i := fun e he hb heq => by
        have h1 := hall e he hb
        rw [heq, getD_both hun] at h1
        cases h1
      have h2 := stOp_put hoj (hfree j oj hoj hji hjun hnot) (fun cs b => hsel i oi cs b hi) (fun cs b => hsel j oj cs b hoj) hy h1
      have hfree' : ∀ k ok, ops[k]? = some ok → k ≠ i → (listed.setIfInBounds j true).getD k true = false →
          (∀ e ∈ ok.after, Region.binds md e = true → e.on ≠ i) → oi.apart ops ok = true := fun k ok hk hki hun hno => by
        refine hfree k ok hk hki ?_ hno
        by_cases hjk : j = k
        · subst hjk; exact hjun
        · rw [getD_set_ne true hjk] at hun; exact hun
      refine stOp_mono (fun a' h3 => ih (listed.setIfInBounds j true) a' (inv.set hj hjn) hfree' (ready_mono hr (Ne.symm hji)) h3.1 ?_) h2
      rw [Array.setIfInBounds_comm _ _ hji]
      exact h3.2

def pick (l : List Oper) (ks : List Nat) : List Oper := ks.filterMap fun k => l[k]?
def seqV (md : Region.Mode) (ops : Array Oper) : List Nat → Array Bool → Bool
  | [], listed => (Region.ready md ops listed).isEmpty
  | k :: ks, listed => decide (Region.ready md ops listed = [k]) && decide (k < ops.size) && seqV md ops ks (listed.setIfInBounds k true)
theorem wpAny_of_seqV {l : List Oper} {Q' : Exit → Act → World → Prop} : ∀ (ks : List Nat) (listed : Array Bool) (a : Act) (w : World),
    seqV md l.toArray ks listed = true → wpList P l.toArray Q' (pick l ks) a w → wpAny P md l.toArray Q' ks.length listed a w
  | [], _, _, _, hB, h => ⟨by simpa [seqV] using hB, h⟩
  | k :: ks, listed, a, w, hB, h => by
    simp only [seqV, Bool.and_eq_true, decide_eq_true_eq] at hB
    obtain ⟨⟨hB1, hlt⟩, hB2⟩ := hB
    have hlt' : k < l.length := by simpa using hlt
    have h0 : l[k]? = some l[k] := List.getElem?_eq_getElem hlt'
    have h0' : l.toArray[k]? = some l[k] := by simp
    have hp : pick l (k :: ks) = l[k] :: pick l ks := by simp [pick, h0]
    rw [hp] at h
    refine ⟨fun h1 => (by rw [hB1] at h1; cases h1), fun i hi => ?_⟩
    rw [hB1] at hi
    have hik : i = k := by simpa using hi
    subst hik
    have hw : wpOp P l.toArray Q' i (wpList P l.toArray Q' (pick l ks)) a w := by unfold wpOp; simp only [h0']; exact h
    exact wpOp_mono (fun a' w' h' => wpAny_of_seqV ks _ a' w' hB2 h') hw
theorem seqV_ready {tl : List Nat} {listed : Array Bool} (h : seqV md ops tl listed = true) : ∀ j ∈ Region.ready md ops listed, j ∈ tl := by
  cases tl with
  | nil => intro j hj; simp only [seqV, List.isEmpty_iff] at h; rw [h] at hj; cases hj
  | cons k ks =>
    intro j hj
    simp only [seqV, Bool.and_eq_true, decide_eq_true_eq] at h
    rw [h.1.1] at hj
    have : j = k := by simpa using hj
    simp [this]
def lexV (md : Region.Mode) (ops : Array Oper) (tl : List Nat) : List Nat → Array Bool → Bool
  | [], listed => seqV md ops tl listed
  | k :: ks, listed => (Region.ready md ops listed).contains k && Region.free md ops listed k && decide (k < ops.size) && lexV md ops tl ks (listed.setIfInBounds k true)
theorem wpAnyV_lex {l : List Oper} {w : World} {hd tl : List Nat} {t0 : Nat} {Lq : Act → Prop} (hsel : Region.noSelect l.toArray = true) (hs : hdB md l.toArray hd t0 = true) (hc : tlB md l.toArray tl t0 = true) (ht0 : t0 ∈ tl) :
    ∀ (ks : List Nat) (listed : Array Bool) (a : Act), (∀ k ∈ ks, k ∈ hd) → Inv md l.toArray hd tl listed → lexV md l.toArray tl ks listed = true → wpStill P l.toArray w Lq (pick l ks) a →
    wpAnyV P md l.toArray w hd (fun listed' a' => seqV md l.toArray tl listed' = true ∧ Lq a') ks.length listed a
  | [], listed, a, _, inv, hB, h => ⟨by simpa [lexV] using hB, h⟩
  | k :: ks, listed, a, hks, inv, hB, h => by
    simp only [lexV, Bool.and_eq_true, decide_eq_true_eq] at hB
    obtain ⟨⟨⟨hr, hf⟩, hlt⟩, hB'⟩ := hB
    have hlt' : k < l.length := by simpa using hlt
    have h0 : l[k]? = some l[k] := List.getElem?_eq_getElem hlt'
    have h0' : l.toArray[k]? = some l[k] := by simp
    have hp : pick l (k :: ks) = l[k] :: pick l ks := by simp [pick, h0]
    rw [hp] at h
    have hr' : k ∈ Region.ready md l.toArray listed := by simpa using hr
    have hst : stOp P l.toArray w k (wpStill P l.toArray w Lq (pick l ks)) a := by unfold stOp; simp only [h0']; exact h
    obtain ⟨v, hy, hK⟩ := yieldsAt_of_stOp h0' hst
    have hkh := hks k (by simp)
    exact wpAnyV_first h0' (Region.noSelect_spec hsel) hs hc ht0 hkh (fun listed' a' hL => seqV_ready hL.1) ks.length listed a inv (Region.free_spec h0' hf) hr' hy
      (wpAnyV_lex hsel hs hc ht0 ks _ _ (fun j hj => hks j (List.mem_cons_of_mem _ hj)) (inv.set hr' hkh) hB' hK)
def closedB (md : Region.Mode) (ops : Array Oper) (listed : Array Bool) : Bool :=
  (List.range ops.size).all fun j => !listed.getD j false || ((ops[j]?).map fun o => o.after.all fun e => !Region.binds md e || listed.getD e.on false).getD true
def invB (md : Region.Mode) (ops : Array Oper) (hd tl : List Nat) (listed : Array Bool) : Bool :=
  decide (listed.size = ops.size) && closedB md ops listed && (tl.all fun t => decide (t < ops.size) && !listed.getD t true) &&
  ((List.range ops.size).all fun j => hd.contains j || tl.contains j || listed.getD j true) && (hd.all fun i => !tl.contains i)
theorem inv_of {hd tl : List Nat} {listed : Array Bool} (h : invB md ops hd tl listed = true) : Inv md ops hd tl listed := by
  simp only [invB, Bool.and_eq_true, decide_eq_true_eq, List.all_eq_true] at h
  obtain ⟨⟨⟨⟨h1, h2⟩, h3⟩, h4⟩, h5⟩ := h
  refine ⟨h1, fun j oj hj hl e he hb => ?_, fun t ht => ?_, fun j hj hn1 hn2 => ?_, fun i hi ht => ?_⟩
  · unfold closedB at h2
    have h := List.all_eq_true.1 h2 j (List.mem_range.2 (Array.getElem?_eq_some_iff.1 hj).1)
    rw [hl, hj] at h
    simp only [Bool.not_true, Bool.false_or, Option.map_some, Option.getD_some, Array.all_eq_true_iff_forall_mem, Bool.or_eq_true, Bool.not_eq_true'] at h
    rcases h e he with h | h
    · rw [hb] at h; cases h
    · exact h
  · have h := h3 t ht
    simp only [Bool.not_eq_true'] at h
    exact h
  · have h := h4 j (List.mem_range.2 hj)
    simp only [Bool.or_eq_true] at h
    rcases h with (h | h) | h
    · exact absurd (by simpa using h) hn1
    · exact absurd (by simpa using h) hn2
    · exact h
  · have h := h5 i hi
    simp only [Bool.not_eq_true'] at h
    rw [List.contains_iff_mem.2 ht] at h
    cases h
def freeV (md : Region.Mode) (ops : Array Oper) (hd tl : List Nat) : List Nat → Array Bool → Bool
  | [], listed => invB md ops hd tl listed && lexV md ops tl hd listed
  | k :: ks, listed => (Region.ready md ops listed).contains k && Region.free md ops listed k && decide (k < ops.size) && freeV md ops hd tl ks (listed.setIfInBounds k true)
def checkB (ops : Array Oper) (ws hd tl : List Nat) (t0 : Nat) : Bool :=
  Region.noSelect ops && hdB .any ops hd t0 && tlB .any ops tl t0 && tl.contains t0 && decide (ws.length + (hd.length + tl.length) = ops.size) && freeV .any ops hd tl ws (Array.replicate ops.size false)
theorem wpAny_free {l : List Oper} {w : World} {hd tl : List Nat} {t0 : Nat} {Q : Exit → Act → World → Prop} (hsel : Region.noSelect l.toArray = true) (hs : hdB .any l.toArray hd t0 = true) (hc : tlB .any l.toArray tl t0 = true) (ht0 : t0 ∈ tl)
    (hQ : ∀ c a d v w, Q (.panic c) (a.put d v) w → Q (.panic c) a w) :
    ∀ (ws : List Nat) (listed : Array Bool) (a : Act), freeV .any l.toArray hd tl ws listed = true →
    wpFree P l.toArray (fun a1 => wpStill P l.toArray w (fun a2 => wpList P l.toArray Q (pick l tl) a2 w) (pick l hd) a1) (pick l ws) a →
    wpAny P .any l.toArray Q (ws.length + (hd.length + tl.length)) listed a w
  | [], listed, a, hB, h => by
    simp only [freeV, Bool.and_eq_true] at hB
    have H := wpAnyV_lex (md := .any) hsel hs hc ht0 hd listed a (fun _ h => h) (inv_of hB.1) hB.2 h
    have := wpAny_of_headV (Q' := Q) (g := tl.length) (fun listed a' hL => wpAny_of_seqV tl listed a' w hL.1 hL.2) _ _ _ H
    simpa using this
  | k :: ks, listed, a, hB, h => by
    simp only [freeV, Bool.and_eq_true, decide_eq_true_eq] at hB
    obtain ⟨⟨⟨hr, hf⟩, hlt⟩, hB'⟩ := hB
    have hlt' : k < l.length := by simpa using hlt
    have h0 : l[k]? = some l[k] := List.getElem?_eq_getElem hlt'
    have h0' : l.toArray[k]? = some l[k] := by simp
    have hp : pick l (k :: ks) = l[k] :: pick l ks := by simp [pick, h0]
    rw [hp] at h
    obtain ⟨v, hy, h⟩ := h
    rw [show (k :: ks).length + (hd.length + tl.length) = (ks.length + (hd.length + tl.length)) + 1 by simp; omega]
    exact wpAny_take h0' hsel hf hr (fun c a w hh => hQ c a _ _ w hh) hy (wpAny_free hsel hs hc ht0 hQ ks _ _ hB' h)
/-- The law: ws yield in whatever world; hd only read; tl, of which t0 is the first, is what is left, in its order. -/
theorem wp_region_mix {id : Nat} {l : List Oper} {Q : Exit → Act → World → Prop} {a : Act} {w : World} (ws hd tl : List Nat) (t0 : Nat) (hm : P.follows .mixedOrders = true) (hB : checkB l.toArray ws hd tl t0 = true)
    (hQ : ∀ c a d v w, Q (.panic c) (a.put d v) w → Q (.panic c) a w)
    (h : wpFree P l.toArray (fun a1 => wpStill P l.toArray w.drew (fun a2 => wpList P l.toArray Q (pick l tl) a2 w.drew) (pick l hd) a1) (pick l ws) a) : (Code.region id l.toArray true).wp P Q a w := by
  simp only [checkB, Bool.and_eq_true, decide_eq_true_eq] at hB
  obtain ⟨⟨⟨⟨⟨hsel, hs⟩, hc⟩, ht0⟩, hsz⟩, hfree⟩ := hB
  refine wp_region_any hm ?_
  rw [← hsz]
  exact wpAny_free hsel hs hc (by simpa using ht0) hQ ws _ a (by rw [hsz]; exact hfree) h
end
end Mix
end Go.Proofs.YtekndioohjlmcaaDoor
