/-
  Plain facts of def: what stands where in a fit definition; nothing of the program.
-/
import Derived.Test.YtdpgfnnhbfkacaaDoorDefPlain
set_option linter.unusedVariables false
namespace Go.Proofs.YtdpgfnnhbfkacaaDoor
namespace DefP
open StP (fitS FitS fitS_of suitS)

/-- Is there a step of this kind ahead of the i-th? -/
def seen (l : List Step) (op : Int) (i : Nat) : Bool := (l.take i).any fun x => x.op == op
theorem seen_zero (l : List Step) (op : Int) : seen l op 0 = false := by simp [seen]
theorem seen_step {l : List Step} {op : Int} {i : Nat} {x : Step} (h : l[i]? = some x) : seen l op (i + 1) = (seen l op i || (x.op == op)) := by
  have hk : i < l.length := (List.getElem?_eq_some_iff.1 h).1
  unfold seen
  rw [List.take_succ_eq_append_getElem hk, (List.getElem?_eq_some_iff.1 h).2]
  simp
theorem seen_of {l : List Step} {op : Int} {j i : Nat} {y : Step} (h : l[j]? = some y) (e : y.op = op) (hj : j < i) : seen l op i = true := by
  unfold seen
  rw [List.any_eq_true]
  refine ⟨y, List.mem_of_getElem? (i := j) ?_, by simp [e]⟩
  rw [List.getElem?_take, if_pos hj]; exact h
theorem seen_end {l : List Step} {op : Int} {i : Nat} (hi : l.length ≤ i) : seen l op i = decide (0 ≤ placeL l op) := by
  rcases placeL_cases op l with ⟨h1, h2⟩ | ⟨j, y, h1, h2, h3, _⟩
  · rw [h1]
    unfold seen
    rw [List.take_of_length_le hi]
    show _ = false
    rw [List.any_eq_false]
    intro x hx
    have := h2 x hx
    simpa using this
  · rw [h1, seen_of h2 h3 (by have := (List.getElem?_eq_some_iff.1 h2).1; omega), decide_eq_true (by omega)]
theorem seen_lt {l : List Step} {op : Int} {i : Nat} (h0 : 0 ≤ placeL l op) (h1 : placeL l op < (i : Int)) : seen l op i = true := by
  rcases placeL_cases op l with ⟨h, _⟩ | ⟨j, y, h, h2, h3, _⟩
  · omega
  · exact seen_of h2 h3 (by omega)
/-- In a fit definition a step's place is the first one of its kind. -/
theorem place_at {l : List Step} (h : FitL l) {i : Nat} {x : Step} (hx : l[i]? = some x) : placeL l x.op = (i : Int) := by
  rcases placeL_cases x.op l with ⟨_, hn⟩ | ⟨j, y, h1, h2, h3, h4⟩
  · exact absurd rfl (hn x (List.mem_of_getElem? hx))
  · rcases Nat.lt_trichotomy i j with hij | rfl | hij
    · exact absurd rfl (h4 i x hij hx)
    · exact h1
    · exact absurd h3 (h.once j i y x hij h2 hx)
theorem cls_range {l : List Step} (h : FitL l) {i : Nat} {x : Step} (hx : l[i]? = some x) : 1 ≤ x.cls ∧ x.cls ≤ 3 :=
  let f := fitS_of (h.fit x (List.mem_of_getElem? hx))
  ⟨f.cls0, f.cls1⟩
/-- Ahead of the pivot, and without one, all is Soft. -/
theorem ahead {l : List Step} (h : FitL l) {i : Nat} {x : Step} (hx : l[i]? = some x) (hp : pivL l < 0 ∨ (i : Int) < pivL l) : x.cls = 1 := by
  have hr := cls_range h hx
  rcases pivL_cases l with ⟨h1, h2⟩ | ⟨j, y, h1, h2, h3, h4⟩
  · have n2 := h2 x (List.mem_of_getElem? hx)
    have n3 : x.cls ≠ 3 := fun e => by
      obtain ⟨k, z, _, hz, hz2⟩ := h.firm i x hx e
      exact h2 z (List.mem_of_getElem? hz) hz2
    omega
  · have hij : i < j := by omega
    have hm := h.mono i j x y hij hx h2
    have n2 := h4 i x hij hx
    omega
/-- Behind the pivot all is Firm. -/
theorem behind {l : List Step} (h : FitL l) {i : Nat} {x : Step} (hx : l[i]? = some x) (h0 : 0 ≤ pivL l) (hp : pivL l < (i : Int)) : x.cls = 3 := by
  have hr := cls_range h hx
  rcases pivL_cases l with ⟨h1, h2⟩ | ⟨j, y, h1, h2, h3, h4⟩
  · omega
  · have hij : j < i := by omega
    have hm := h.mono j i y x hij h2 hx
    have n2 := h.piv1 j i y x hij h2 hx h3
    omega
theorem suit_of {x : Step} (h : fitS x = true) : suitS x = true := by
  unfold StP.fitS at h
  simp only [Bool.and_eq_true] at h
  exact h.2.2.2.2.2.2.2
theorem soft_ops {x : Step} (h : fitS x = true) (h1 : x.op = 1 ∨ x.op = 3) : x.cls = 1 := by
  have := suit_of h
  unfold suitS at this
  by_cases h3 : x.cls = 3 ∧ x.wait ≠ 0
  · rw [if_pos h3] at this; cases this
  · rw [if_neg h3, if_pos h1] at this; simpa using this
theorem send_op {x : Step} (h : fitS x = true) (h5 : x.op = 5) : x.cls ≠ 1 := by
  have := suit_of h
  unfold suitS at this
  by_cases h3 : x.cls = 3 ∧ x.wait ≠ 0
  · rw [if_pos h3] at this; cases this
  · rw [if_neg h3, if_neg (by omega), if_pos h5] at this; simpa using this
/-- Behind the pivot nothing holds or keeps. -/
theorem behind_ops {l : List Step} (h : FitL l) {i : Nat} {x : Step} (hx : l[i]? = some x) (h0 : 0 ≤ pivL l) (hp : pivL l < (i : Int)) : x.op ≠ 1 ∧ x.op ≠ 3 := by
  have hc := behind h hx h0 hp
  have hf := h.fit x (List.mem_of_getElem? hx)
  exact ⟨fun e => by have := soft_ops hf (.inl e); omega, fun e => by have := soft_ops hf (.inr e); omega⟩
theorem order_of {l : List Step} (h : orderL l = true) : ((placeL l 1 < 0 ∧ placeL l 3 < 0 ∧ placeL l 5 < 0) ∨ (0 ≤ placeL l 1 ∧ placeL l 1 < placeL l 3 ∧ placeL l 3 < placeL l 5)) ∧ (placeL l 6 < 0 ∨ (0 ≤ placeL l 2 ∧ placeL l 2 < placeL l 6)) := by
  unfold orderL at h
  simp only [Bool.and_eq_true, Bool.or_eq_true, decide_eq_true_eq, and_assoc] at h
  exact h
theorem keep_seen {l : List Step} (h : FitL l) {i : Nat} {x : Step} (hx : l[i]? = some x) (e : x.op = 3) : seen l 1 i = true := by
  have hp := place_at h hx
  rw [e] at hp
  have ho := (order_of h.order).1
  exact seen_lt (by omega) (by omega)
theorem send_seen {l : List Step} (h : FitL l) {i : Nat} {x : Step} (hx : l[i]? = some x) (e : x.op = 5) : seen l 3 i = true ∧ 0 ≤ pivL l ∧ pivL l ≤ (i : Int) := by
  have hp := place_at h hx
  rw [e] at hp
  have ho := (order_of h.order).1
  refine ⟨seen_lt (by omega) (by omega), ?_⟩
  have hn : ¬ (pivL l < 0 ∨ (i : Int) < pivL l) := fun hq => send_op (h.fit x (List.mem_of_getElem? hx)) e (ahead h hx hq)
  omega
theorem take_seen {l : List Step} (h : FitL l) {i : Nat} {x : Step} (hx : l[i]? = some x) (e : x.op = 6) : seen l 2 i = true := by
  have hp := place_at h hx
  rw [e] at hp
  have ho := (order_of h.order).2
  exact seen_lt (by omega) (by omega)
theorem all_seen {l : List Step} (h : FitL l) {i : Nat} (hi : l.length ≤ i) : seen l 1 i = seen l 5 i ∧ seen l 3 i = seen l 5 i := by
  have ho := (order_of h.order).1
  rw [seen_end hi, seen_end hi, seen_end hi]
  rcases ho with ⟨a, b, c⟩ | ⟨a, b, c⟩
  · rw [decide_eq_false (by omega), decide_eq_false (by omega), decide_eq_false (by omega)]; exact ⟨rfl, rfl⟩
  · rw [decide_eq_true (by omega), decide_eq_true (by omega), decide_eq_true (by omega)]; exact ⟨rfl, rfl⟩
end DefP
end Go.Proofs.YtdpgfnnhbfkacaaDoor
