/-
  A law for a region that draws its order: operations that yield in whatever world first, then such as only read, then the rest in the one order that is left: any program.
-/
import Derived.StillTail
import Derived.StillTactics
set_option linter.unusedVariables false
namespace Go.Proofs.YtdpgfnnhbfkacaaGreatDoor
open Go
namespace Mix

section
variable {P : Program} {ops : Array Oper} {md : Region.Mode}

structure Inv (md : Region.Mode) (ops : Array Oper) (hd tl : List Nat) (listed : Array Bool) : Prop where
  size : listed.size = ops.size
  closed : ∀ j oj, ops[j]? = some oj → listed.getD j false = true → ∀ e ∈ oj.after, Region.binds md e = true → listed.getD e.on false = true
  tail : ∀ t ∈ tl, t < ops.size ∧ listed.getD t true = false
  rest : ∀ j, j < ops.size → j ∉ hd → j ∉ tl → listed.getD j true = true
  apart : ∀ i ∈ hd, i ∉ tl

theorem Inv.set {hd tl : List Nat} {i : Nat} {listed : Array Bool} (inv : Inv md ops hd tl listed) (hi : i ∈ Region.ready md ops listed) (hin : i ∈ hd) : Inv md ops hd tl (listed.setIfInBounds i true) := by
  obtain ⟨_, oi, hoi, hall⟩ := mem_ready.1 hi
  refine ⟨by simp [inv.size], fun j oj hj hl e he hb => ?_, fun t ht => ?_, fun j hj h1 h2 => ?_, inv.apart⟩
  · by_cases hij : i = j
    · subst hij
      have : oj = oi := Option.some.inj (hj.symm.trans hoi)
      subst this
      exact getD_set_true (hall e he hb)
    · rw [getD_set_ne false hij] at hl
      exact getD_set_true (inv.closed j oj hj hl e he hb)
  · have hne : i ≠ t := fun e => inv.apart i hin (e ▸ ht)
    rw [getD_set_ne true hne]
    exact inv.tail t ht
  · have hne : i ≠ j := fun e => h1 (e ▸ hin)
    rw [getD_set_ne true hne]
    exact inv.rest j hj h1 h2
def pick (l : List Oper) (ks : List Nat) : List Oper := ks.filterMap fun k => l[k]?
def seqV (md : Region.Mode) (ops : Array Oper) : List Nat → Array Bool → Bool
  | [], listed => (Region.ready md ops listed).isEmpty
  | k :: ks, listed => decide (Region.ready md ops listed = [k]) && decide (k < ops.size) && seqV md ops ks (listed.setIfInBounds k true)
theorem wpAny_of_seqV {l : List Oper} {Q' : Exit → Act → World → Prop} : ∀ (ks : List Nat) (listed : Array Bool) (a : Act) (w : World),
    seqV md l.toArray ks listed = true → wpList P l.toArray Q' (pick l ks) a w → wpAny P md l.toArray Q' ks.length listed a w
  | [], _, _, _, hB, h => ⟨by simpa [seqV] using hB, h⟩
  | k :: ks, listed, a, w, hB, h => by
    simp only [seqV, Bool.and_eq_true, decide_eq_true_eq] at hB
    obtain ⟨⟨hB1, hlt⟩, hB2⟩ := hB
    have hlt' : k < l.length := by simpa using hlt
    have h0 : l[k]? = some l[k] := List.getElem?_eq_getElem hlt'
    have h0' : l.toArray[k]? = some l[k] := by simp
    have hp : pick l (k :: ks) = l[k] :: pick l ks := by simp [pick, h0]
    rw [hp] at h
    refine ⟨fun h1 => (by rw [hB1] at h1; cases h1), fun i hi => ?_⟩
    rw [hB1] at hi
    have hik : i = k := by simpa using hi
    subst hik
    have hw : wpOp P l.toArray Q' i (wpList P l.toArray Q' (pick l ks)) a w := by unfold wpOp; simp only [h0']; exact h
    exact wpOp_mono (fun a' w' h' => wpAny_of_seqV ks _ a' w' hB2 h') hw
end
end Mix
end Go.Proofs.YtdpgfnnhbfkacaaGreatDoor
