/-
  The program's way of taking an envelope: bounds as it reads; what it tells is the document's (no program).
-/
import Derived.Test.YtamcidlkbhanfaaMsgPlain
set_option linter.unusedVariables false
namespace Go.Proofs.Ytamcidlkbhanfaa
namespace MsgP
open WireP (enc num nl ok rdInt rdFlag done)
open OutP (en0 serviceV)

theorem rdInt_in {lo hi n : Int} {st : Rd} {r : List UInt8} (h : wide st = (n, some r)) (h0 : lo ≤ n) (h1 : n ≤ hi) : rdInt lo hi st = (n, some r) := by
  cases st with
  | none => cases h
  | some l =>
    change ite _ _ _ = _ at h
    split at h
    case isTrue hc =>
      cases h
      show ite _ _ _ = _
      rw [if_pos ⟨hc.1, h0, h1⟩]
    case isFalse => cases h
theorem rdInt_out {lo hi n : Int} {st : Rd} {r : List UInt8} (h : wide st = (n, some r)) (h0 : ¬ (lo ≤ n ∧ n ≤ hi)) : rdInt lo hi st = (0, none) := by
  cases st with
  | none => cases h
  | some l =>
    change ite _ _ _ = _ at h
    split at h
    case isTrue hc =>
      cases h
      show ite _ _ _ = _
      rw [if_neg (fun g => h0 g.2)]
    case isFalse => cases h
theorem rdInt_bad {lo hi n : Int} {st : Rd} (h : wide st = (n, none)) : rdInt lo hi st = (0, none) := by
  cases st with
  | none => rfl
  | some l =>
    change ite _ _ _ = _ at h
    split at h
    case isTrue hc => cases h
    case isFalse hc =>
      show ite _ _ _ = _
      rw [if_neg]
      rintro ⟨g, _, _⟩
      exact hc ⟨g, WireP.num_bounds g⟩
def restV (n : Int) (c : Bool × Rd) : Ev × Rd :=
  if c.1 = true then (⟨n, true, serviceV (takeE c.2).op, takeE c.2, rp0⟩, (rdE c.2).2) else (⟨n, false, (takeR c.2).service, en0, takeR c.2⟩, (rdR c.2).2)
/-- What the program reads: the version and the number within their bounds. -/
def pV (s : List UInt8) : Ev × Rd := restV (rdInt 1 1099511627776 (rdInt 1 1 (some s)).2).1 (rdFlag (rdInt 1 1099511627776 (rdInt 1 1 (some s)).2).2)
def progV (s : List UInt8) : Option Ev := if done (pV s).2 = true ∧ fitV (pV s).1 = true then some (pV s).1 else none
theorem rest_none (n : Int) : restV n (rdFlag none) = (⟨n, false, 0, en0, rp0⟩, none) := rfl
theorem rest_num (n : Int) (c : Bool × Rd) : (restV n c).1.num = n := by unfold restV; split <;> rfl
theorem rdV_eq (s : List UInt8) : rdV s = ((wide (some s)).1, (restV (wide (wide (some s)).2).1 (rdFlag (wide (wide (some s)).2).2)).1, (restV (wide (wide (some s)).2).1 (rdFlag (wide (wide (some s)).2).2)).2) := by
  unfold rdV restV
  simp only
  split <;> rfl
theorem progV_eq (s : List UInt8) : progV s = takeV s := by
  unfold takeV
  rw [rdV_eq]
  simp only
  obtain ⟨v, s1, h1⟩ : ∃ v t, wide (some s) = (v, t) := ⟨_, _, rfl⟩
  obtain ⟨n, s2, h2⟩ : ∃ v t, wide s1 = (v, t) := ⟨_, _, rfl⟩
  rw [h1]
  simp only
  rw [h2]
  simp only
  have bad : (pV s).2 = none → progV s = none := by
    intro e
    unfold progV
    rw [if_neg]
    rintro ⟨h, _⟩
    rw [e] at h
    cases h
  cases s1 with
  | none =>
    rw [if_neg, bad]
    · unfold pV; rw [rdInt_bad h1]; rfl
    · rintro ⟨_, hd, _⟩
      have hs : s2 = none := by cases h2; rfl
      rw [hs, rest_none] at hd
      cases hd
  | some l1 =>
    by_cases hv : v = 1
    · subst hv
      have e1 := rdInt_in (lo := 1) (hi := 1) h1 (by decide) (by decide)
      cases s2 with
      | none =>
        rw [if_neg, bad]
        · unfold pV; rw [e1]; simp only; rw [rdInt_bad h2]; rfl
        · rintro ⟨_, hd, _⟩
          rw [rest_none] at hd
          cases hd
      | some l2 =>
        by_cases hn : 1 ≤ n ∧ n ≤ 1099511627776
        · have e2 := rdInt_in (lo := 1) (hi := 1099511627776) h2 hn.1 hn.2
          have e : pV s = restV n (rdFlag (some l2)) := by unfold pV; rw [e1]; simp only; rw [e2]
          unfold progV
          rw [e]
          simp only [true_and]
        · rw [if_neg, bad]
          · unfold pV; rw [e1]; simp only; rw [rdInt_out h2 hn]; rfl
          · rintro ⟨_, _, hf⟩
            have f := fitV_iff.1 hf
            have a := f.num0; have b := f.num1
            rw [rest_num] at a b
            exact hn ⟨a, b⟩
    · rw [if_neg (fun h => hv h.1), bad]
      unfold pV
      rw [rdInt_out h1 (by omega)]
      rfl
/-- What a call of Take answers. -/
def gotV (o : Option Ev) : Ev := o.getD ev0
def errV (o : Option Ev) : Int := if o.isSome then 0 else 7
end MsgP
end Go.Proofs.Ytamcidlkbhanfaa
