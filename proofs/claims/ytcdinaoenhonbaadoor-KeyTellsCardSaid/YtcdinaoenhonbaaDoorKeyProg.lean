/-
  The program's way to read a key is the document's: the last octet cut off, the rest cut at its first dot, both parts numbers; octets and numbers alone, nothing of the program.
-/
import Derived.Test.YtcdinaoenhonbaaDoorKeyPlain
set_option linter.unusedVariables false
namespace Go.Proofs.YtcdinaoenhonbaaDoor
open NumP
namespace KeyP
open StP (parts cutAt)

theorem strip_lib (s : List UInt8) : stripK s = (Lib.hasSuffix s [45], Lib.trimSuffix s [45]) := by
  unfold stripK Lib.trimSuffix Lib.hasSuffix
  have hs : ([45] : List UInt8).isSuffixOf s = true ↔ s.getLast? = some 45 := by
    rw [List.isSuffixOf_iff_suffix]
    constructor
    · rintro ⟨t, rfl⟩; simp
    · intro h
      obtain ⟨ys, rfl⟩ := List.getLast?_eq_some_iff.1 h
      exact ⟨ys, rfl⟩
  by_cases h : s.getLast? = some 45
  · rw [if_pos h, hs.2 h]
    simp [List.dropLast_eq_take]
  · have hf : ([45] : List UInt8).isSuffixOf s = false := by
      cases hb : ([45] : List UInt8).isSuffixOf s with
      | false => rfl
      | true => exact absurd (hs.1 hb) h
    rw [if_neg h, hf]
    simp
theorem strip_whole (s : List UInt8) : s = (stripK s).2 ++ (if (stripK s).1 then [45] else []) := by
  unfold stripK
  by_cases h : s.getLast? = some 45
  · rw [if_pos h]
    obtain ⟨ys, rfl⟩ := List.getLast?_eq_some_iff.1 h
    simp
  · rw [if_neg h]; simp
theorem strip_len (s : List UInt8) : (stripK s).2.length ≤ s.length := by
  have := congrArg List.length (strip_whole s)
  rw [List.length_append] at this
  omega
/-- What lies ahead of the first dot and behind it. -/
def cutK (t : List UInt8) : List UInt8 × List UInt8 := match cutAt 46 t with | none => (t, []) | some p => p
theorem cutK_lib (t : List UInt8) : (Lib.cut t [46]).1 = (cutK t).1 ∧ (Lib.cut t [46]).2.1 = (cutK t).2 := by
  unfold cutK
  rw [StP.cut_lib]
  cases cutAt 46 t with
  | none => exact ⟨rfl, rfl⟩
  | some p => exact ⟨rfl, rfl⟩
theorem cutK_len (t : List UInt8) : (cutK t).1.length ≤ t.length ∧ (cutK t).2.length ≤ t.length := by
  unfold cutK
  cases h : cutAt 46 t with
  | none => exact ⟨Nat.le_refl _, Nat.zero_le _⟩
  | some p =>
    have := congrArg List.length (StP.cut_some (a := p.1) (b := p.2) h).1
    simp only [List.length_append, List.length_cons] at this
    exact ⟨by simp only; omega, by simp only; omega⟩
def keyQ (s : List UInt8) : Ky := ⟨(numP (cutK (stripK s).2).1).1, (numP (cutK (stripK s).2).2).1, (stripK s).1⟩
def badQ (s : List UInt8) : Bool := !((numP (cutK (stripK s).2).1).2 == 0) || (!((numP (cutK (stripK s).2).2).2 == 0) || !fitK (keyQ s))
/-- The program's way. -/
def readP (s : List UInt8) : Option Ky := if badQ s = true then none else some (keyQ s)
theorem readP_some {s : List UInt8} {k : Ky} (h : readP s = some k) : fitK k = true ∧ textK k = s := by
  unfold readP at h
  split at h
  case isTrue => cases h
  case isFalse hb =>
    cases h
    unfold badQ at hb
    simp only [Bool.or_eq_true, Bool.not_eq_true', not_or, Bool.not_eq_false, beq_iff_eq] at hb
    obtain ⟨h1, h2, h3⟩ := hb
    refine ⟨h3, ?_⟩
    rw [text_yes h3]
    unfold coreK tailK keyQ
    simp only
    rw [StP.num_some h1, StP.num_some h2]
    have hc : (stripK s).2 = (cutK (stripK s).2).1 ++ 46 :: (cutK (stripK s).2).2 := by
      unfold cutK
      cases hq : cutAt 46 (stripK s).2 with
      | none =>
        exfalso
        have h2' := h2
        unfold cutK at h2'
        rw [hq] at h2'
        exact absurd (show (numP []).2 = 0 from h2') (by decide)
      | some p => exact (StP.cut_some (a := p.1) (b := p.2) hq).1
    rw [← hc]
    exact (strip_whole s).symm
theorem readP_back {k : Ky} (h : fitK k = true) : readP (textK k) = some k := by
  have f := fitK_iff.1 h
  have h0 := f.saga0; have h1 := f.saga1; have h2 := f.step0; have h3 := f.step1
  have hc : cutK (coreK k) = (Lib.itoa k.saga, Lib.itoa k.step) := by
    unfold cutK coreK
    rw [StP.cut_mk _ _ (itoa_not (by omega) 46 (.inl (by decide)))]
  have hk : keyQ (textK k) = k := by
    unfold keyQ
    rw [strip_text h]
    simp only
    rw [hc]
    simp only
    rw [numP_back (by omega) (by omega), numP_back (by omega) (by omega)]
  have hb : badQ (textK k) = false := by
    unfold badQ
    rw [hk, h, strip_text h]
    simp only
    rw [hc]
    simp only
    rw [numP_back (by omega) (by omega), numP_back (by omega) (by omega)]
    rfl
  unfold readP
  rw [hb, hk]
  rfl
theorem prog_read (s : List UInt8) : readP s = readK s := read_unique (fun k h => readP_some h) (fun hn k hk e => by rw [← e, readP_back hk] at hn; cases hn)
theorem bad_none {s : List UInt8} (h : badQ s = true) : readK s = none := by rw [← prog_read]; unfold readP; rw [if_pos h]
theorem bad_some {s : List UInt8} (h : badQ s = false) : readK s = some (keyQ s) := by rw [← prog_read]; unfold readP; rw [if_neg (by rw [h]; simp)]
end KeyP
end Go.Proofs.YtcdinaoenhonbaaDoor
