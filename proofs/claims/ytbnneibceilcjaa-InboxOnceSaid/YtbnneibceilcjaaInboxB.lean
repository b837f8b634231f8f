/-
  The contracts of Had and Same, the program's and the document's: any boxes; what was there stays as it was.
-/
import Derived.Test.YtbnneibceilcjaaInboxA
set_option linter.unusedVariables false
set_option linter.unusedSimpArgs false
set_option maxRecDepth 4000
namespace Go.Proofs.Ytbnneibceilcjaa.Inbox
open Go.RowKit InP
open Go.Proofs.Ytbnneibceilcjaa.Kt
def sameB (x y : Bo) : Bool := decide (x.sv = y.sv) && (decide (x.low = y.low) && decide (x.ab = y.ab))
theorem sameB_iff {x y : Bo} : sameB x y = true ↔ x = y := by
  obtain ⟨a, b, c⟩ := x
  obtain ⟨d, e, f⟩ := y
  simp [sameB]
theorem sameB_self (x : Bo) : sameB x x = true := sameB_iff.2 rfl
theorem had_any (s l : Int) (a : Option Addr) (n c : Nat) (xs : List Int) (x : Int) (R : Bool) (hR : hadB ⟨s, l, xs⟩ x = R) (w : World) (h : NsAt w a n xs) :
    Calls Try.prog 11 #[bxV s l (.slice a n c), .int .i64 x] w fun e w' => e = .returned (.bool R) ∧ Below w.heap.size w w' := by
  unfold bxV
  have HB := Lib.hid ((Below.refl w.heap.size w).alloc (Nat.le_refl _) (.cells #[.int .i64 s, .int .i64 l, .slice a n c] 24))
  by_cases h1 : x ≤ l
  · have HNO : Hid (R = true) := hR.symm.trans (by unfold hadB; rw [decide_eq_true h1]; rfl)
    clear hR h
    go_enter Try.func11, Try.ntmps11
    go_wp2_with fail
    go_ret
    exact ⟨ret_bool HNO.out, HB.out⟩
  · obtain ⟨q, hq⟩ : ∃ q, decide (x ∈ xs) = q := ⟨_, rfl⟩
    have HNO : Hid (R = q) := hR.symm.trans (by unfold hadB; rw [decide_eq_false h1, hq]; rfl)
    have K := Lib.hid (contains_any a n c x xs q hq (w.alloc (.cells #[.int .i64 s, .int .i64 l, .slice a n c] 24)) (Rw.At.keep h HB.out))
    clear hR h hq
    go_enter Try.func11, Try.ntmps11
    go_wp2_with fail
    refine K.out.mono ?_
    rintro e w1 ⟨rfl, rfl⟩
    go_wp2_with fail
    go_ret
    exact ⟨ret_bool HNO.out, HB.out⟩
theorem rhad_any (s l : Int) (a : Option Addr) (n c : Nat) (xs : List Int) (x : Int) (R : Bool) (hR : hadB ⟨s, l, xs⟩ x = R) (w : World) (h : NsAt w a n xs) :
    Calls Try.prog 12 #[bxV s l (.slice a n c), .int .i64 x] w fun e w' => e = .returned (.bool R) ∧ Below w.heap.size w w' := by
  unfold bxV
  have HB := Lib.hid ((Below.refl w.heap.size w).alloc (Nat.le_refl _) (.cells #[.int .i64 s, .int .i64 l, .slice a n c] 24))
  by_cases h1 : x ≤ l
  · have HNO : Hid (R = true) := hR.symm.trans (by unfold hadB; rw [decide_eq_true h1]; rfl)
    clear hR h
    go_enter Try.func12, Try.ntmps12
    go_wp2_with fail
    go_ret
    exact ⟨ret_bool HNO.out, HB.out⟩
  · obtain ⟨q, hq⟩ : ∃ q, decide (x ∈ xs) = q := ⟨_, rfl⟩
    have HNO : Hid (R = q) := hR.symm.trans (by unfold hadB; rw [decide_eq_false h1, hq]; rfl)
    have K := Lib.hid (has_any a n c x xs q hq (w.alloc (.cells #[.int .i64 s, .int .i64 l, .slice a n c] 24)) (Rw.At.keep h HB.out))
    clear hR h hq
    go_enter Try.func12, Try.ntmps12
    go_wp2_with fail
    refine K.out.mono ?_
    rintro e w1 ⟨rfl, rfl⟩
    go_wp2_with fail
    go_ret
    exact ⟨ret_bool HNO.out, HB.out⟩
theorem same_any (s l : Int) (a : Option Addr) (n c : Nat) (xs : List Int) (s2 l2 : Int) (a2 : Option Addr) (n2 c2 : Nat) (ys : List Int) (R : Bool) (hR : sameB ⟨s, l, xs⟩ ⟨s2, l2, ys⟩ = R) (w : World) (h : NsAt w a n xs) (h2 : NsAt w a2 n2 ys) :
    Calls Try.prog 14 #[bxV s l (.slice a n c), bxV s2 l2 (.slice a2 n2 c2)] w fun e w' => e = .returned (.bool R) ∧ Below w.heap.size w w' := by
  unfold bxV
  have HB := Lib.hid (((Below.refl w.heap.size w).alloc (Nat.le_refl _) (.cells #[.int .i64 s, .int .i64 l, .slice a n c] 24)).alloc (by simp) (.cells #[.int .i64 s2, .int .i64 l2, .slice a2 n2 c2] 24))
  by_cases e1 : s = s2
  · by_cases e2 : l = l2
    · obtain ⟨q, hq⟩ : ∃ q, decide (xs = ys) = q := ⟨_, rfl⟩
      have HNO : Hid (R = q) := hR.symm.trans (by simp only [sameB]; rw [decide_eq_true e1, decide_eq_true e2, hq]; rfl)
      have K := Lib.hid (equal_any a a2 n c n2 c2 xs ys q hq ((w.alloc (.cells #[.int .i64 s, .int .i64 l, .slice a n c] 24)).alloc (.cells #[.int .i64 s2, .int .i64 l2, .slice a2 n2 c2] 24)) (Rw.At.keep h HB.out) (Rw.At.keep h2 HB.out))
      clear hR h h2 hq
      have g1 : (s == s2) = true := beq_iff_eq.2 e1
      have g2 : (l == l2) = true := beq_iff_eq.2 e2
      clear e1 e2
      go_enter Try.func14, Try.ntmps14
      go_wp2_with fail
      refine K.out.mono ?_
      rintro e w1 ⟨rfl, hb⟩
      have HB2 := Lib.hid (below_keep HB.out hb HB.out.size)
      clear hb K
      go_wp2_with fail
      go_ret
      exact ⟨ret_bool HNO.out, HB2.out⟩
    · have HNO : Hid (R = false) := hR.symm.trans (by simp only [sameB]; rw [decide_eq_false e2]; simp)
      have g1 : (s == s2) = true := beq_iff_eq.2 e1
      have g2 : (l == l2) = false := beq_eq_false_iff_ne.2 e2
      clear hR h h2 e1 e2
      go_enter Try.func14, Try.ntmps14
      go_wp2_with fail
      go_ret
      exact ⟨ret_bool HNO.out, HB.out⟩
  · have HNO : Hid (R = false) := hR.symm.trans (by simp only [sameB]; rw [decide_eq_false e1]; simp)
    have g1 : (s == s2) = false := beq_eq_false_iff_ne.2 e1
    clear hR h h2 e1
    go_enter Try.func14, Try.ntmps14
    go_wp2_with fail
    go_ret
    exact ⟨ret_bool HNO.out, HB.out⟩
theorem rsamebx_any (s l : Int) (a : Option Addr) (n c : Nat) (xs : List Int) (s2 l2 : Int) (a2 : Option Addr) (n2 c2 : Nat) (ys : List Int) (R : Bool) (hR : sameB ⟨s, l, xs⟩ ⟨s2, l2, ys⟩ = R) (w : World) (h : NsAt w a n xs) (h2 : NsAt w a2 n2 ys) :
    Calls Try.prog 13 #[bxV s l (.slice a n c), bxV s2 l2 (.slice a2 n2 c2)] w fun e w' => e = .returned (.bool R) ∧ Below w.heap.size w w' := by
  unfold bxV
  have HB := Lib.hid (((Below.refl w.heap.size w).alloc (Nat.le_refl _) (.cells #[.int .i64 s, .int .i64 l, .slice a n c] 24)).alloc (by simp) (.cells #[.int .i64 s2, .int .i64 l2, .slice a2 n2 c2] 24))
  by_cases e1 : s = s2
  · by_cases e2 : l = l2
    · obtain ⟨q, hq⟩ : ∃ q, decide (xs = ys) = q := ⟨_, rfl⟩
      have HNO : Hid (R = q) := hR.symm.trans (by simp only [sameB]; rw [decide_eq_true e1, decide_eq_true e2, hq]; rfl)
      have K := Lib.hid (rsame_any a a2 n c n2 c2 xs ys q hq ((w.alloc (.cells #[.int .i64 s, .int .i64 l, .slice a n c] 24)).alloc (.cells #[.int .i64 s2, .int .i64 l2, .slice a2 n2 c2] 24)) (Rw.At.keep h HB.out) (Rw.At.keep h2 HB.out))
      clear hR h h2 hq
      have g1 : (s == s2) = true := beq_iff_eq.2 e1
      have g2 : (l == l2) = true := beq_iff_eq.2 e2
      clear e1 e2
      go_enter Try.func13, Try.ntmps13
      go_wp2_with fail
      refine K.out.mono ?_
      rintro e w1 ⟨rfl, hb⟩
      have HB2 := Lib.hid (below_keep HB.out hb HB.out.size)
      clear hb K
      go_wp2_with fail
      go_ret
      exact ⟨ret_bool HNO.out, HB2.out⟩
    · have HNO : Hid (R = false) := hR.symm.trans (by simp only [sameB]; rw [decide_eq_false e2]; simp)
      have g1 : (s == s2) = true := beq_iff_eq.2 e1
      have g2 : (l == l2) = false := beq_eq_false_iff_ne.2 e2
      clear hR h h2 e1 e2
      go_enter Try.func13, Try.ntmps13
      go_wp2_with fail
      go_ret
      exact ⟨ret_bool HNO.out, HB.out⟩
  · have HNO : Hid (R = false) := hR.symm.trans (by simp only [sameB]; rw [decide_eq_false e1]; simp)
    have g1 : (s == s2) = false := beq_eq_false_iff_ne.2 e1
    clear hR h h2 e1
    go_enter Try.func13, Try.ntmps13
    go_wp2_with fail
    go_ret
    exact ⟨ret_bool HNO.out, HB.out⟩
end Go.Proofs.Ytbnneibceilcjaa.Inbox
