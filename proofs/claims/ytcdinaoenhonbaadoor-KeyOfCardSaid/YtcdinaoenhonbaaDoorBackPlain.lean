/-
  Plain facts of back: policies, delays, their sum; numbers alone, nothing of the program.
-/
import Derived.Test.YtcdinaoenhonbaaDoorChecked
set_option linter.unusedVariables false
set_option maxRecDepth 4000
namespace Go.Proofs.YtcdinaoenhonbaaDoor
namespace BackP

def fitV (t b c : Int) : Bool := decide (0 ≤ t) && decide (t ≤ 5) && decide (1 ≤ c) && decide (c ≤ 32) && decide (1 ≤ b) && decide (b ≤ c)
theorem fitV_iff {t b c : Int} : fitV t b c = true ↔ 0 ≤ t ∧ t ≤ 5 ∧ 1 ≤ c ∧ c ≤ 32 ∧ 1 ≤ b ∧ b ≤ c := by
  unfold fitV
  simp only [Bool.and_eq_true, decide_eq_true_eq, and_assoc]
/-- A number doubled j times, as long as it is less than the cap; at most the cap. -/
def dl (c : Int) : Nat → Int → Int
  | 0, n => min n c
  | j + 1, n => if n < c then dl c j (2 * n) else min n c
theorem dl_full {c n : Int} (h : ¬ n < c) : ∀ j, dl c j n = c
  | 0 => by rw [dl]; omega
  | j + 1 => by rw [dl, if_neg h]; omega
theorem dl_succ {c : Int} (hc : 1 ≤ c) : ∀ (j : Nat) (n : Int), 1 ≤ n → dl c (j + 1) n = min (2 * dl c j n) c
  | 0, n, hn => by
    show (if n < c then min (2 * n) c else min n c) = min (2 * min n c) c
    split <;> omega
  | j + 1, n, hn => by
    by_cases h : n < c
    · have e1 : dl c (j + 1 + 1) n = dl c (j + 1) (2 * n) := by rw [dl, if_pos h]
      have e2 : dl c (j + 1) n = dl c j (2 * n) := by rw [dl, if_pos h]
      rw [e1, e2]
      exact dl_succ hc j (2 * n) (by omega)
    · rw [dl_full h, dl_full h]; omega
theorem dl_bounds {c : Int} : ∀ (j : Nat) (n : Int), 1 ≤ n → (n ≤ c → n ≤ dl c j n) ∧ dl c j n ≤ c
  | 0, n, hn => by rw [dl]; omega
  | j + 1, n, hn => by
    rw [dl]
    by_cases h : n < c
    · rw [if_pos h]
      have ih := dl_bounds (c := c) j (2 * n) (by omega)
      refine ⟨fun _ => ?_, ih.2⟩
      by_cases h2 : 2 * n ≤ c
      · have := ih.1 h2; omega
      · have := dl_full (c := c) (n := 2 * n) (by omega) j; omega
    · rw [if_neg h]; omega
theorem dl_up {c : Int} (hc : 1 ≤ c) {b : Int} (hb : 1 ≤ b) (hbc : b ≤ c) (j : Nat) : dl c j b ≤ dl c (j + 1) b := by
  rw [dl_succ hc j b hb]
  have := dl_bounds (c := c) j b hb
  have := this.1 hbc
  omega
/-- Six doublings are enough. -/
theorem dl_six {c : Int} (hc : 1 ≤ c) (h32 : c ≤ 32) {b : Int} (hb : 1 ≤ b) : ∀ j, 5 ≤ j → dl c j b = c := by
  have h5 : dl c 5 b = c := by
    have e1 : dl c 1 b = min (2 * dl c 0 b) c := dl_succ hc 0 b hb
    have e2 : dl c 2 b = min (2 * dl c 1 b) c := dl_succ hc 1 b hb
    have e3 : dl c 3 b = min (2 * dl c 2 b) c := dl_succ hc 2 b hb
    have e4 : dl c 4 b = min (2 * dl c 3 b) c := dl_succ hc 3 b hb
    have e5 : dl c 5 b = min (2 * dl c 4 b) c := dl_succ hc 4 b hb
    have e0 : dl c 0 b = min b c := rfl
    omega
  intro j hj
  obtain ⟨d, rfl⟩ : ∃ d, j = 5 + d := ⟨j - 5, by omega⟩
  induction d with
  | zero => exact h5
  | succ d ih => rw [← Nat.add_assoc, dl_succ hc _ b hb, ih (by omega)]; omega
def delayV (b c k : Int) : Int := if fitV 0 b c = true ∧ 1 ≤ k then dl c (k - 1).toNat b else 0
theorem delay_yes {b c k : Int} (h : fitV 0 b c = true) (hk : 1 ≤ k) : delayV b c k = dl c (k - 1).toNat b := by unfold delayV; rw [if_pos ⟨h, hk⟩]
theorem delay_no {b c k : Int} (h : fitV 0 b c = false ∨ k < 1) : delayV b c k = 0 := by
  unfold delayV
  rw [if_neg]
  rintro ⟨h1, h2⟩
  rcases h with h | h
  · rw [h1] at h; cases h
  · omega
/-- The consequences: from one failure to the next. -/
theorem delay_next {b c k : Int} (h : fitV 0 b c = true) (hk : 1 ≤ k) : b ≤ delayV b c k ∧ delayV b c k ≤ c ∧ delayV b c k ≤ delayV b c (k + 1) ∧ delayV b c (k + 1) = min (2 * delayV b c k) c := by
  obtain ⟨_, _, h1, h2, h3, h4⟩ := fitV_iff.1 h
  rw [delay_yes h hk, delay_yes h (by omega), show (k + 1 - 1).toNat = (k - 1).toNat + 1 by omega]
  have hb := dl_bounds (c := c) (k - 1).toNat b h3
  exact ⟨hb.1 h4, hb.2, dl_up h1 h3 h4 _, dl_succ h1 _ b h3⟩
theorem delay_one {b c : Int} (h : fitV 0 b c = true) : delayV b c 1 = b := by
  obtain ⟨_, _, h1, h2, h3, h4⟩ := fitV_iff.1 h
  rw [delay_yes h (by omega)]
  show dl c 0 b = b
  rw [dl]; omega
/-- The delays behind the first j failures. -/
def sumD (b c : Int) : Nat → Int
  | 0 => 0
  | j + 1 => sumD b c j + delayV b c ((j : Int) + 1)
def wholeV (t b c : Int) : Int := if fitV t b c = true then c + sumD b c t.toNat else 0
theorem sumD_bounds {b c : Int} (h : fitV 0 b c = true) : ∀ j, 0 ≤ sumD b c j ∧ sumD b c j ≤ (j : Int) * c
  | 0 => by simp [sumD]
  | j + 1 => by
    have ih := sumD_bounds h j
    have hn := delay_next (k := (j : Int) + 1) h (by omega)
    have hb := (fitV_iff.1 h).2.2.2.2.1
    rw [sumD]
    refine ⟨by omega, ?_⟩
    have e : ((j + 1 : Nat) : Int) * c = (j : Int) * c + c := by rw [Int.natCast_add, Int.add_mul]; simp
    rw [e]; omega
theorem fit_tries {t b c : Int} (h : fitV t b c = true) : fitV 0 b c = true := by
  obtain ⟨_, _, h3⟩ := fitV_iff.1 h
  exact fitV_iff.2 ⟨by decide, by decide, h3⟩
theorem whole_bounds {t b c : Int} (h : fitV t b c = true) : c ≤ wholeV t b c ∧ wholeV t b c ≤ (t + 1) * c := by
  obtain ⟨h0, h5, _⟩ := fitV_iff.1 h
  have hs := sumD_bounds (fit_tries h) t.toNat
  unfold wholeV
  rw [if_pos h]
  refine ⟨by omega, ?_⟩
  have e : ((t.toNat : Nat) : Int) = t := by omega
  rw [e] at hs
  rw [Int.add_mul, Int.one_mul]
  omega
end BackP
end Go.Proofs.YtcdinaoenhonbaaDoor
