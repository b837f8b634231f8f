/-
  Plain facts on amounts, their sums, differences, shifts and products: numbers and lists alone, nothing of the program. No conditions.
-/
import Derived.Lib.ItoaNum
import Derived.Lib.Hide
set_option maxRecDepth 4000
namespace Go.Proofs.Ytamcidlkbhanfaa
namespace NumP

/-- Is a number an amount? -/
def amt (n : Int) : Bool := decide (0 ≤ n) && decide (n ≤ 1099511627776)
theorem amt_yes {n : Int} (h : 0 ≤ n) (k : n ≤ 1099511627776) : amt n = true := by unfold amt; simp [h, k]
theorem amt_no {n : Int} (h : n < 0 ∨ 1099511627776 < n) : amt n = false := by
  unfold amt
  rcases h with h | h
  · have : ¬ 0 ≤ n := by omega
    simp [this]
  · have : ¬ n ≤ 1099511627776 := by omega
    simp [this]
theorem amt_iff {n : Int} : amt n = true ↔ 0 ≤ n ∧ n ≤ 1099511627776 := by unfold amt; simp
theorem amt_cases (n : Int) : (amt n = true ∧ 0 ≤ n ∧ n ≤ 1099511627776) ∨ (amt n = false ∧ (n < 0 ∨ 1099511627776 < n)) := by
  by_cases h : 0 ≤ n ∧ n ≤ 1099511627776
  · exact .inl ⟨amt_yes h.1 h.2, h⟩
  · exact .inr ⟨amt_no (by omega), by omega⟩

def lessP (a b : Int) : Int × Int := if amt a && amt b then (if a < b then (0, 6) else (a - b, 0)) else (0, 11)
def shiftP (a b : Int) : Int × Int :=
  if amt a && decide (-1099511627776 ≤ b) && decide (b ≤ 1099511627776) then (if a + b < 0 then (0, 6) else if 1099511627776 < a + b then (0, 5) else (a + b, 0)) else (0, 11)
def timesP (a b : Int) : Int × Int := if amt a && amt b then (if 1099511627776 < a * b then (0, 5) else (a * b, 0)) else (0, 11)
/-- The sum so far and all that is left, or none when it is no amount. -/
def addUp (n : Int) : List Int → Option Int
  | [] => some n
  | x :: r => if 1099511627776 - n < x then none else addUp (n + x) r
def allAmt : List Int → Bool
  | [] => true
  | x :: r => amt x && allAmt r
def sumP (l : List Int) : Int × Int := if allAmt l then (match addUp 0 l with | some s => (s, 0) | none => (0, 5)) else (0, 11)

theorem allAmt_drop_yes {l : List Int} {k : Nat} (h : k < l.length) (hx : amt (l.getD k 0) = true) : allAmt (l.drop k) = allAmt (l.drop (k + 1)) := by
  rw [List.drop_eq_getElem_cons h, allAmt]
  have : l.getD k 0 = l[k] := by simp [List.getD, h]
  rw [this] at hx
  simp [hx]
theorem allAmt_drop_no {l : List Int} {k : Nat} (h : k < l.length) (hx : amt (l.getD k 0) = false) : allAmt (l.drop k) = false := by
  rw [List.drop_eq_getElem_cons h, allAmt]
  have : l.getD k 0 = l[k] := by simp [List.getD, h]
  rw [this] at hx
  simp [hx]
theorem allAmt_drop_done {l : List Int} {k : Nat} (h : ¬ k < l.length) : allAmt (l.drop k) = true := by
  rw [List.drop_eq_nil_of_le (by omega)]; rfl
theorem allAmt_at {l : List Int} (h : allAmt l = true) : ∀ k, k < l.length → amt (l.getD k 0) = true := by
  induction l with
  | nil => intro k hk; simp at hk
  | cons x r ih =>
    rw [allAmt] at h
    simp at h
    intro k hk
    cases k with
    | zero => simpa using h.1
    | succ k => simpa using ih h.2 k (by simpa using hk)
theorem addUp_drop_over {l : List Int} {k : Nat} {n : Int} (h : k < l.length) (hx : 1099511627776 - n < l.getD k 0) : addUp n (l.drop k) = none := by
  rw [List.drop_eq_getElem_cons h, addUp]
  have : l.getD k 0 = l[k] := by simp [List.getD, h]
  rw [this] at hx
  rw [if_pos hx]
theorem addUp_drop_fits {l : List Int} {k : Nat} {n : Int} (h : k < l.length) (hx : ¬ 1099511627776 - n < l.getD k 0) : addUp n (l.drop k) = addUp (n + l.getD k 0) (l.drop (k + 1)) := by
  rw [List.drop_eq_getElem_cons h, addUp]
  have e : l.getD k 0 = l[k] := by simp [List.getD, h]
  rw [e] at hx ⊢
  rw [if_neg hx]
theorem addUp_drop_done {l : List Int} {k : Nat} {n : Int} (h : ¬ k < l.length) : addUp n (l.drop k) = some n := by
  rw [List.drop_eq_nil_of_le (by omega)]; rfl
theorem addUp_range : ∀ {l : List Int} {n s : Int}, 0 ≤ n → n ≤ 1099511627776 → allAmt l = true → addUp n l = some s → 0 ≤ s ∧ s ≤ 1099511627776
  | [], n, s, h0, h1, _, h => by simp only [addUp, Option.some.injEq] at h; omega
  | x :: r, n, s, h0, h1, ha, h => by
    rw [allAmt] at ha
    simp only [Bool.and_eq_true] at ha
    have hx := amt_iff.1 ha.1
    rw [addUp] at h
    split at h
    · cases h
    · exact addUp_range (by omega) (by omega) ha.2 h

theorem sumP_no {l : List Int} (h : allAmt l = false) : sumP l = (0, 11) := by unfold sumP; simp [h]
theorem sumP_over {l : List Int} (h : allAmt l = true) (k : addUp 0 l = none) : sumP l = (0, 5) := by unfold sumP; simp [h, k]
theorem sumP_yes {l : List Int} {s : Int} (h : allAmt l = true) (k : addUp 0 l = some s) : sumP l = (s, 0) := by unfold sumP; simp [h, k]
theorem sumP_two (a b : Int) : sumP [a, b] = if amt a && amt b then (if 1099511627776 < a + b then (0, 5) else (a + b, 0)) else (0, 11) := by
  rcases amt_cases a with ⟨ha, h1, h2⟩ | ⟨ha, _⟩
  · rcases amt_cases b with ⟨hb, h3, h4⟩ | ⟨hb, _⟩
    · simp only [sumP, allAmt, ha, hb, addUp]
      by_cases h : 1099511627776 < a + b
      · have h7 : ¬ (1099511627776 < a) := by omega
        have h8 : 1099511627776 - a < b := by omega
        simp [h, h7, h8]
      · have h7 : ¬ (1099511627776 < a) := by omega
        have h8 : ¬ (1099511627776 - a < b) := by omega
        simp [h, h7, h8]
    · simp [sumP, allAmt, hb]
  · simp [sumP, allAmt, ha]
theorem sumP_comm (a b : Int) : sumP [a, b] = sumP [b, a] := by
  rw [sumP_two, sumP_two]
  rw [Bool.and_comm, Int.add_comm]
theorem lessP_no {a b : Int} (h : (amt a && amt b) = false) : lessP a b = (0, 11) := by unfold lessP; simp [h]
theorem lessP_short {a b : Int} (h : (amt a && amt b) = true) (k : a < b) : lessP a b = (0, 6) := by unfold lessP; simp [h, k]
theorem lessP_yes {a b : Int} (h : (amt a && amt b) = true) (k : ¬ a < b) : lessP a b = (a - b, 0) := by unfold lessP; simp [h, k]
theorem timesP_no {a b : Int} (h : (amt a && amt b) = false) : timesP a b = (0, 11) := by unfold timesP; simp [h]
theorem timesP_over {a b : Int} (h : (amt a && amt b) = true) (k : 1099511627776 < a * b) : timesP a b = (0, 5) := by unfold timesP; simp [h, k]
theorem timesP_yes {a b : Int} (h : (amt a && amt b) = true) (k : ¬ 1099511627776 < a * b) : timesP a b = (a * b, 0) := by unfold timesP; simp [h, k]
theorem shiftP_no {a b : Int} (h : amt a = false ∨ b < -1099511627776 ∨ 1099511627776 < b) : shiftP a b = (0, 11) := by
  unfold shiftP
  rcases h with h | h | h
  · simp [h]
  · have : ¬ -1099511627776 ≤ b := by omega
    simp [this]
  · have : ¬ b ≤ 1099511627776 := by omega
    simp [this]
theorem shiftP_in {a b : Int} (h : amt a = true) (h1 : -1099511627776 ≤ b) (h2 : b ≤ 1099511627776) : shiftP a b = if a + b < 0 then (0, 6) else if 1099511627776 < a + b then (0, 5) else (a + b, 0) := by
  unfold shiftP; simp [h, h1, h2]
/-- The divided test is the product's. -/
theorem times_test {a b : Int} (hb : 1 ≤ b) : 1099511627776 / b < a ↔ 1099511627776 < a * b := by
  rw [Int.ediv_lt_iff_lt_mul (by omega)]
theorem allAmt_two (a b : Int) : allAmt [a, b] = (amt a && amt b) := by simp [allAmt]
theorem shiftP_ok {a b : Int} (h : (shiftP a b).2 = 0) : amt a = true ∧ -1099511627776 ≤ b ∧ b ≤ 1099511627776 ∧ 0 ≤ a + b ∧ a + b ≤ 1099511627776 ∧ shiftP a b = (a + b, 0) ∧ shiftP (a + b) (-b) = (a, 0) := by
  rcases amt_cases a with ⟨ea, h0, h1⟩ | ⟨ea, _⟩
  · by_cases k1 : -1099511627776 ≤ b
    · by_cases k2 : b ≤ 1099511627776
      · rw [shiftP_in ea k1 k2] at h ⊢
        by_cases k3 : a + b < 0
        · rw [if_pos k3] at h; simp at h
        · rw [if_neg k3] at h ⊢
          by_cases k4 : 1099511627776 < a + b
          · rw [if_pos k4] at h; simp at h
          · rw [if_neg k4]
            refine ⟨ea, k1, k2, by omega, by omega, rfl, ?_⟩
            rw [shiftP_in (amt_yes (by omega) (by omega)) (by omega) (by omega), if_neg (by omega), if_neg (by omega)]
            congr 1
            omega
      · rw [shiftP_no (.inr (.inr (by omega)))] at h; simp at h
    · rw [shiftP_no (.inr (.inl (by omega)))] at h; simp at h
  · rw [shiftP_no (.inl ea)] at h; simp at h
theorem sumP_two_ok {a b : Int} (h : (sumP [a, b]).2 = 0) : sumP [a, b] = (a + b, 0) ∧ lessP (a + b) b = (a, 0) := by
  rw [sumP_two] at h ⊢
  rcases amt_cases a with ⟨ea, h0, h1⟩ | ⟨ea, _⟩
  · rcases amt_cases b with ⟨eb, h2, h3⟩ | ⟨eb, _⟩
    · simp only [ea, eb, Bool.and_self, if_true] at h ⊢
      by_cases k : 1099511627776 < a + b
      · rw [if_pos k] at h; simp at h
      · rw [if_neg k]
        refine ⟨rfl, ?_⟩
        rw [lessP_yes (by rw [eb, amt_yes (n := a + b) (by omega) (by omega)]; rfl) (by omega)]
        congr 1
        omega
    · simp [ea, eb] at h
  · simp [ea] at h
theorem sumP_two_bad {a b : Int} (h : (sumP [a, b]).2 ≠ 0) : (sumP [a, b]).1 = 0 := by
  rw [sumP_two] at h ⊢
  split at h
  · split at h
    · rename_i h1 h2; rw [if_pos h1, if_pos h2]
    · exact absurd rfl h
  · rename_i h1; rw [if_neg h1]
end NumP
end Go.Proofs.Ytamcidlkbhanfaa
