/-
  Plain facts on amounts, their sums, differences, shifts and products: numbers and lists alone, nothing of the program. No conditions.
-/
import Derived.Lib.ItoaNum
import Derived.Lib.Hide
set_option maxRecDepth 4000
namespace Go.Proofs.YtjclkiabgemfpaaGreat
namespace NumP

def amt (n : Int) : Bool := decide (0 ≤ n) && decide (n ≤ 1099511627776)
theorem amt_yes {n : Int} (h : 0 ≤ n) (k : n ≤ 1099511627776) : amt n = true := by unfold amt; simp [h, k]
theorem amt_no {n : Int} (h : n < 0 ∨ 1099511627776 < n) : amt n = false := by
  unfold amt
  rcases h with h | h
  · have : ¬ 0 ≤ n := by omega
    simp [this]
  · have : ¬ n ≤ 1099511627776 := by omega
    simp [this]
theorem amt_iff {n : Int} : amt n = true ↔ 0 ≤ n ∧ n ≤ 1099511627776 := by unfold amt; simp
theorem amt_cases (n : Int) : (amt n = true ∧ 0 ≤ n ∧ n ≤ 1099511627776) ∨ (amt n = false ∧ (n < 0 ∨ 1099511627776 < n)) := by
  by_cases h : 0 ≤ n ∧ n ≤ 1099511627776
  · exact .inl ⟨amt_yes h.1 h.2, h⟩
  · exact .inr ⟨amt_no (by omega), by omega⟩

def shiftP (a b : Int) : Int × Int :=
  if amt a && decide (-1099511627776 ≤ b) && decide (b ≤ 1099511627776) then (if a + b < 0 then (0, 6) else if 1099511627776 < a + b then (0, 5) else (a + b, 0)) else (0, 11)
def addUp (n : Int) : List Int → Option Int
  | [] => some n
  | x :: r => if 1099511627776 - n < x then none else addUp (n + x) r
def allAmt : List Int → Bool
  | [] => true
  | x :: r => amt x && allAmt r
def sumP (l : List Int) : Int × Int := if allAmt l then (match addUp 0 l with | some s => (s, 0) | none => (0, 5)) else (0, 11)

theorem allAmt_drop_yes {l : List Int} {k : Nat} (h : k < l.length) (hx : amt (l.getD k 0) = true) : allAmt (l.drop k) = allAmt (l.drop (k + 1)) := by
  rw [List.drop_eq_getElem_cons h, allAmt]
  have : l.getD k 0 = l[k] := by simp [List.getD, h]
  rw [this] at hx
  simp [hx]
theorem allAmt_drop_no {l : List Int} {k : Nat} (h : k < l.length) (hx : amt (l.getD k 0) = false) : allAmt (l.drop k) = false := by
  rw [List.drop_eq_getElem_cons h, allAmt]
  have : l.getD k 0 = l[k] := by simp [List.getD, h]
  rw [this] at hx
  simp [hx]
theorem allAmt_drop_done {l : List Int} {k : Nat} (h : ¬ k < l.length) : allAmt (l.drop k) = true := by
  rw [List.drop_eq_nil_of_le (by omega)]; rfl
theorem allAmt_at {l : List Int} (h : allAmt l = true) : ∀ k, k < l.length → amt (l.getD k 0) = true := by
  induction l with
  | nil => intro k hk; simp at hk
  | cons x r ih =>
    rw [allAmt] at h
    simp at h
    intro k hk
    cases k with
    | zero => simpa using h.1
    | succ k => simpa using ih h.2 k (by simpa using hk)
theorem addUp_drop_over {l : List Int} {k : Nat} {n : Int} (h : k < l.length) (hx : 1099511627776 - n < l.getD k 0) : addUp n (l.drop k) = none := by
  rw [List.drop_eq_getElem_cons h, addUp]
  have : l.getD k 0 = l[k] := by simp [List.getD, h]
  rw [this] at hx
  rw [if_pos hx]
theorem addUp_drop_fits {l : List Int} {k : Nat} {n : Int} (h : k < l.length) (hx : ¬ 1099511627776 - n < l.getD k 0) : addUp n (l.drop k) = addUp (n + l.getD k 0) (l.drop (k + 1)) := by
  rw [List.drop_eq_getElem_cons h, addUp]
  have e : l.getD k 0 = l[k] := by simp [List.getD, h]
  rw [e] at hx ⊢
  rw [if_neg hx]
theorem addUp_drop_done {l : List Int} {k : Nat} {n : Int} (h : ¬ k < l.length) : addUp n (l.drop k) = some n := by
  rw [List.drop_eq_nil_of_le (by omega)]; rfl
theorem sumP_no {l : List Int} (h : allAmt l = false) : sumP l = (0, 11) := by unfold sumP; simp [h]
theorem sumP_over {l : List Int} (h : allAmt l = true) (k : addUp 0 l = none) : sumP l = (0, 5) := by unfold sumP; simp [h, k]
theorem sumP_yes {l : List Int} {s : Int} (h : allAmt l = true) (k : addUp 0 l = some s) : sumP l = (s, 0) := by unfold sumP; simp [h, k]
theorem shiftP_no {a b : Int} (h : amt a = false ∨ b < -1099511627776 ∨ 1099511627776 < b) : shiftP a b = (0, 11) := by
  unfold shiftP
  rcases h with h | h | h
  · simp [h]
  · have : ¬ -1099511627776 ≤ b := by omega
    simp [this]
  · have : ¬ b ≤ 1099511627776 := by omega
    simp [this]
theorem shiftP_in {a b : Int} (h : amt a = true) (h1 : -1099511627776 ≤ b) (h2 : b ≤ 1099511627776) : shiftP a b = if a + b < 0 then (0, 6) else if 1099511627776 < a + b then (0, 5) else (a + b, 0) := by
  unfold shiftP; simp [h, h1, h2]
end NumP
end Go.Proofs.YtjclkiabgemfpaaGreat
