/-
  Plain facts of stock: items, moves, what is restocked and adjusted; there and back; balance; numbers and texts alone, nothing of the program.
-/
import Derived.Test.YtjhfhklgmbghnaaNameTest
set_option linter.unusedVariables false
namespace Go.Proofs.Ytjhfhklgmbghnaa
open NameP
namespace StockP

/-- An item: its name and its counts. -/
structure Sk where
  nm : ByteArray
  hand : Int
  held : Int
  kept : Int
  sent : Int
  inn : Int
def sk0 : Sk := ⟨ByteArray.empty, 0, 0, 0, 0, 0⟩
def amt (n : Int) : Bool := decide (0 ≤ n) && decide (n ≤ 1099511627776)
def nmS (s : ByteArray) : Bool := fitV (vals s.data.toList)
def fitS (x : Sk) : Bool := nmS x.nm && amt x.hand && amt x.held && amt x.kept && amt x.sent && amt x.inn && (x.hand + x.held + x.kept + x.sent == x.inn)
theorem amt_iff {n : Int} : amt n = true ↔ 0 ≤ n ∧ n ≤ 1099511627776 := by unfold amt; simp
/-- What is fit, in numbers. -/
structure Fit (x : Sk) : Prop where
  nm : nmS x.nm = true
  hand : 0 ≤ x.hand
  held : 0 ≤ x.held
  kept : 0 ≤ x.kept
  sent : 0 ≤ x.sent
  most : x.inn ≤ 1099511627776
  sum : x.hand + x.held + x.kept + x.sent = x.inn
theorem fitS_iff {x : Sk} : fitS x = true ↔ Fit x := by
  unfold fitS
  simp only [Bool.and_eq_true, amt_iff, beq_iff_eq]
  constructor
  · rintro ⟨⟨⟨⟨⟨⟨h1, h2⟩, h3⟩, h4⟩, h5⟩, h6⟩, h7⟩
    exact ⟨h1, h2.1, h3.1, h4.1, h5.1, h6.2, h7⟩
  · intro h
    have := h.sum; have := h.hand; have := h.held; have := h.kept; have := h.sent; have := h.most
    exact ⟨⟨⟨⟨⟨⟨h.nm, by omega, by omega⟩, by omega, by omega⟩, by omega, by omega⟩, by omega, by omega⟩, by omega, by omega⟩, h.sum⟩
theorem Fit.up {x : Sk} (h : Fit x) : x.hand ≤ 1099511627776 ∧ x.held ≤ 1099511627776 ∧ x.kept ≤ 1099511627776 ∧ x.sent ≤ 1099511627776 ∧ 0 ≤ x.inn := by
  have := h.sum; have := h.hand; have := h.held; have := h.kept; have := h.sent; have := h.most
  exact ⟨by omega, by omega, by omega, by omega, by omega⟩
def newV (s : ByteArray) : Sk × Int := if nmS s = true then (⟨s, 0, 0, 0, 0, 0⟩, 0) else (sk0, 7)
/-- From where a move takes. -/
def fromV (x : Sk) (w : Int) : Int := if w = 1 then x.hand else if w = 2 ∨ w = 3 then x.held else x.kept
def turnV (x : Sk) (w n : Int) : Sk :=
  if w = 1 then { x with hand := x.hand - n, held := x.held + n } else if w = 2 then { x with held := x.held - n, hand := x.hand + n } else
  if w = 3 then { x with held := x.held - n, kept := x.kept + n } else if w = 4 then { x with kept := x.kept - n, held := x.held + n } else { x with kept := x.kept - n, sent := x.sent + n }
def moveV (x : Sk) (w n : Int) : Sk × Int :=
  if fitS x = true then if 1 ≤ n ∧ n ≤ 1048576 then if fromV x w < n then (sk0, 6) else (turnV x w n, 0) else (sk0, 11) else (sk0, 12)
def restockV (x : Sk) (n : Int) : Sk × Int :=
  if fitS x = true then if 1 ≤ n ∧ n ≤ 1099511627776 then if 1099511627776 - x.inn < n then (sk0, 5) else ({ x with hand := x.hand + n, inn := x.inn + n }, 0) else (sk0, 11) else (sk0, 12)
def adjustV (x : Sk) (n : Int) : Sk × Int :=
  if fitS x = true then if n ≠ 0 ∧ -1099511627776 ≤ n ∧ n ≤ 1099511627776 then if x.hand + n < 0 then (sk0, 6) else if 1099511627776 < x.inn + n then (sk0, 5) else ({ x with hand := x.hand + n, inn := x.inn + n }, 0) else (sk0, 11) else (sk0, 12)
theorem turn_fit {x : Sk} {w n : Int} (h : Fit x) (hn : 1 ≤ n) (hf : ¬ fromV x w < n) : Fit (turnV x w n) ∧ (turnV x w n).inn = x.inn := by
  obtain ⟨h1, h2, h3, h4, h5, h6, h7⟩ := h
  unfold turnV
  unfold fromV at hf
  split
  · rename_i e; rw [if_pos e] at hf
    exact ⟨⟨h1, by dsimp only; omega, by dsimp only; omega, h4, h5, h6, by dsimp only; omega⟩, rfl⟩
  · rename_i e; rw [if_neg e] at hf
    split
    · rename_i e2; rw [if_pos (.inl e2)] at hf
      exact ⟨⟨h1, by dsimp only; omega, by dsimp only; omega, h4, h5, h6, by dsimp only; omega⟩, rfl⟩
    · split
      · rename_i e2 e3; rw [if_pos (.inr e3)] at hf
        exact ⟨⟨h1, h2, by dsimp only; omega, by dsimp only; omega, h5, h6, by dsimp only; omega⟩, rfl⟩
      · rename_i e2 e3; rw [if_neg (fun k => k.elim e2 e3)] at hf
        split
        · exact ⟨⟨h1, h2, by dsimp only; omega, by dsimp only; omega, h5, h6, by dsimp only; omega⟩, rfl⟩
        · exact ⟨⟨h1, h2, h3, by dsimp only; omega, by dsimp only; omega, h6, by dsimp only; omega⟩, rfl⟩
theorem move_ok {x : Sk} {w n : Int} (h : Fit x) (h1 : 1 ≤ n) (h2 : n ≤ 1048576) (hf : ¬ fromV x w < n) : moveV x w n = (turnV x w n, 0) := by
  unfold moveV; rw [if_pos (fitS_iff.2 h), if_pos ⟨h1, h2⟩, if_neg hf]
theorem move_cases (x : Sk) (w n : Int) : (∃ e, moveV x w n = (sk0, e) ∧ e ≠ 0 ∧ 1 ≤ e ∧ e ≤ 20) ∨ (moveV x w n = (turnV x w n, 0) ∧ Fit x ∧ 1 ≤ n ∧ n ≤ 1048576 ∧ ¬ fromV x w < n) := by
  unfold moveV
  split
  · rename_i h
    split
    · rename_i hn
      split
      · exact .inl ⟨6, rfl, by decide, by decide, by decide⟩
      · rename_i hf
        exact .inr ⟨rfl, fitS_iff.1 h, hn.1, hn.2, hf⟩
    · exact .inl ⟨11, rfl, by decide, by decide, by decide⟩
  · exact .inl ⟨12, rfl, by decide, by decide, by decide⟩
theorem restock_cases (x : Sk) (n : Int) : (∃ e, restockV x n = (sk0, e) ∧ e ≠ 0 ∧ 1 ≤ e ∧ e ≤ 20) ∨ (restockV x n = ({ x with hand := x.hand + n, inn := x.inn + n }, 0) ∧ Fit x ∧ 1 ≤ n ∧ n ≤ 1099511627776 ∧ n ≤ 1099511627776 - x.inn) := by
  unfold restockV
  split
  · rename_i h
    split
    · rename_i hn
      split
      · exact .inl ⟨5, rfl, by decide, by decide, by decide⟩
      · rename_i hf
        exact .inr ⟨rfl, fitS_iff.1 h, hn.1, hn.2, by omega⟩
    · exact .inl ⟨11, rfl, by decide, by decide, by decide⟩
  · exact .inl ⟨12, rfl, by decide, by decide, by decide⟩
theorem adjust_cases (x : Sk) (n : Int) : (∃ e, adjustV x n = (sk0, e) ∧ e ≠ 0 ∧ 1 ≤ e ∧ e ≤ 20) ∨ (adjustV x n = ({ x with hand := x.hand + n, inn := x.inn + n }, 0) ∧ Fit x ∧ n ≠ 0 ∧ -1099511627776 ≤ n ∧ n ≤ 1099511627776 ∧ 0 ≤ x.hand + n ∧ x.inn + n ≤ 1099511627776) := by
  unfold adjustV
  split
  · rename_i h
    split
    · rename_i hn
      split
      · exact .inl ⟨6, rfl, by decide, by decide, by decide⟩
      · split
        · exact .inl ⟨5, rfl, by decide, by decide, by decide⟩
        · rename_i hf hg
          exact .inr ⟨rfl, fitS_iff.1 h, hn.1, hn.2.1, hn.2.2, by omega, by omega⟩
    · exact .inl ⟨11, rfl, by decide, by decide, by decide⟩
  · exact .inl ⟨12, rfl, by decide, by decide, by decide⟩
theorem put_fit {x : Sk} {n : Int} (h : Fit x) (h1 : 0 ≤ x.hand + n) (h2 : x.inn + n ≤ 1099511627776) : Fit { x with hand := x.hand + n, inn := x.inn + n } := by
  obtain ⟨k1, k2, k3, k4, k5, k6, k7⟩ := h
  exact ⟨k1, h1, k3, k4, k5, h2, by dsimp only; omega⟩
theorem sk_ext {x y : Sk} (h0 : x.nm = y.nm) (h1 : x.hand = y.hand) (h2 : x.held = y.held) (h3 : x.kept = y.kept) (h4 : x.sent = y.sent) (h5 : x.inn = y.inn) : x = y := by
  cases x; cases y; simp only at h0 h1 h2 h3 h4 h5; subst h0 h1 h2 h3 h4 h5; rfl
/-- A move and its opposite: 1 and 2, 3 and 4. -/
theorem move_back {x : Sk} {n : Int} (w : Int) (hw : w = 1 ∨ w = 3) (h : Fit x) (h1 : 1 ≤ n) (h2 : n ≤ 1048576) (hf : ¬ fromV x w < n) : moveV (turnV x w n) (w + 1) n = (x, 0) ∧ turnV x w n ≠ x := by
  have hfit := (turn_fit h h1 hf).1
  have h3 := h.held; have h4 := h.kept
  rcases hw with rfl | rfl
  · have hg : ¬ fromV (turnV x 1 n) (1 + 1) < n := by simp [fromV, turnV]; omega
    rw [move_ok hfit h1 h2 hg]
    constructor
    · refine Prod.ext ?_ rfl
      simp only [turnV]
      exact sk_ext rfl (by simp) (by simp) rfl rfl rfl
    · intro e
      have := congrArg Sk.hand e
      simp [turnV] at this; omega
  · have hg : ¬ fromV (turnV x 3 n) (3 + 1) < n := by simp [fromV, turnV]; omega
    rw [move_ok hfit h1 h2 hg]
    constructor
    · refine Prod.ext ?_ rfl
      simp only [turnV]
      exact sk_ext rfl (by simp) (by simp) (by simp) rfl rfl
    · intro e
      have := congrArg Sk.held e
      simp [turnV] at this; omega
theorem restock_back {x : Sk} {n : Int} (h : Fit x) (h1 : 1 ≤ n) (h2 : n ≤ 1099511627776) (h3 : n ≤ 1099511627776 - x.inn) : adjustV { x with hand := x.hand + n, inn := x.inn + n } (-n) = (x, 0) := by
  have hf := put_fit (n := n) h (by have := h.hand; omega) (by omega)
  have hh := h.hand; have hm := h.most
  unfold adjustV
  rw [if_pos (fitS_iff.2 hf), if_pos ⟨by omega, by omega, by omega⟩, if_neg (by dsimp only; omega), if_neg (by dsimp only; omega)]
  refine Prod.ext ?_ rfl
  exact sk_ext rfl (by simp only; omega) rfl rfl rfl (by simp only; omega)
theorem new_fit {s : ByteArray} (h : nmS s = true) : Fit ⟨s, 0, 0, 0, 0, 0⟩ := ⟨h, Int.le_refl 0, Int.le_refl 0, Int.le_refl 0, Int.le_refl 0, (by decide : (0 : Int) ≤ 1099511627776), rfl⟩
/-- No item that is fit is the zero one. -/
theorem fit_not0 {x : Sk} (h : Fit x) : x ≠ sk0 := by
  intro e; subst e
  have := h.nm
  exact absurd this (by decide +kernel)
end StockP
end Go.Proofs.Ytjhfhklgmbghnaa
