/-
  Plain facts on runes, names and their order: lists of bytes and numbers alone, nothing of the program. No conditions.
-/
import Derived.Lib.MapLaws
import Derived.Lib.Hide
import Derived.Laws.Cover4
set_option linter.unusedVariables false
set_option maxRecDepth 4000
namespace Go.Proofs.Ytjclkiabgemfpaa
open Go.Lib
namespace NameP

/-! ### a text's runes with their widths -/
def rnF : Nat → List UInt8 → List (Nat × Nat)
  | 0, _ => []
  | f + 1, l => if l = [] then [] else decodeL l :: rnF f (l.drop (decodeL l).2)
def rn (l : List UInt8) : List (Nat × Nat) := rnF l.length l
theorem rnF_nil : ∀ f, rnF f [] = []
  | 0 => rfl
  | _ + 1 => by simp [rnF]
theorem rnF_fuel : ∀ (n m : Nat) (l : List UInt8), l.length ≤ n → l.length ≤ m → rnF n l = rnF m l
  | 0, m, l, hn, _ => by
    have : l = [] := List.eq_nil_of_length_eq_zero (by omega)
    subst this
    rw [rnF_nil, rnF_nil]
  | n + 1, 0, l, _, hm => by
    have : l = [] := List.eq_nil_of_length_eq_zero (by omega)
    subst this
    rw [rnF_nil, rnF_nil]
  | n + 1, m + 1, l, hn, hm => by
    by_cases hne : l = []
    · subst hne
      rw [rnF_nil, rnF_nil]
    · have hw := decodeL_width l
      have hl : 0 < l.length := List.length_pos_iff.2 hne
      simp only [rnF, if_neg hne]
      rw [rnF_fuel n m _ (by rw [List.length_drop]; omega) (by rw [List.length_drop]; omega)]
theorem rn_step (l : List UInt8) (hne : l ≠ []) : rn l = decodeL l :: rn (l.drop (decodeL l).2) := by
  have hw := decodeL_width l
  have hl : 0 < l.length := List.length_pos_iff.2 hne
  unfold rn
  obtain ⟨n, hn⟩ : ∃ n, l.length = n + 1 := ⟨l.length - 1, by omega⟩
  rw [hn]
  simp only [rnF, if_neg hne]
  rw [rnF_fuel n _ _ (by rw [List.length_drop]; omega) (Nat.le_refl _)]
theorem rn_induct {p : List UInt8 → Prop} (h0 : p []) (h1 : ∀ l, l ≠ [] → p (l.drop (decodeL l).2) → p l) : ∀ l, p l := by
  intro l
  induction hn : l.length using Nat.strongRecOn generalizing l with
  | ind n ih =>
    by_cases hne : l = []
    · subst hne; exact h0
    · have hw := decodeL_width l
      have hl : 0 < l.length := List.length_pos_iff.2 hne
      exact h1 l hne (ih (l.drop (decodeL l).2).length (by rw [List.length_drop]; omega) _ rfl)
theorem rn_drop_step (l : List UInt8) (k : Nat) (h : k < l.length) : rn (l.drop k) = decodeL (l.drop k) :: rn (l.drop (k + (decodeL (l.drop k)).2)) := by
  rw [rn_step _ (by intro e; have := congrArg List.length e; simp at this; omega), List.drop_drop]
theorem rn_drop_done (l : List UInt8) (k : Nat) (h : ¬ k < l.length) : rn (l.drop k) = [] := by
  rw [List.drop_eq_nil_of_le (by omega)]; rfl

def vals (l : List UInt8) : List Nat := (rn l).map (·.1)
theorem vals_step (l : List UInt8) (hne : l ≠ []) : vals l = (decodeL l).1 :: vals (l.drop (decodeL l).2) := by
  unfold vals; rw [rn_step l hne]; rfl
theorem vals_drop_step (l : List UInt8) (k : Nat) (h : k < l.length) : vals (l.drop k) = (decodeL (l.drop k)).1 :: vals (l.drop (k + (decodeL (l.drop k)).2)) := by
  unfold vals; rw [rn_drop_step l k h]; rfl
theorem vals_drop_done (l : List UInt8) (k : Nat) (h : ¬ k < l.length) : vals (l.drop k) = [] := by
  unfold vals; rw [rn_drop_done l k h]; rfl
theorem decodeL_four (l : List UInt8) : (decodeL l).2 ≤ 4 := by
  rw [decodeL_N]
  rcases decodeN_shape l.length (l.getD 0 0).toNat (l.getD 1 0).toNat (l.getD 2 0).toNat (l.getD 3 0).toNat with ⟨c, e⟩ | ⟨c1, c2, c3, cv, e⟩ | ⟨c1, c2, c3, c4, cv, cs, e⟩ | ⟨c1, c2, c3, c4, c5, cv, cw, e⟩ | e
  all_goals (rw [e]; simp)
theorem vals_four (l : List UInt8) : l.length ≤ 4 * (vals l).length := by
  induction l using rn_induct with
  | h0 => simp
  | h1 l hne ih =>
    have hw := decodeL_four l
    rw [vals_step l hne, List.length_cons]
    rw [List.length_drop] at ih
    omega
def okRune (c : Nat) : Prop := c < 55296 ∨ (57344 ≤ c ∧ c ≤ 1114111)
theorem decodeL_ok (l : List UInt8) : okRune (decodeL l).1 := by
  have k0 := (l.getD 0 0).toNat_lt
  unfold okRune
  rw [decodeL_N]
  rcases decodeN_shape l.length (l.getD 0 0).toNat (l.getD 1 0).toNat (l.getD 2 0).toNat (l.getD 3 0).toNat with ⟨c, e⟩ | ⟨c1, c2, c3, cv, e⟩ | ⟨c1, c2, c3, c4, cv, cs, e⟩ | ⟨c1, c2, c3, c4, c5, cv, cw, e⟩ | e
  all_goals (rw [e]; simp only; omega)
/-! ### octets of runes, there and back -/
end NameP
end Go.Proofs.Ytjclkiabgemfpaa

/-
  Plain facts on name runes, lowercase runes, and what a name is: numbers and lists alone, nothing of the program. No conditions.
-/
set_option linter.unusedVariables false
set_option maxRecDepth 4000
namespace Go.Proofs.Ytjclkiabgemfpaa
open Go.Lib
namespace NameP

def nr (c : Int) : Bool := (decide (97 ≤ c) && decide (c ≤ 122)) || (decide (48 ≤ c) && decide (c ≤ 57)) || c == 45 || (decide (223 ≤ c) && decide (c ≤ 255) && c != 247)
theorem nr_yes {c : Int} (h : (97 ≤ c ∧ c ≤ 122) ∨ (48 ≤ c ∧ c ≤ 57) ∨ c = 45 ∨ (223 ≤ c ∧ c ≤ 246) ∨ (248 ≤ c ∧ c ≤ 255)) : nr c = true := by
  unfold nr
  simp only [Bool.or_eq_true, Bool.and_eq_true, decide_eq_true_eq, beq_iff_eq, bne_iff_ne]
  omega
theorem nr_iff {c : Int} : nr c = true ↔ ((97 ≤ c ∧ c ≤ 122) ∨ (48 ≤ c ∧ c ≤ 57) ∨ c = 45 ∨ (223 ≤ c ∧ c ≤ 246) ∨ (248 ≤ c ∧ c ≤ 255)) := by
  unfold nr
  simp only [Bool.or_eq_true, Bool.and_eq_true, decide_eq_true_eq, beq_iff_eq, bne_iff_ne]
  omega
theorem nr_no {c : Int} (h : c < 45 ∨ (46 ≤ c ∧ c ≤ 47) ∨ (58 ≤ c ∧ c ≤ 96) ∨ (123 ≤ c ∧ c ≤ 222) ∨ c = 247 ∨ 255 < c) : nr c = false := by
  cases hn : nr c with
  | false => rfl
  | true => rw [nr_iff] at hn; omega
theorem nr_cases (c : Int) :
    (nr c = true ∧ 97 ≤ c ∧ c ≤ 122) ∨ (nr c = true ∧ 48 ≤ c ∧ c ≤ 57) ∨ (nr c = true ∧ c = 45) ∨ (nr c = true ∧ 223 ≤ c ∧ c ≤ 246) ∨ (nr c = true ∧ 248 ≤ c ∧ c ≤ 255) ∨
    (nr c = false ∧ c < 45) ∨ (nr c = false ∧ 46 ≤ c ∧ c ≤ 47) ∨ (nr c = false ∧ 58 ≤ c ∧ c ≤ 96) ∨ (nr c = false ∧ 123 ≤ c ∧ c ≤ 222) ∨ (nr c = false ∧ c = 247) ∨ (nr c = false ∧ 255 < c) := by
  by_cases h1 : 97 ≤ c ∧ c ≤ 122
  · exact .inl ⟨nr_yes (by omega), h1⟩
  by_cases h2 : 48 ≤ c ∧ c ≤ 57
  · exact .inr (.inl ⟨nr_yes (by omega), h2⟩)
  by_cases h3 : c = 45
  · exact .inr (.inr (.inl ⟨nr_yes (by omega), h3⟩))
  by_cases h4 : 223 ≤ c ∧ c ≤ 246
  · exact .inr (.inr (.inr (.inl ⟨nr_yes (by omega), h4⟩)))
  by_cases h5 : 248 ≤ c ∧ c ≤ 255
  · exact .inr (.inr (.inr (.inr (.inl ⟨nr_yes (by omega), h5⟩))))
  by_cases h6 : c < 45
  · exact .inr (.inr (.inr (.inr (.inr (.inl ⟨nr_no (by omega), h6⟩)))))
  by_cases h7 : 46 ≤ c ∧ c ≤ 47
  · exact .inr (.inr (.inr (.inr (.inr (.inr (.inl ⟨nr_no (by omega), h7⟩))))))
  by_cases h8 : 58 ≤ c ∧ c ≤ 96
  · exact .inr (.inr (.inr (.inr (.inr (.inr (.inr (.inl ⟨nr_no (by omega), h8⟩)))))))
  by_cases h9 : 123 ≤ c ∧ c ≤ 222
  · exact .inr (.inr (.inr (.inr (.inr (.inr (.inr (.inr (.inl ⟨nr_no (by omega), h9⟩))))))))
  by_cases h10 : c = 247
  · exact .inr (.inr (.inr (.inr (.inr (.inr (.inr (.inr (.inr (.inl ⟨nr_no (by omega), h10⟩)))))))))
  · exact .inr (.inr (.inr (.inr (.inr (.inr (.inr (.inr (.inr (.inr ⟨nr_no (by omega), by omega⟩)))))))))

def fitUp (n : Nat) : List Nat → Bool
  | [] => decide (0 < n)
  | c :: r => if !nr (c : Int) || (n == 0 && c == 45) || n == 12 then false else fitUp (n + 1) r
def fitV (l : List Nat) : Bool := fitUp 0 l
def allNr (l : List Nat) : Bool := l.all fun (c : Nat) => nr (c : Int)
theorem fitUp_no {n c : Nat} {r : List Nat} (h : nr (c : Int) = false ∨ (n = 0 ∧ c = 45) ∨ n = 12) : fitUp n (c :: r) = false := by
  unfold fitUp
  rcases h with h | ⟨h, k⟩ | h
  · simp [h]
  · simp [h, k]
  · simp [h]
theorem fitUp_go {n c : Nat} {r : List Nat} (h : nr (c : Int) = true) (k : n ≠ 0 ∨ c ≠ 45) (k2 : n ≠ 12) : fitUp n (c :: r) = fitUp (n + 1) r := by
  rw [fitUp]
  rcases k with k | k
  · simp [h, k, k2]
  · simp [h, k, k2]
theorem fitUp_iff : ∀ {l : List Nat} {n : Nat}, n ≤ 12 → (fitUp n l = true ↔ allNr l = true ∧ 0 < n + l.length ∧ n + l.length ≤ 12 ∧ (n = 0 → l.headD 0 ≠ 45))
  | [], n, hn => by simp [fitUp, allNr]; omega
  | c :: r, n, hn => by
    by_cases h1 : nr (c : Int) = true
    · by_cases h2 : n = 12
      · rw [fitUp_no (.inr (.inr h2))]
        simp
        intro _ h; omega
      · by_cases h3 : n = 0 ∧ c = 45
        · rw [fitUp_no (.inr (.inl h3))]
          simp
          intro _ _ h; omega
        · rw [fitUp_go h1 (by omega) h2, fitUp_iff (by omega)]
          simp [allNr, h1]
          intro _
          constructor
          · rintro ⟨h4, h5⟩; exact ⟨by omega, by omega, fun h6 h7 => h3 ⟨h6, h7⟩⟩
          · rintro ⟨h4, h5⟩; exact ⟨by omega, by omega⟩
    · have h2 : nr (c : Int) = false := by simpa using h1
      rw [fitUp_no (.inl h2)]
      simp [allNr, h2]
theorem fitV_iff {l : List Nat} : fitV l = true ↔ allNr l = true ∧ 0 < l.length ∧ l.length ≤ 12 ∧ l.headD 0 ≠ 45 := by
  unfold fitV
  rw [fitUp_iff (by omega)]
  simp
/-! ### what is folded, folded again -/
/-! ### the order by octets is that by runes -/
end NameP
end Go.Proofs.Ytjclkiabgemfpaa

/-
  Plain facts of stock: items, moves, what is restocked and adjusted; there and back; balance; numbers and texts alone, nothing of the program.
-/
set_option linter.unusedVariables false
set_option maxRecDepth 4000
namespace Go.Proofs.Ytjclkiabgemfpaa
open NameP
namespace StockP

structure Sk where
  nm : ByteArray
  hand : Int
  held : Int
  kept : Int
  sent : Int
  inn : Int
def sk0 : Sk := ⟨ByteArray.empty, 0, 0, 0, 0, 0⟩
def amt (n : Int) : Bool := decide (0 ≤ n) && decide (n ≤ 1099511627776)
def nmS (s : ByteArray) : Bool := fitV (vals s.data.toList)
def fitS (x : Sk) : Bool := nmS x.nm && amt x.hand && amt x.held && amt x.kept && amt x.sent && amt x.inn && (x.hand + x.held + x.kept + x.sent == x.inn)
theorem amt_iff {n : Int} : amt n = true ↔ 0 ≤ n ∧ n ≤ 1099511627776 := by unfold amt; simp
structure Fit (x : Sk) : Prop where
  nm : nmS x.nm = true
  hand : 0 ≤ x.hand
  held : 0 ≤ x.held
  kept : 0 ≤ x.kept
  sent : 0 ≤ x.sent
  most : x.inn ≤ 1099511627776
  sum : x.hand + x.held + x.kept + x.sent = x.inn
theorem fitS_iff {x : Sk} : fitS x = true ↔ Fit x := by
  unfold fitS
  simp only [Bool.and_eq_true, amt_iff, beq_iff_eq]
  constructor
  · rintro ⟨⟨⟨⟨⟨⟨h1, h2⟩, h3⟩, h4⟩, h5⟩, h6⟩, h7⟩
    exact ⟨h1, h2.1, h3.1, h4.1, h5.1, h6.2, h7⟩
  · intro h
    have := h.sum; have := h.hand; have := h.held; have := h.kept; have := h.sent; have := h.most
    exact ⟨⟨⟨⟨⟨⟨h.nm, by omega, by omega⟩, by omega, by omega⟩, by omega, by omega⟩, by omega, by omega⟩, by omega, by omega⟩, h.sum⟩
theorem Fit.up {x : Sk} (h : Fit x) : x.hand ≤ 1099511627776 ∧ x.held ≤ 1099511627776 ∧ x.kept ≤ 1099511627776 ∧ x.sent ≤ 1099511627776 ∧ 0 ≤ x.inn := by
  have := h.sum; have := h.hand; have := h.held; have := h.kept; have := h.sent; have := h.most
  exact ⟨by omega, by omega, by omega, by omega, by omega⟩
def fromV (x : Sk) (w : Int) : Int := if w = 1 then x.hand else if w = 2 ∨ w = 3 then x.held else x.kept
def turnV (x : Sk) (w n : Int) : Sk :=
  if w = 1 then { x with hand := x.hand - n, held := x.held + n } else if w = 2 then { x with held := x.held - n, hand := x.hand + n } else
  if w = 3 then { x with held := x.held - n, kept := x.kept + n } else if w = 4 then { x with kept := x.kept - n, held := x.held + n } else { x with kept := x.kept - n, sent := x.sent + n }
def moveV (x : Sk) (w n : Int) : Sk × Int :=
  if fitS x = true then if 1 ≤ n ∧ n ≤ 1048576 then if fromV x w < n then (sk0, 6) else (turnV x w n, 0) else (sk0, 11) else (sk0, 12)
def restockV (x : Sk) (n : Int) : Sk × Int :=
  if fitS x = true then if 1 ≤ n ∧ n ≤ 1099511627776 then if 1099511627776 - x.inn < n then (sk0, 5) else ({ x with hand := x.hand + n, inn := x.inn + n }, 0) else (sk0, 11) else (sk0, 12)
def adjustV (x : Sk) (n : Int) : Sk × Int :=
  if fitS x = true then if n ≠ 0 ∧ -1099511627776 ≤ n ∧ n ≤ 1099511627776 then if x.hand + n < 0 then (sk0, 6) else if 1099511627776 < x.inn + n then (sk0, 5) else ({ x with hand := x.hand + n, inn := x.inn + n }, 0) else (sk0, 11) else (sk0, 12)
theorem turn_fit {x : Sk} {w n : Int} (h : Fit x) (hn : 1 ≤ n) (hf : ¬ fromV x w < n) : Fit (turnV x w n) ∧ (turnV x w n).inn = x.inn := by
  obtain ⟨h1, h2, h3, h4, h5, h6, h7⟩ := h
  unfold turnV
  unfold fromV at hf
  split
  · rename_i e; rw [if_pos e] at hf
    exact ⟨⟨h1, by dsimp only; omega, by dsimp only; omega, h4, h5, h6, by dsimp only; omega⟩, rfl⟩
  · rename_i e; rw [if_neg e] at hf
    split
    · rename_i e2; rw [if_pos (.inl e2)] at hf
      exact ⟨⟨h1, by dsimp only; omega, by dsimp only; omega, h4, h5, h6, by dsimp only; omega⟩, rfl⟩
    · split
      · rename_i e2 e3; rw [if_pos (.inr e3)] at hf
        exact ⟨⟨h1, h2, by dsimp only; omega, by dsimp only; omega, h5, h6, by dsimp only; omega⟩, rfl⟩
      · rename_i e2 e3; rw [if_neg (fun k => k.elim e2 e3)] at hf
        split
        · exact ⟨⟨h1, h2, by dsimp only; omega, by dsimp only; omega, h5, h6, by dsimp only; omega⟩, rfl⟩
        · exact ⟨⟨h1, h2, h3, by dsimp only; omega, by dsimp only; omega, h6, by dsimp only; omega⟩, rfl⟩
theorem move_ok {x : Sk} {w n : Int} (h : Fit x) (h1 : 1 ≤ n) (h2 : n ≤ 1048576) (hf : ¬ fromV x w < n) : moveV x w n = (turnV x w n, 0) := by
  unfold moveV; rw [if_pos (fitS_iff.2 h), if_pos ⟨h1, h2⟩, if_neg hf]
theorem move_cases (x : Sk) (w n : Int) : (∃ e, moveV x w n = (sk0, e) ∧ e ≠ 0 ∧ 1 ≤ e ∧ e ≤ 20) ∨ (moveV x w n = (turnV x w n, 0) ∧ Fit x ∧ 1 ≤ n ∧ n ≤ 1048576 ∧ ¬ fromV x w < n) := by
  unfold moveV
  split
  · rename_i h
    split
    · rename_i hn
      split
      · exact .inl ⟨6, rfl, by decide, by decide, by decide⟩
      · rename_i hf
        exact .inr ⟨rfl, fitS_iff.1 h, hn.1, hn.2, hf⟩
    · exact .inl ⟨11, rfl, by decide, by decide, by decide⟩
  · exact .inl ⟨12, rfl, by decide, by decide, by decide⟩
theorem restock_cases (x : Sk) (n : Int) : (∃ e, restockV x n = (sk0, e) ∧ e ≠ 0 ∧ 1 ≤ e ∧ e ≤ 20) ∨ (restockV x n = ({ x with hand := x.hand + n, inn := x.inn + n }, 0) ∧ Fit x ∧ 1 ≤ n ∧ n ≤ 1099511627776 ∧ n ≤ 1099511627776 - x.inn) := by
  unfold restockV
  split
  · rename_i h
    split
    · rename_i hn
      split
      · exact .inl ⟨5, rfl, by decide, by decide, by decide⟩
      · rename_i hf
        exact .inr ⟨rfl, fitS_iff.1 h, hn.1, hn.2, by omega⟩
    · exact .inl ⟨11, rfl, by decide, by decide, by decide⟩
  · exact .inl ⟨12, rfl, by decide, by decide, by decide⟩
theorem adjust_cases (x : Sk) (n : Int) : (∃ e, adjustV x n = (sk0, e) ∧ e ≠ 0 ∧ 1 ≤ e ∧ e ≤ 20) ∨ (adjustV x n = ({ x with hand := x.hand + n, inn := x.inn + n }, 0) ∧ Fit x ∧ n ≠ 0 ∧ -1099511627776 ≤ n ∧ n ≤ 1099511627776 ∧ 0 ≤ x.hand + n ∧ x.inn + n ≤ 1099511627776) := by
  unfold adjustV
  split
  · rename_i h
    split
    · rename_i hn
      split
      · exact .inl ⟨6, rfl, by decide, by decide, by decide⟩
      · split
        · exact .inl ⟨5, rfl, by decide, by decide, by decide⟩
        · rename_i hf hg
          exact .inr ⟨rfl, fitS_iff.1 h, hn.1, hn.2.1, hn.2.2, by omega, by omega⟩
    · exact .inl ⟨11, rfl, by decide, by decide, by decide⟩
  · exact .inl ⟨12, rfl, by decide, by decide, by decide⟩
theorem put_fit {x : Sk} {n : Int} (h : Fit x) (h1 : 0 ≤ x.hand + n) (h2 : x.inn + n ≤ 1099511627776) : Fit { x with hand := x.hand + n, inn := x.inn + n } := by
  obtain ⟨k1, k2, k3, k4, k5, k6, k7⟩ := h
  exact ⟨k1, h1, k3, k4, k5, h2, by dsimp only; omega⟩
theorem sk_ext {x y : Sk} (h0 : x.nm = y.nm) (h1 : x.hand = y.hand) (h2 : x.held = y.held) (h3 : x.kept = y.kept) (h4 : x.sent = y.sent) (h5 : x.inn = y.inn) : x = y := by
  cases x; cases y; simp only at h0 h1 h2 h3 h4 h5; subst h0 h1 h2 h3 h4 h5; rfl
theorem new_fit {s : ByteArray} (h : nmS s = true) : Fit ⟨s, 0, 0, 0, 0, 0⟩ := ⟨h, Int.le_refl 0, Int.le_refl 0, Int.le_refl 0, Int.le_refl 0, (by decide : (0 : Int) ≤ 1099511627776), rfl⟩
end StockP
end Go.Proofs.Ytjclkiabgemfpaa
