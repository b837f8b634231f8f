/-
  Plain facts on runes, names and their order: lists of bytes and numbers alone, nothing of the program. No conditions.
-/
import Derived.Lib.MapLaws
import Derived.Lib.Hide
import Derived.Laws.Cover4
set_option linter.unusedVariables false
set_option maxRecDepth 4000
namespace Go.Proofs.YtdpgfnnhbfkacaaGreatDoor
open Go.Lib
namespace NameP

/-! ### a text's runes with their widths -/
def rnF : Nat → List UInt8 → List (Nat × Nat)
  | 0, _ => []
  | f + 1, l => if l = [] then [] else decodeL l :: rnF f (l.drop (decodeL l).2)
def rn (l : List UInt8) : List (Nat × Nat) := rnF l.length l
theorem rnF_nil : ∀ f, rnF f [] = []
  | 0 => rfl
  | _ + 1 => by simp [rnF]
theorem rnF_fuel : ∀ (n m : Nat) (l : List UInt8), l.length ≤ n → l.length ≤ m → rnF n l = rnF m l
  | 0, m, l, hn, _ => by
    have : l = [] := List.eq_nil_of_length_eq_zero (by omega)
    subst this
    rw [rnF_nil, rnF_nil]
  | n + 1, 0, l, _, hm => by
    have : l = [] := List.eq_nil_of_length_eq_zero (by omega)
    subst this
    rw [rnF_nil, rnF_nil]
  | n + 1, m + 1, l, hn, hm => by
    by_cases hne : l = []
    · subst hne
      rw [rnF_nil, rnF_nil]
    · have hw := decodeL_width l
      have hl : 0 < l.length := List.length_pos_iff.2 hne
      simp only [rnF, if_neg hne]
      rw [rnF_fuel n m _ (by rw [List.length_drop]; omega) (by rw [List.length_drop]; omega)]
theorem rn_step (l : List UInt8) (hne : l ≠ []) : rn l = decodeL l :: rn (l.drop (decodeL l).2) := by
  have hw := decodeL_width l
  have hl : 0 < l.length := List.length_pos_iff.2 hne
  unfold rn
  obtain ⟨n, hn⟩ : ∃ n, l.length = n + 1 := ⟨l.length - 1, by omega⟩
  rw [hn]
  simp only [rnF, if_neg hne]
  rw [rnF_fuel n _ _ (by rw [List.length_drop]; omega) (Nat.le_refl _)]
theorem rn_induct {p : List UInt8 → Prop} (h0 : p []) (h1 : ∀ l, l ≠ [] → p (l.drop (decodeL l).2) → p l) : ∀ l, p l := by
  intro l
  induction hn : l.length using Nat.strongRecOn generalizing l with
  | ind n ih =>
    by_cases hne : l = []
    · subst hne; exact h0
    · have hw := decodeL_width l
      have hl : 0 < l.length := List.length_pos_iff.2 hne
      exact h1 l hne (ih (l.drop (decodeL l).2).length (by rw [List.length_drop]; omega) _ rfl)
theorem rn_drop_step (l : List UInt8) (k : Nat) (h : k < l.length) : rn (l.drop k) = decodeL (l.drop k) :: rn (l.drop (k + (decodeL (l.drop k)).2)) := by
  rw [rn_step _ (by intro e; have := congrArg List.length e; simp at this; omega), List.drop_drop]
theorem rn_drop_done (l : List UInt8) (k : Nat) (h : ¬ k < l.length) : rn (l.drop k) = [] := by
  rw [List.drop_eq_nil_of_le (by omega)]; rfl

def good (p : Nat × Nat) : Bool := !(p.1 == 65533 && p.2 == 1)
theorem good_no {p : Nat × Nat} (h : good p = false) : p = (65533, 1) := by
  obtain ⟨a, b⟩ := p
  simp [good] at h
  rw [h.1, h.2]
theorem good_yes {p : Nat × Nat} (h : good p = true) : ¬ (p.1 = 65533 ∧ p.2 = 1) := by
  rintro ⟨h1, h2⟩
  simp [good, h1, h2] at h
def vals (l : List UInt8) : List Nat := (rn l).map (·.1)
theorem vals_step (l : List UInt8) (hne : l ≠ []) : vals l = (decodeL l).1 :: vals (l.drop (decodeL l).2) := by
  unfold vals; rw [rn_step l hne]; rfl
theorem vals_drop_step (l : List UInt8) (k : Nat) (h : k < l.length) : vals (l.drop k) = (decodeL (l.drop k)).1 :: vals (l.drop (k + (decodeL (l.drop k)).2)) := by
  unfold vals; rw [rn_drop_step l k h]; rfl
theorem vals_drop_done (l : List UInt8) (k : Nat) (h : ¬ k < l.length) : vals (l.drop k) = [] := by
  unfold vals; rw [rn_drop_done l k h]; rfl
theorem decodeL_four (l : List UInt8) : (decodeL l).2 ≤ 4 := by
  rw [decodeL_N]
  rcases decodeN_shape l.length (l.getD 0 0).toNat (l.getD 1 0).toNat (l.getD 2 0).toNat (l.getD 3 0).toNat with ⟨c, e⟩ | ⟨c1, c2, c3, cv, e⟩ | ⟨c1, c2, c3, c4, cv, cs, e⟩ | ⟨c1, c2, c3, c4, c5, cv, cw, e⟩ | e
  all_goals (rw [e]; simp)
theorem vals_four (l : List UInt8) : l.length ≤ 4 * (vals l).length := by
  induction l using rn_induct with
  | h0 => simp
  | h1 l hne ih =>
    have hw := decodeL_four l
    rw [vals_step l hne, List.length_cons]
    rw [List.length_drop] at ih
    omega
def okRune (c : Nat) : Prop := c < 55296 ∨ (57344 ≤ c ∧ c ≤ 1114111)
theorem decodeL_ok (l : List UInt8) : okRune (decodeL l).1 := by
  have k0 := (l.getD 0 0).toNat_lt
  unfold okRune
  rw [decodeL_N]
  rcases decodeN_shape l.length (l.getD 0 0).toNat (l.getD 1 0).toNat (l.getD 2 0).toNat (l.getD 3 0).toNat with ⟨c, e⟩ | ⟨c1, c2, c3, cv, e⟩ | ⟨c1, c2, c3, c4, cv, cs, e⟩ | ⟨c1, c2, c3, c4, c5, cv, cw, e⟩ | e
  all_goals (rw [e]; simp only; omega)
/-! ### octets of runes, there and back -/
def encs (ns : List Nat) : List UInt8 := ns.flatMap fun (c : Nat) => encodeRune (c : Int)
theorem encs_cons (c : Nat) (ns : List Nat) : encs (c :: ns) = encodeRune (c : Int) ++ encs ns := by simp [encs]
theorem toByte_nat (x : Int) (_h0 : 0 ≤ x) (h1 : x < 256) : (x.toNat.toUInt8).toNat = x.toNat := by
  simp; omega
theorem encs_vals (l : List UInt8) : (rn l).all good = true → encs (vals l) = l := by
  induction l using rn_induct with
  | h0 => intro _; rfl
  | h1 l hne ih =>
    intro h
    rw [rn_step l hne, List.all_cons, Bool.and_eq_true] at h
    rw [vals_step l hne, encs_cons, ih h.2, encode_decode l hne (good_yes h.1), List.take_append_drop]
end NameP
end Go.Proofs.YtdpgfnnhbfkacaaGreatDoor

/-
  Plain facts on name runes, lowercase runes, and what a name is: numbers and lists alone, nothing of the program. No conditions.
-/
set_option linter.unusedVariables false
set_option maxRecDepth 4000
namespace Go.Proofs.YtdpgfnnhbfkacaaGreatDoor
open Go.Lib
namespace NameP

def nr (c : Int) : Bool := (decide (97 ≤ c) && decide (c ≤ 122)) || (decide (48 ≤ c) && decide (c ≤ 57)) || c == 45 || (decide (223 ≤ c) && decide (c ≤ 255) && c != 247)
theorem nr_yes {c : Int} (h : (97 ≤ c ∧ c ≤ 122) ∨ (48 ≤ c ∧ c ≤ 57) ∨ c = 45 ∨ (223 ≤ c ∧ c ≤ 246) ∨ (248 ≤ c ∧ c ≤ 255)) : nr c = true := by
  unfold nr
  simp only [Bool.or_eq_true, Bool.and_eq_true, decide_eq_true_eq, beq_iff_eq, bne_iff_ne]
  omega
theorem nr_iff {c : Int} : nr c = true ↔ ((97 ≤ c ∧ c ≤ 122) ∨ (48 ≤ c ∧ c ≤ 57) ∨ c = 45 ∨ (223 ≤ c ∧ c ≤ 246) ∨ (248 ≤ c ∧ c ≤ 255)) := by
  unfold nr
  simp only [Bool.or_eq_true, Bool.and_eq_true, decide_eq_true_eq, beq_iff_eq, bne_iff_ne]
  omega
theorem nr_no {c : Int} (h : c < 45 ∨ (46 ≤ c ∧ c ≤ 47) ∨ (58 ≤ c ∧ c ≤ 96) ∨ (123 ≤ c ∧ c ≤ 222) ∨ c = 247 ∨ 255 < c) : nr c = false := by
  cases hn : nr c with
  | false => rfl
  | true => rw [nr_iff] at hn; omega
theorem nr_cases (c : Int) :
    (nr c = true ∧ 97 ≤ c ∧ c ≤ 122) ∨ (nr c = true ∧ 48 ≤ c ∧ c ≤ 57) ∨ (nr c = true ∧ c = 45) ∨ (nr c = true ∧ 223 ≤ c ∧ c ≤ 246) ∨ (nr c = true ∧ 248 ≤ c ∧ c ≤ 255) ∨
    (nr c = false ∧ c < 45) ∨ (nr c = false ∧ 46 ≤ c ∧ c ≤ 47) ∨ (nr c = false ∧ 58 ≤ c ∧ c ≤ 96) ∨ (nr c = false ∧ 123 ≤ c ∧ c ≤ 222) ∨ (nr c = false ∧ c = 247) ∨ (nr c = false ∧ 255 < c) := by
  by_cases h1 : 97 ≤ c ∧ c ≤ 122
  · exact .inl ⟨nr_yes (by omega), h1⟩
  by_cases h2 : 48 ≤ c ∧ c ≤ 57
  · exact .inr (.inl ⟨nr_yes (by omega), h2⟩)
  by_cases h3 : c = 45
  · exact .inr (.inr (.inl ⟨nr_yes (by omega), h3⟩))
  by_cases h4 : 223 ≤ c ∧ c ≤ 246
  · exact .inr (.inr (.inr (.inl ⟨nr_yes (by omega), h4⟩)))
  by_cases h5 : 248 ≤ c ∧ c ≤ 255
  · exact .inr (.inr (.inr (.inr (.inl ⟨nr_yes (by omega), h5⟩))))
  by_cases h6 : c < 45
  · exact .inr (.inr (.inr (.inr (.inr (.inl ⟨nr_no (by omega), h6⟩)))))
  by_cases h7 : 46 ≤ c ∧ c ≤ 47
  · exact .inr (.inr (.inr (.inr (.inr (.inr (.inl ⟨nr_no (by omega), h7⟩))))))
  by_cases h8 : 58 ≤ c ∧ c ≤ 96
  · exact .inr (.inr (.inr (.inr (.inr (.inr (.inr (.inl ⟨nr_no (by omega), h8⟩)))))))
  by_cases h9 : 123 ≤ c ∧ c ≤ 222
  · exact .inr (.inr (.inr (.inr (.inr (.inr (.inr (.inr (.inl ⟨nr_no (by omega), h9⟩))))))))
  by_cases h10 : c = 247
  · exact .inr (.inr (.inr (.inr (.inr (.inr (.inr (.inr (.inr (.inl ⟨nr_no (by omega), h10⟩)))))))))
  · exact .inr (.inr (.inr (.inr (.inr (.inr (.inr (.inr (.inr (.inr ⟨nr_no (by omega), by omega⟩)))))))))

def fitUp (n : Nat) : List Nat → Bool
  | [] => decide (0 < n)
  | c :: r => if !nr (c : Int) || (n == 0 && c == 45) || n == 12 then false else fitUp (n + 1) r
def fitV (l : List Nat) : Bool := fitUp 0 l
def allNr (l : List Nat) : Bool := l.all fun (c : Nat) => nr (c : Int)
theorem fitUp_no {n c : Nat} {r : List Nat} (h : nr (c : Int) = false ∨ (n = 0 ∧ c = 45) ∨ n = 12) : fitUp n (c :: r) = false := by
  unfold fitUp
  rcases h with h | ⟨h, k⟩ | h
  · simp [h]
  · simp [h, k]
  · simp [h]
theorem fitUp_go {n c : Nat} {r : List Nat} (h : nr (c : Int) = true) (k : n ≠ 0 ∨ c ≠ 45) (k2 : n ≠ 12) : fitUp n (c :: r) = fitUp (n + 1) r := by
  rw [fitUp]
  rcases k with k | k
  · simp [h, k, k2]
  · simp [h, k, k2]
theorem fitUp_iff : ∀ {l : List Nat} {n : Nat}, n ≤ 12 → (fitUp n l = true ↔ allNr l = true ∧ 0 < n + l.length ∧ n + l.length ≤ 12 ∧ (n = 0 → l.headD 0 ≠ 45))
  | [], n, hn => by simp [fitUp, allNr]; omega
  | c :: r, n, hn => by
    by_cases h1 : nr (c : Int) = true
    · by_cases h2 : n = 12
      · rw [fitUp_no (.inr (.inr h2))]
        simp
        intro _ h; omega
      · by_cases h3 : n = 0 ∧ c = 45
        · rw [fitUp_no (.inr (.inl h3))]
          simp
          intro _ _ h; omega
        · rw [fitUp_go h1 (by omega) h2, fitUp_iff (by omega)]
          simp [allNr, h1]
          intro _
          constructor
          · rintro ⟨h4, h5⟩; exact ⟨by omega, by omega, fun h6 h7 => h3 ⟨h6, h7⟩⟩
          · rintro ⟨h4, h5⟩; exact ⟨by omega, by omega⟩
    · have h2 : nr (c : Int) = false := by simpa using h1
      rw [fitUp_no (.inl h2)]
      simp [allNr, h2]
theorem fitV_iff {l : List Nat} : fitV l = true ↔ allNr l = true ∧ 0 < l.length ∧ l.length ≤ 12 ∧ l.headD 0 ≠ 45 := by
  unfold fitV
  rw [fitUp_iff (by omega)]
  simp
theorem fitV_no {l : List Nat} (h : allNr l = false ∨ l.length = 0 ∨ 12 < l.length ∨ l.headD 0 = 45) : fitV l = false := by
  cases hf : fitV l with
  | false => rfl
  | true =>
    rw [fitV_iff] at hf
    obtain ⟨h1, h2, h3, h4⟩ := hf
    rcases h with h | h | h | h
    · rw [h1] at h; cases h
    · omega
    · omega
    · exact absurd h h4
theorem allNr_drop_step {l : List Nat} {k : Nat} (h : k < l.length) (hx : nr ((l.getD k 0 : Nat) : Int) = true) : allNr (l.drop k) = allNr (l.drop (k + 1)) := by
  rw [List.drop_eq_getElem_cons h, allNr, List.all_cons]
  have : l.getD k 0 = l[k] := by simp [List.getD, h]
  rw [this] at hx
  rw [hx]; rfl
theorem allNr_drop_no {l : List Nat} {k : Nat} (h : k < l.length) (hx : nr ((l.getD k 0 : Nat) : Int) = false) : allNr (l.drop k) = false := by
  rw [List.drop_eq_getElem_cons h, allNr, List.all_cons]
  have : l.getD k 0 = l[k] := by simp [List.getD, h]
  rw [this] at hx
  rw [hx]; rfl
theorem allNr_drop_done {l : List Nat} {k : Nat} (h : ¬ k < l.length) : allNr (l.drop k) = true := by
  rw [List.drop_eq_nil_of_le (by omega)]; rfl
theorem allNr_good (l : List UInt8) : allNr (vals l) = true → (rn l).all good = true := by
  induction l using rn_induct with
  | h0 => intro _; rfl
  | h1 l hne ih =>
    intro h
    rw [vals_step l hne, allNr, List.all_cons, Bool.and_eq_true] at h
    rw [rn_step l hne, List.all_cons, Bool.and_eq_true]
    refine ⟨?_, ih h.2⟩
    cases hg : good (decodeL l) with
    | true => rfl
    | false =>
      have := h.1
      rw [good_no hg] at this
      revert this
      decide

/-! ### what is folded, folded again -/
/-! ### the order by octets is that by runes -/
end NameP
end Go.Proofs.YtdpgfnnhbfkacaaGreatDoor

/-
  Plain facts on the rune that begins at a place, as the document reads it: lists of bytes and numbers alone, nothing of the program. No conditions.
-/
set_option linter.unusedVariables false
set_option maxRecDepth 4000
namespace Go.Proofs.YtdpgfnnhbfkacaaGreatDoor
open Go.Lib
namespace NameP

def moreV (l : List UInt8) (k : Nat) : Int := if k < l.length then (if 128 ≤ (l.getD k 0).toNat ∧ (l.getD k 0).toNat ≤ 191 then ((l.getD k 0).toNat : Int) - 128 else -1) else -1
theorem moreV_range (l : List UInt8) (k : Nat) : -1 ≤ moreV l k ∧ moreV l k ≤ 63 := by
  unfold moreV
  split
  · split <;> omega
  · omega
theorem moreV_out {l : List UInt8} {k : Nat} (h : ¬ k < l.length) : moreV l k = -1 := by unfold moreV; rw [if_neg h]
theorem moreV_no {l : List UInt8} {k : Nat} (h : k < l.length) (k2 : (l.getD k 0).toNat < 128 ∨ 191 < (l.getD k 0).toNat) : moreV l k = -1 := by unfold moreV; rw [if_pos h, if_neg (by omega)]
theorem moreV_yes {l : List UInt8} {k : Nat} (h : k < l.length) (k1 : 128 ≤ (l.getD k 0).toNat) (k2 : (l.getD k 0).toNat ≤ 191) : moreV l k = ((l.getD k 0).toNat : Int) - 128 := by unfold moreV; rw [if_pos h, if_pos ⟨k1, k2⟩]
theorem moreV_drop (l : List UInt8) (p k : Nat) : moreV (l.drop p) k = moreV l (p + k) := by
  unfold moreV
  rw [List.length_drop, getD_dropU]
  by_cases h : p + k < l.length
  · rw [if_pos (by omega), if_pos h]
  · rw [if_neg (by omega), if_neg h]

def oneQ (b x y z : Int) : Int × Int :=
  if b < 128 then (b, 1)
  else if 194 ≤ b ∧ b ≤ 223 ∧ 0 ≤ x then ((b - 192) * 64 + x, 2)
  else if 224 ≤ b ∧ b ≤ 239 ∧ 0 ≤ x ∧ 0 ≤ y then (if 2048 ≤ (b - 224) * 4096 + x * 64 + y ∧ ((b - 224) * 4096 + x * 64 + y < 55296 ∨ 57343 < (b - 224) * 4096 + x * 64 + y) then ((b - 224) * 4096 + x * 64 + y, 3) else (0, 0))
  else if 240 ≤ b ∧ b ≤ 244 ∧ 0 ≤ x ∧ 0 ≤ y ∧ 0 ≤ z then (if 65536 ≤ (b - 240) * 262144 + x * 4096 + y * 64 + z ∧ (b - 240) * 262144 + x * 4096 + y * 64 + z ≤ 1114111 then ((b - 240) * 262144 + x * 4096 + y * 64 + z, 4) else (0, 0))
  else (0, 0)
def oneV (l : List UInt8) : Nat × Nat := if good (decodeL l) then decodeL l else (0, 0)
theorem oneV_yes {l : List UInt8} (h : good (decodeL l) = true) : oneV l = decodeL l := by unfold oneV; rw [h]; rfl
theorem oneV_no {l : List UInt8} (h : good (decodeL l) = false) : oneV l = (0, 0) := by unfold oneV; rw [h]; rfl
theorem good_mk {a b : Nat} (h : a ≠ 65533 ∨ b ≠ 1) : good (a, b) = true := by
  unfold good
  rcases h with h | h <;> simp [h]
theorem pair_int {a b c d : Int} (h : a = c) (k : b = d) : (a, b) = (c, d) := by rw [h, k]
theorem oneQ_1 {b x y z : Int} (h : b < 128) : oneQ b x y z = (b, 1) := by unfold oneQ; rw [if_pos h]
theorem oneQ_2 {b x y z : Int} (h : 128 ≤ b) (k : b < 194) : oneQ b x y z = (0, 0) := by unfold oneQ; rw [if_neg (by omega), if_neg (by omega), if_neg (by omega), if_neg (by omega)]
theorem oneQ_3 {b x y z : Int} (h : 128 ≤ b) (hx : x < 0) : oneQ b x y z = (0, 0) := by unfold oneQ; rw [if_neg (by omega), if_neg (by omega), if_neg (by omega), if_neg (by omega)]
theorem oneQ_4 {b x y z : Int} (h : 194 ≤ b) (k : b ≤ 223) (hx : 0 ≤ x) : oneQ b x y z = ((b - 192) * 64 + x, 2) := by unfold oneQ; rw [if_neg (by omega), if_pos (by omega)]
theorem oneQ_5 {b x y z : Int} (h : 224 ≤ b) (hy : y < 0) : oneQ b x y z = (0, 0) := by unfold oneQ; rw [if_neg (by omega), if_neg (by omega), if_neg (by omega), if_neg (by omega)]
theorem oneQ_6 {b x y z n : Int} (h : 224 ≤ b) (k : b ≤ 239) (hx : 0 ≤ x) (hy : 0 ≤ y) (hn : (b - 224) * 4096 + x * 64 + y = n) (g : 2048 ≤ n ∧ (n < 55296 ∨ 57343 < n)) : oneQ b x y z = (n, 3) := by
  unfold oneQ; rw [if_neg (by omega), if_neg (by omega), if_pos (by omega), hn, if_pos g]
theorem oneQ_7 {b x y z n : Int} (h : 224 ≤ b) (k : b ≤ 239) (hx : 0 ≤ x) (hy : 0 ≤ y) (hn : (b - 224) * 4096 + x * 64 + y = n) (g : n < 2048 ∨ (55296 ≤ n ∧ n ≤ 57343)) : oneQ b x y z = (0, 0) := by
  unfold oneQ; rw [if_neg (by omega), if_neg (by omega), if_pos (by omega), hn, if_neg (by omega)]
theorem oneQ_8 {b x y z : Int} (h : 240 ≤ b) (hz : z < 0) : oneQ b x y z = (0, 0) := by unfold oneQ; rw [if_neg (by omega), if_neg (by omega), if_neg (by omega), if_neg (by omega)]
theorem oneQ_9 {b x y z n : Int} (h : 240 ≤ b) (k : b ≤ 244) (hx : 0 ≤ x) (hy : 0 ≤ y) (hz : 0 ≤ z) (hn : (b - 240) * 262144 + x * 4096 + y * 64 + z = n) (g : 65536 ≤ n ∧ n ≤ 1114111) : oneQ b x y z = (n, 4) := by
  unfold oneQ; rw [if_neg (by omega), if_neg (by omega), if_neg (by omega), if_pos (by omega), hn, if_pos g]
theorem oneQ_10 {b x y z n : Int} (h : 240 ≤ b) (k : b ≤ 244) (hx : 0 ≤ x) (hy : 0 ≤ y) (hz : 0 ≤ z) (hn : (b - 240) * 262144 + x * 4096 + y * 64 + z = n) (g : n < 65536 ∨ 1114111 < n) : oneQ b x y z = (0, 0) := by
  unfold oneQ; rw [if_neg (by omega), if_neg (by omega), if_neg (by omega), if_pos (by omega), hn, if_neg (by omega)]
theorem oneQ_11 {b x y z : Int} (h : 244 < b) : oneQ b x y z = (0, 0) := by unfold oneQ; rw [if_neg (by omega), if_neg (by omega), if_neg (by omega), if_neg (by omega)]
theorem one_good {l : List UInt8} {c k : Nat} {x : Int × Int} (hd : decodeL l = (c, k)) (hg : c ≠ 65533 ∨ k ≠ 1) (hx : x = ((c : Int), (k : Int))) : x = (((oneV l).1 : Int), ((oneV l).2 : Int)) := by
  rw [oneV_yes (by rw [hd]; exact good_mk hg), hd]; exact hx
theorem one_bad {l : List UInt8} {x : Int × Int} (hd : decodeL l = (65533, 1)) (hx : x = (0, 0)) : x = (((oneV l).1 : Int), ((oneV l).2 : Int)) := by
  rw [oneV_no (by rw [hd]; rfl)]; exact hx
theorem moreV_two (l : List UInt8) (k : Nat) : (k < l.length ∧ (l.getD k 0).toNat / 64 = 2 ∧ moreV l k = (((l.getD k 0).toNat % 64 : Nat) : Int)) ∨ (¬ (k < l.length ∧ (l.getD k 0).toNat / 64 = 2) ∧ moreV l k = -1) := by
  by_cases h : k < l.length
  · by_cases h2 : (l.getD k 0).toNat / 64 = 2
    · exact .inl ⟨h, h2, by rw [moreV_yes h (by omega) (by omega)]; omega⟩
    · exact .inr ⟨by omega, moreV_no h (by omega)⟩
  · exact .inr ⟨by omega, moreV_out h⟩
theorem oneQ_oneV (l : List UInt8) (hne : l ≠ []) : oneQ ((l.getD 0 0).toNat : Int) (moreV l 1) (moreV l 2) (moreV l 3) = (((oneV l).1 : Int), ((oneV l).2 : Int)) := by
  have k0 := (l.getD 0 0).toNat_lt
  have k1 := (l.getD 1 0).toNat_lt
  have k2 := (l.getD 2 0).toNat_lt
  have k3 := (l.getD 3 0).toNat_lt
  have m1 := moreV_two l 1
  have m2 := moreV_two l 2
  have m3 := moreV_two l 3
  have hd := decodeL_N l
  have hn : 0 < l.length := List.length_pos_iff.2 hne
  generalize moreV l 1 = x at *
  generalize moreV l 2 = y at *
  generalize moreV l 3 = z at *
  generalize (l.getD 0 0).toNat = b0 at *
  generalize (l.getD 1 0).toNat = b1 at *
  generalize (l.getD 2 0).toNat = b2 at *
  generalize (l.getD 3 0).toNat = b3 at *
  generalize l.length = n at *
  by_cases h0 : b0 < 128
  · rw [decodeN_ascii _ _ _ _ _ h0] at hd
    exact one_good hd (by omega) (oneQ_1 (by omega))
  unfold decodeN at hd
  rw [if_neg h0] at hd
  rcases m1 with ⟨c1, c1', rfl⟩ | ⟨c1, rfl⟩
  case inr =>
    rw [if_neg (by omega), if_neg (by omega), if_neg (by omega)] at hd
    exact one_bad hd (oneQ_3 (by omega) (by omega))
  by_cases t2 : b0 / 32 = 6
  · rw [if_pos ⟨t2, c1, c1'⟩] at hd
    by_cases g : b0 % 32 * 64 + b1 % 64 ≥ 128
    · rw [if_pos g] at hd
      exact one_good hd (by omega) ((oneQ_4 (by omega) (by omega) (by omega)).trans (pair_int (by omega) rfl))
    · rw [if_neg g] at hd
      exact one_bad hd (oneQ_2 (by omega) (by omega))
  rw [if_neg (by omega)] at hd
  rcases m2 with ⟨c2, c2', rfl⟩ | ⟨c2, rfl⟩
  case inr =>
    rw [if_neg (by omega), if_neg (by omega)] at hd
    by_cases h194 : b0 < 194
    · exact one_bad hd (oneQ_2 (by omega) (by omega))
    · exact one_bad hd (oneQ_5 (by omega) (by omega))
  by_cases t3 : b0 / 16 = 14
  · rw [if_pos ⟨t3, ⟨c1, c1'⟩, c2, c2'⟩] at hd
    have e : ((b0 : Int) - 224) * 4096 + ((b1 % 64 : Nat) : Int) * 64 + ((b2 % 64 : Nat) : Int) = ((b0 % 16 * 4096 + b1 % 64 * 64 + b2 % 64 : Nat) : Int) := by omega
    split at hd
    · exact one_good hd (by omega) (oneQ_6 (by omega) (by omega) (by omega) (by omega) e (by omega))
    · exact one_bad hd (oneQ_7 (by omega) (by omega) (by omega) (by omega) e (by omega))
  rw [if_neg (by omega)] at hd
  rcases m3 with ⟨c3, c3', rfl⟩ | ⟨c3, rfl⟩
  case inr =>
    rw [if_neg (by omega)] at hd
    by_cases h194 : b0 < 194
    · exact one_bad hd (oneQ_2 (by omega) (by omega))
    · exact one_bad hd (oneQ_8 (by omega) (by omega))
  by_cases t4 : b0 / 8 = 30
  · rw [if_pos ⟨t4, ⟨c1, c1'⟩, ⟨c2, c2'⟩, c3, c3'⟩] at hd
    have e : ((b0 : Int) - 240) * 262144 + ((b1 % 64 : Nat) : Int) * 4096 + ((b2 % 64 : Nat) : Int) * 64 + ((b3 % 64 : Nat) : Int) = ((b0 % 8 * 262144 + b1 % 64 * 4096 + b2 % 64 * 64 + b3 % 64 : Nat) : Int) := by omega
    split at hd
    · exact one_good hd (by omega) (oneQ_9 (by omega) (by omega) (by omega) (by omega) (by omega) e (by omega))
    · by_cases h5 : b0 ≤ 244
      · exact one_bad hd (oneQ_10 (by omega) (by omega) (by omega) (by omega) (by omega) e (by omega))
      · exact one_bad hd (oneQ_11 (by omega))
  · rw [if_neg (by omega)] at hd
    by_cases h194 : b0 < 194
    · exact one_bad hd (oneQ_2 (by omega) (by omega))
    · exact one_bad hd (oneQ_11 (by omega))
end NameP
end Go.Proofs.YtdpgfnnhbfkacaaGreatDoor
