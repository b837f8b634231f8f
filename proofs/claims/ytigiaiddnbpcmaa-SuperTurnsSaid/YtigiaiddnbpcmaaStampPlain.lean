/-
  Sealed sectors in plain words: numbers as octets, what a sealed sector is, what it opens as, parts, tears; no program.
-/
import Derived.Test.YtigiaiddnbpcmaaCrcPlain
set_option linter.unusedVariables false
set_option maxRecDepth 4000
namespace Go.Proofs.Ytigiaiddnbpcmaa.StampP
open CrcP

/-- A number as k octets, the highest first. -/
def be : Nat → Nat → List UInt8
  | _, 0 => []
  | n, k + 1 => be (n / 256) k ++ [UInt8.ofNat n]
theorem be_length (n k : Nat) : (be n k).length = k := by
  induction k generalizing n with
  | zero => rfl
  | succ k ih => rw [be, List.length_append, ih]; rfl
theorem be_low (n j : Nat) : be n (j + 1) = UInt8.ofNat (n / 256 ^ j) :: be n j := by
  induction j generalizing n with
  | zero => simp [be]
  | succ j ih =>
    rw [be, ih, Nat.div_div_eq_div_mul, show 256 * 256 ^ j = 256 ^ (j + 1) by rw [Nat.pow_succ, Nat.mul_comm]]
    rfl
theorem be_high (n k : Nat) : be n (k + 1) = be (n / 256) k ++ [UInt8.ofNat n] := rfl
theorem num_be (n k : Nat) (h : n < 256 ^ k) : num (be n k) = n := by
  induction k generalizing n with
  | zero => simp at h; subst h; rfl
  | succ k ih =>
    rw [be, num_snoc, ih _ (by rw [Nat.pow_succ] at h; omega), UInt8.toNat_ofNat']
    omega
theorem snoc_ind {P : List UInt8 → Prop} (h0 : P []) (hs : ∀ l c, P l → P (l ++ [c])) (l : List UInt8) : P l := by
  rw [← List.reverse_reverse l]
  induction l.reverse with
  | nil => exact h0
  | cons c l ih => rw [List.reverse_cons]; exact hs _ c ih
theorem be_num (l : List UInt8) : be (num l) l.length = l := by
  induction l using snoc_ind with
  | h0 => rfl
  | hs l c ih =>
    rw [List.length_append, List.length_singleton, be, num_snoc, show (num l * 256 + c.toNat) / 256 = num l by have := c.toNat_lt; omega, ih]
    congr 2
    apply UInt8.toNat_inj.1
    rw [UInt8.toNat_ofNat']
    have := c.toNat_lt
    omega
theorem oc_be (n : Nat) : oc n = be n 4 := by
  simp only [oc, be, Nat.div_div_eq_div_mul, List.nil_append, List.cons_append]
def mk (n i : Nat) : List UInt8 := be n 6 ++ be i 2
theorem mk_length (n i : Nat) : (mk n i).length = 8 := by rw [mk, List.length_append, be_length, be_length]
/-- The first twelve octets. -/
def hd (n i c z : Nat) : List UInt8 := mk n i ++ be c 2 ++ be z 2
theorem hd_length (n i c z : Nat) : (hd n i c z).length = 12 := by rw [hd, List.length_append, List.length_append, mk_length, be_length, be_length]
def sm (n i c : Nat) (s : List UInt8) : Nat := (more 0#32 (hd n i c s.length ++ s)).toNat
/-- A sealed sector. -/
def sl (n i c : Nat) (s : List UInt8) : List UInt8 := hd n i c s.length ++ be (sm n i c s) 4 ++ s ++ List.replicate (104 - s.length) 0 ++ mk n i
theorem sl_length (n i c : Nat) (s : List UInt8) (h : s.length ≤ 104) : (sl n i c s).length = 128 := by
  simp only [sl, List.length_append, List.length_replicate, mk_length, hd_length, be_length]
  omega
def fit (n i c : Int) : Prop := 1 ≤ n ∧ n ≤ 1099511627776 ∧ 1 ≤ c ∧ c ≤ 512 ∧ 0 ≤ i ∧ i < c
instance (n i c : Int) : Decidable (fit n i c) := by unfold fit; exact inferInstance
def fld (l : List UInt8) (a b : Nat) : List UInt8 := (l.drop a).take (b - a)
/-- What a sector opens as. -/
def opn (l : List UInt8) : Option (Nat × Nat × Nat × List UInt8) :=
  if l.length = 128 ∧ num (fld l 10 12) ≤ 104 ∧ fit (num (fld l 0 6)) (num (fld l 6 8)) (num (fld l 8 10)) ∧ sl (num (fld l 0 6)) (num (fld l 6 8)) (num (fld l 8 10)) (fld l 16 (16 + num (fld l 10 12))) = l then
    some (num (fld l 0 6), num (fld l 6 8), num (fld l 8 10), fld l 16 (16 + num (fld l 10 12)))
  else none
theorem fld_app {A B C : List UInt8} {a b : Nat} (ha : A.length = a) (hb : B.length = b - a) : fld (A ++ (B ++ C)) a b = B := by
  subst ha
  rw [fld, List.drop_left, ← hb, List.take_left]
theorem sl_fields (n i c : Nat) (s : List UInt8) : fld (sl n i c s) 0 6 = be n 6 ∧ fld (sl n i c s) 6 8 = be i 2 ∧ fld (sl n i c s) 8 10 = be c 2 ∧ fld (sl n i c s) 10 12 = be s.length 2 ∧ fld (sl n i c s) 16 (16 + s.length) = s := by
  unfold sl hd mk
  refine ⟨?_, ?_, ?_, ?_, ?_⟩
  · simp only [List.append_assoc]
    exact fld_app (A := []) (B := be n 6) rfl (be_length _ _)
  · simp only [List.append_assoc]
    exact fld_app (be_length _ _) (by rw [be_length])
  · simp only [List.append_assoc]
    rw [← List.append_assoc (be n 6)]
    exact fld_app (by rw [List.length_append, be_length, be_length]) (by rw [be_length])
  · simp only [List.append_assoc]
    rw [← List.append_assoc (be n 6), ← List.append_assoc (be n 6 ++ be i 2)]
    exact fld_app (by simp only [List.length_append, be_length]) (by rw [be_length])
  · simp only [List.append_assoc]
    rw [← List.append_assoc (be n 6), ← List.append_assoc (be n 6 ++ be i 2), ← List.append_assoc (be n 6 ++ be i 2 ++ be c 2), ← List.append_assoc (be n 6 ++ be i 2 ++ be c 2 ++ be s.length 2)]
    exact fld_app (by simp only [List.length_append, be_length]) (by omega)
theorem opn_sl {n i c : Nat} {s : List UInt8} (hf : fit n i c) (h : s.length ≤ 104) : opn (sl n i c s) = some (n, i, c, s) := by
  obtain ⟨f1, f2, f3, f4, f5⟩ := sl_fields n i c s
  have g := hf
  unfold fit at g
  have e1 : num (be n 6) = n := num_be n 6 (by rw [show (256 : Nat) ^ 6 = 281474976710656 by decide]; omega)
  have e2 : num (be i 2) = i := num_be i 2 (by rw [show (256 : Nat) ^ 2 = 65536 by decide]; omega)
  have e3 : num (be c 2) = c := num_be c 2 (by rw [show (256 : Nat) ^ 2 = 65536 by decide]; omega)
  have e4 : num (be s.length 2) = s.length := num_be s.length 2 (by rw [show (256 : Nat) ^ 2 = 65536 by decide]; omega)
  unfold opn
  rw [f1, f2, f3, f4, e1, e2, e3, e4, f5, if_pos ⟨sl_length n i c s h, h, hf, rfl⟩]
theorem opn_some {l : List UInt8} {n i c : Nat} {s : List UInt8} (h : opn l = some (n, i, c, s)) : l = sl n i c s ∧ fit n i c ∧ s.length ≤ 104 := by
  unfold opn at h
  split at h
  · rename_i hc
    obtain ⟨h1, h2, h3, h4⟩ := hc
    have h := Option.some.inj h
    simp only [Prod.mk.injEq] at h
    obtain ⟨rfl, rfl, rfl, rfl⟩ := h
    refine ⟨h4.symm, h3, ?_⟩
    rw [fld, List.length_take]
    omega
  · cases h
theorem getD_left {A B : List UInt8} {p : Nat} (h : p < A.length) : (A ++ B).getD p 0 = A.getD p 0 := by
  simp only [List.getD, List.getElem?_append_left h]
theorem getD_right {A B : List UInt8} {p q : Nat} (h : A.length = q) : (A ++ B).getD (q + p) 0 = B.getD p 0 := by
  subst h
  simp only [List.getD]
  rw [List.getElem?_append_right (Nat.le_add_right _ _), Nat.add_sub_cancel_left]
theorem sl_left (n i c : Nat) (s : List UInt8) (p : Nat) (h : p < 8) : (sl n i c s).getD p 0 = (mk n i).getD p 0 := by
  unfold sl hd
  simp only [List.append_assoc]
  exact getD_left (by rw [mk_length]; exact h)
theorem sl_right (n i c : Nat) (s : List UInt8) (hs : s.length ≤ 104) (p : Nat) : (sl n i c s).getD (120 + p) 0 = (mk n i).getD p 0 := by
  unfold sl
  exact getD_right (by simp only [List.length_append, hd_length, be_length, List.length_replicate]; omega)
theorem num_zeros (k : Nat) : num (List.replicate k 0) = 0 := by
  induction k with
  | zero => rfl
  | succ k ih => rw [List.replicate_succ', num_snoc, ih]; rfl
theorem mk_some {n i c : Nat} (hf : fit n i c) : ∃ p, p < 8 ∧ (mk n i).getD p 0 ≠ 0 := by
  unfold fit at hf
  apply Classical.byContradiction
  intro hne
  have hz : be n 6 = List.replicate 6 0 := by
    apply List.ext_getElem?
    intro p
    by_cases hp : p < 6
    · have h1 : (mk n i).getD p 0 = 0 := Classical.byContradiction fun h => hne ⟨p, by omega, h⟩
      rw [mk, getD_left (by rw [be_length]; exact hp)] at h1
      have h2 : p < (be n 6).length := by rw [be_length]; exact hp
      rw [List.getElem?_eq_getElem h2, List.getElem?_eq_getElem (by rw [List.length_replicate]; exact hp), List.getElem_replicate]
      simp only [List.getD, List.getElem?_eq_getElem h2, Option.getD_some] at h1
      rw [h1]
    · rw [List.getElem?_eq_none (by rw [be_length]; omega), List.getElem?_eq_none (by rw [List.length_replicate]; omega)]
  have e1 : num (be n 6) = n := num_be n 6 (by rw [show (256 : Nat) ^ 6 = 281474976710656 by decide]; omega)
  rw [hz, num_zeros] at e1
  omega
/-- b is of a what stands from some place to another one, zeros elsewhere. -/
def Torn (a b : List UInt8) : Prop := a.length = 128 ∧ b.length = 128 ∧ ∃ j k, ∀ p, b.getD p 0 = if j ≤ p ∧ p < k then a.getD p 0 else 0
theorem ext_getD {a b : List UInt8} (hl : a.length = b.length) (h : ∀ p, p < a.length → a.getD p 0 = b.getD p 0) : a = b := by
  apply List.ext_getElem hl
  intro p h1 h2
  have := h p h1
  simp only [List.getD, List.getElem?_eq_getElem h1, List.getElem?_eq_getElem h2, Option.getD_some] at this
  exact this
theorem torn_open {n i c n2 i2 c2 : Nat} {s s2 b : List UInt8} (hf : fit n i c) (hs : s.length ≤ 104) (ht : Torn (sl n i c s) b) (ho : opn b = some (n2, i2, c2, s2)) : b = sl n i c s := by
  obtain ⟨hb, hf2, hs2⟩ := opn_some ho
  obtain ⟨h1, h2, j, k, hp⟩ := ht
  obtain ⟨q, hq, hne⟩ := mk_some hf2
  have a1 : b.getD q 0 ≠ 0 := by rw [hb, sl_left _ _ _ _ q hq]; exact hne
  have a2 : b.getD (120 + q) 0 ≠ 0 := by rw [hb, sl_right _ _ _ _ hs2 q]; exact hne
  have j1 : j ≤ q := by
    apply Classical.byContradiction
    intro hh
    apply a1
    rw [hp, if_neg (by omega)]
  have k1 : 120 + q < k := by
    apply Classical.byContradiction
    intro hh
    apply a2
    rw [hp, if_neg (by omega)]
  have hbm : ∀ p, p < 8 → b.getD (120 + p) 0 = b.getD p 0 := fun p h => by rw [hb, sl_left _ _ _ _ p h, sl_right _ _ _ _ hs2 p]
  have ham : ∀ p, p < 8 → (sl n i c s).getD (120 + p) 0 = (sl n i c s).getD p 0 := fun p h => by rw [sl_left _ _ _ _ p h, sl_right _ _ _ _ hs p]
  apply ext_getD (by rw [h1, h2])
  intro p hpl
  rw [h2] at hpl
  by_cases c1 : p < j
  · have e1 : b.getD p 0 = 0 := by rw [hp, if_neg (by omega)]
    have e2 := hbm p (by omega)
    rw [hp (120 + p), if_pos (by omega), ham p (by omega), e1] at e2
    rw [e1, e2]
  · by_cases c2 : p < k
    · rw [hp, if_pos (by omega)]
    · have e1 : b.getD p 0 = 0 := by rw [hp, if_neg (by omega)]
      obtain ⟨r, rfl⟩ : ∃ r, p = 120 + r := ⟨p - 120, by omega⟩
      have e2 := hbm r (by omega)
      rw [e1, hp r, if_pos (by omega)] at e2
      rw [e1, ham r (by omega)]
      exact e2
def zeros : List UInt8 := List.replicate 128 0
theorem getD_zeros (p : Nat) : zeros.getD p 0 = 0 := by
  unfold zeros List.getD
  rw [List.getElem?_replicate]
  by_cases h : p < 128
  · rw [if_pos h]; rfl
  · rw [if_neg h]; rfl
theorem getD_mix {x y : List UInt8} {k p : Nat} (hx : x.length = 128) (hk : k ≤ 128) : (x.take k ++ y.drop k).getD p 0 = if p < k then x.getD p 0 else y.getD p 0 := by
  have hl : (x.take k).length = k := by rw [List.length_take]; omega
  by_cases h : p < k
  · rw [if_pos h, getD_left (by rw [hl]; exact h)]
    simp only [List.getD, List.getElem?_take, if_pos h]
  · rw [if_neg h]
    obtain ⟨r, rfl⟩ : ∃ r, p = k + r := ⟨p - k, by omega⟩
    rw [getD_right hl]
    simp only [List.getD, List.getElem?_drop]
theorem mix_length {x y : List UInt8} {k : Nat} (hx : x.length = 128) (hy : y.length = 128) (hk : k ≤ 128) : (x.take k ++ y.drop k).length = 128 := by
  rw [List.length_append, List.length_take, List.length_drop]; omega
theorem torn_first {a : List UInt8} (ha : a.length = 128) {k : Nat} (hk : k ≤ 128) : Torn a (a.take k ++ zeros.drop k) := by
  refine ⟨ha, mix_length ha (by simp [zeros]) hk, 0, k, fun p => ?_⟩
  rw [getD_mix ha hk, getD_zeros]
  by_cases h : p < k
  · rw [if_pos h, if_pos ⟨Nat.zero_le _, h⟩]
  · rw [if_neg h, if_neg (by omega)]
theorem torn_more {a b : List UInt8} (h : Torn a b) {m : Nat} (hm : m ≤ 128) : Torn a (zeros.take m ++ b.drop m) := by
  obtain ⟨ha, hb, j, k, hp⟩ := h
  have hz : zeros.length = 128 := by simp [zeros]
  refine ⟨ha, mix_length hz hb hm, max j m, k, fun p => ?_⟩
  rw [getD_mix hz hm, getD_zeros]
  by_cases h : p < m
  · rw [if_pos h, if_neg (by omega)]
  · rw [if_neg h, hp]
    by_cases h2 : j ≤ p ∧ p < k
    · rw [if_pos h2, if_pos (by omega)]
    · rw [if_neg h2, if_neg (by omega)]
end Go.Proofs.Ytigiaiddnbpcmaa.StampP
