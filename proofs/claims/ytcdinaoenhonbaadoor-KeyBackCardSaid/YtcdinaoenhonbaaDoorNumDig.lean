/-
  Plain facts on digits: lists of bytes and numbers alone, nothing of the program. No conditions.
-/
import Derived.Lib.ItoaNum
import Derived.Lib.Strings
import Derived.Lib.Hide
set_option maxRecDepth 4000
namespace Go.Proofs.YtcdinaoenhonbaaDoor
namespace NumP

def isDig (c : UInt8) : Bool := decide (48 ≤ c.toNat) && decide (c.toNat ≤ 57)
def allDig : List UInt8 → Bool
  | [] => true
  | c :: r => isDig c && allDig r
/-- Is a text the digits of a number that is not negative? -/
def plainB (l : List UInt8) : Bool := !l.isEmpty && !(decide (1 < l.length) && l.headD 0 == 48) && allDig l
/-- The number whose digits follow, or none if it is too far from 0. -/
def valUp (n : Int) : List UInt8 → Option Int
  | [] => some n
  | c :: r => if (4611686018427387904 - ((c.toNat : Int) - 48)) / 10 < n then none else valUp (n * 10 + ((c.toNat : Int) - 48)) r
def numQ (neg : Bool) (sz : List UInt8) : Int × Int :=
  if !plainB sz || (neg && sz == [48]) then (0, 7) else match valUp 0 sz with
    | none => (0, 11)
    | some n => (if neg then -n else n, 0)
def numP (l : List UInt8) : Int × Int := numQ (Lib.hasPrefix l [45]) (Lib.trimPrefix l [45])

theorem isDig_yes {c : UInt8} (h : 48 ≤ c.toNat) (k : c.toNat ≤ 57) : isDig c = true := by unfold isDig; simp [h, k]
theorem isDig_no {c : UInt8} (h : c.toNat < 48 ∨ 57 < c.toNat) : isDig c = false := by
  unfold isDig
  rcases h with h | h
  · have : ¬ 48 ≤ c.toNat := by omega
    simp [this]
  · have : ¬ c.toNat ≤ 57 := by omega
    simp [this]
theorem isDig_iff {c : UInt8} : isDig c = true ↔ 48 ≤ c.toNat ∧ c.toNat ≤ 57 := by unfold isDig; simp

theorem at_list (s : ByteArray) (k : Nat) (h : k < s.size) : s.data.toList[k]? = some s[k] := by
  have h2 : k < s.data.toList.length := by rw [Array.length_toList]; exact h
  rw [List.getElem?_eq_getElem h2]; rfl
theorem drop_list (s : ByteArray) (k : Nat) (h : k < s.size) : s.data.toList.drop k = s[k] :: s.data.toList.drop (k + 1) := by
  have h2 : k < s.data.toList.length := by rw [Array.length_toList]; exact h
  rw [List.drop_eq_getElem_cons h2]; rfl
theorem drop_done (s : ByteArray) (k : Nat) (h : ¬ k < s.size) : s.data.toList.drop k = [] := by
  apply List.drop_eq_nil_of_le; rw [Array.length_toList]; exact Nat.le_of_not_lt h
theorem allDig_at : ∀ {l : List UInt8}, allDig l = true → ∀ (k : Nat) (c : UInt8), l[k]? = some c → 48 ≤ c.toNat ∧ c.toNat ≤ 57
  | [], _, k, c, h => by simp at h
  | x :: r, ha, k, c, h => by
    rw [allDig, Bool.and_eq_true] at ha
    cases k with
    | zero => simp at h; subst h; exact isDig_iff.1 ha.1
    | succ k => exact allDig_at ha.2 k c (by simpa using h)
theorem plainB_empty {l : List UInt8} (h : l.length = 0) : plainB l = false := by
  obtain rfl := List.eq_nil_of_length_eq_zero h
  rfl
theorem plainB_zero {l : List UInt8} {c : UInt8} (h : 1 < l.length) (hc : l[0]? = some c) (h0 : c.toNat = 48) : plainB l = false := by
  have : c = 48 := UInt8.toNat_inj.1 h0
  subst this
  cases l with
  | nil => simp at h
  | cons x r => simp at hc; subst hc; simp at h; simp [plainB, h]
theorem plainB_rest {l : List UInt8} {c : UInt8} (h : 0 < l.length) (hc : l[0]? = some c) (h0 : l.length ≤ 1 ∨ c.toNat ≠ 48) : plainB l = allDig l := by
  cases l with
  | nil => simp at h
  | cons x r =>
    simp at hc; subst hc
    rcases h0 with h0 | h0
    · have : ¬ 1 < (x :: r).length := by omega
      simp only [plainB, this]
      simp
    · have : (x == 48) = false := by
        rw [beq_eq_false_iff_ne]; intro e; subst e; exact h0 rfl
      simp [plainB, this]
theorem valUp_range : ∀ {l : List UInt8} {n m : Int}, 0 ≤ n → n ≤ 4611686018427387904 → allDig l = true → valUp n l = some m → 0 ≤ m ∧ m ≤ 4611686018427387904
  | [], n, m, h0, h1, _, h => by simp only [valUp, Option.some.injEq] at h; omega
  | c :: r, n, m, h0, h1, ha, h => by
    rw [allDig, Bool.and_eq_true] at ha
    have hc := isDig_iff.1 ha.1
    rw [valUp] at h
    split at h
    · cases h
    · exact valUp_range (by omega) (by omega) ha.2 h
theorem plainB_dig {l : List UInt8} (h : plainB l = true) : allDig l = true := by
  unfold plainB at h; simp only [Bool.and_eq_true] at h; exact h.2
def valV (l : List UInt8) : Int := (valUp 0 l).getD 0
def valB (l : List UInt8) : Bool := (valUp 0 l).isSome
theorem valUp_over {c : UInt8} {r : List UInt8} {n : Int} {k : Nat} (hc : c.toNat = k) (h : (4611686018427387904 - ((k : Int) - 48)) / 10 < n) : valUp n (c :: r) = none := by
  rw [valUp, hc, if_pos h]
theorem valUp_fits {c : UInt8} {r : List UInt8} {n : Int} {k : Nat} (hc : c.toNat = k) (h : ¬ (4611686018427387904 - ((k : Int) - 48)) / 10 < n) : valUp n (c :: r) = valUp (n * 10 + ((k : Int) - 48)) r := by
  rw [valUp, hc, if_neg h]
theorem val_none {l : List UInt8} (h : valUp 0 l = none) : valV l = 0 ∧ valB l = false := by unfold valV valB; rw [h]; exact ⟨rfl, rfl⟩
theorem val_some {l : List UInt8} {m : Int} (h : valUp 0 l = some m) : valV l = m ∧ valB l = true := by unfold valV valB; rw [h]; exact ⟨rfl, rfl⟩
theorem numQ_no {neg : Bool} {sz : List UInt8} (h : plainB sz = false) : numQ neg sz = (0, 7) := by unfold numQ; simp [h]
theorem numQ_zero {sz : List UInt8} (h : sz = [48]) : numQ true sz = (0, 7) := by unfold numQ; simp [h]
theorem numQ_far {neg : Bool} {sz : List UInt8} (h : plainB sz = true) (k : neg = false ∨ sz ≠ [48]) (hv : valUp 0 sz = none) : numQ neg sz = (0, 11) := by
  unfold numQ
  rcases k with k | k
  · simp [h, k, hv]
  · have : (sz == [48]) = false := beq_eq_false_iff_ne.2 k
    simp [h, this, hv]
theorem numQ_yes {neg : Bool} {sz : List UInt8} {n : Int} (h : plainB sz = true) (k : neg = false ∨ sz ≠ [48]) (hv : valUp 0 sz = some n) : numQ neg sz = (if neg then -n else n, 0) := by
  unfold numQ
  rcases k with k | k
  · simp [h, k, hv]
  · have : (sz == [48]) = false := beq_eq_false_iff_ne.2 k
    simp [h, this, hv]
theorem hasPrefix_45 (x : UInt8) (r : List UInt8) : Lib.hasPrefix (x :: r) [45] = (45 == x) := by
  simp [Lib.hasPrefix, List.isPrefixOf]
theorem numP_neg {l : List UInt8} {c : UInt8} (hc : l[0]? = some c) (h : c.toNat = 45) : numP l = numQ true (l.drop 1) := by
  have : c = 45 := UInt8.toNat_inj.1 h
  subst this
  cases l with
  | nil => simp at hc
  | cons x r =>
    simp at hc; subst hc
    simp [numP, Lib.trimPrefix, hasPrefix_45]
theorem numP_pos {l : List UInt8} (h : ∀ c, l[0]? = some c → c.toNat ≠ 45) : numP l = numQ false (l.drop 0) := by
  cases l with
  | nil => rfl
  | cons x r =>
    have hx : (45 == x) = false := by
      rw [beq_eq_false_iff_ne]; intro e; subst e; exact h 45 (by simp) rfl
    simp [numP, Lib.trimPrefix, hasPrefix_45, hx]
theorem dig_at (s : ByteArray) {f k : Nat} (h : allDig (s.data.toList.drop f) = true) (hf : f ≤ k) (hk : k < s.size) : 48 ≤ s[k].toNat ∧ s[k].toNat ≤ 57 := by
  apply allDig_at h (k - f)
  rw [List.getElem?_drop]
  have : f + (k - f) = k := by omega
  rw [this]
  exact at_list s k hk
theorem len_drop (s : ByteArray) (f : Nat) : (s.data.toList.drop f).length = s.size - f := by
  rw [List.length_drop, Array.length_toList]; rfl
theorem head_drop (s : ByteArray) (f : Nat) (h : f < s.size) : (s.data.toList.drop f)[0]? = some s[f] := by
  rw [List.getElem?_drop, Nat.add_zero]; exact at_list s f h
theorem not_zero {l : List UInt8} {c : UInt8} (hc : l[0]? = some c) (h : c.toNat ≠ 48) : l ≠ [48] := by
  intro e; subst e; simp at hc; subst hc; exact h rfl
/-- '0' ahead behind a sign: no number's digits. -/
theorem numQ_sign_zero {l : List UInt8} {c : UInt8} (hc : l[0]? = some c) (h : c.toNat = 48) : numQ true l = (0, 7) := by
  by_cases h1 : 1 < l.length
  · exact numQ_no (plainB_zero h1 hc h)
  · cases l with
    | nil => simp at hc
    | cons x r =>
      cases r with
      | cons y r => simp at h1
      | nil =>
        simp at hc; subst hc
        have : x = 48 := UInt8.toNat_inj.1 h
        subst this
        exact numQ_zero rfl
theorem itoa_small {n : Int} (h0 : 0 ≤ n) (h : n < 10) : Lib.itoa n = [UInt8.ofNat (48 + n).toNat] := by
  rw [Lib.itoa, if_neg (by omega), Lib.decDigits_one (by omega)]
  congr 2
  omega
theorem itoa_small_neg {m : Int} (h0 : 1 ≤ m) (h : m < 10) : Lib.itoa (-m) = [45, UInt8.ofNat (48 + m).toNat] := by
  rw [Lib.itoa, if_pos (by omega), Lib.decDigits_one (by omega)]
  congr 3
  omega
theorem dec_step {u : Nat} (h : 10 ≤ u) : Lib.decDigits u = Lib.decDigits (u / 10) ++ [UInt8.ofNat (48 + u % 10)] := by
  rw [Lib.decDigits, dif_neg (by omega)]
theorem itoa_step {n : Int} (h : 10 ≤ n) : Lib.itoa n = Lib.itoa (n / 10) ++ [UInt8.ofNat (48 + n % 10).toNat] := by
  rw [Lib.itoa, if_neg (by omega), Lib.itoa, if_neg (by omega), dec_step (by omega)]
  have h1 : n.toNat / 10 = (n / 10).toNat := by omega
  have h2 : 48 + n.toNat % 10 = (48 + n % 10).toNat := by omega
  rw [h1, h2]
theorem itoa_step_neg {m : Int} (h : 10 ≤ m) : Lib.itoa (-m) = Lib.itoa (-(m / 10)) ++ [UInt8.ofNat (48 + m % 10).toNat] := by
  rw [Lib.itoa, if_pos (by omega), Lib.itoa, if_pos (by omega), dec_step (by omega)]
  have h1 : (-m).natAbs / 10 = (-(m / 10)).natAbs := by omega
  have h2 : 48 + (-m).natAbs % 10 = (48 + m % 10).toNat := by omega
  rw [h1, h2]
  rfl
end NumP
end Go.Proofs.YtcdinaoenhonbaaDoor
