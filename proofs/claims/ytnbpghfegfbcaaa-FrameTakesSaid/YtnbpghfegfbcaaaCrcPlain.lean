/-
  The checksum in plain words: a step, a byte, octets; what a turned bit does; no program.
-/
import Derived.Laws.BitsAllLaws
set_option linter.unusedVariables false
set_option maxRecDepth 4000
namespace Go.Proofs.Ytnbpghfegfbcaaa.CrcP

/-- What is XORed where a 1 falls out. -/
def poly : BitVec 32 := 0xedb88320#32
def stp (n : BitVec 32) : BitVec 32 := (n >>> 1) ^^^ (if n.getLsbD 0 = true then poly else 0#32)
def stps : Nat → BitVec 32 → BitVec 32
  | 0, n => n
  | k + 1, n => stps k (stp n)
def add (n : BitVec 32) (c : UInt8) : BitVec 32 := stps 8 (n ^^^ BitVec.ofNat 32 c.toNat)
def run (n : BitVec 32) (l : List UInt8) : BitVec 32 := l.foldl add n
def more (n : BitVec 32) (l : List UInt8) : BitVec 32 := ~~~ run (~~~ n) l

theorem xor4 (a b c d : BitVec 32) : (a ^^^ b) ^^^ (c ^^^ d) = (a ^^^ c) ^^^ (b ^^^ d) := by ac_rfl
theorem stp_xor (a b : BitVec 32) : stp (a ^^^ b) = stp a ^^^ stp b := by
  unfold stp
  rw [xor4, BitVec.ushiftRight_xor_distrib, BitVec.getLsbD_xor]
  congr 1
  cases a.getLsbD 0 <;> cases b.getLsbD 0 <;> simp
theorem stps_xor (k : Nat) (a b : BitVec 32) : stps k (a ^^^ b) = stps k a ^^^ stps k b := by
  induction k generalizing a b with
  | zero => rfl
  | succ k ih => show stps k (stp _) = stps k (stp a) ^^^ stps k (stp b); rw [stp_xor, ih]
theorem stps_add (i k : Nat) (a : BitVec 32) : stps (i + k) a = stps i (stps k a) := by
  induction k generalizing a with
  | zero => rfl
  | succ k ih => show stps (i + k) (stp a) = stps i (stps k (stp a)); exact ih _
theorem stp_ne {a : BitVec 32} (h : a ≠ 0#32) : stp a ≠ 0#32 := by
  intro e
  apply h
  have h31 : (stp a).getLsbD 31 = a.getLsbD 0 := by
    unfold stp
    rw [BitVec.getLsbD_xor, BitVec.getLsbD_ushiftRight, BitVec.getLsbD_of_ge a (1 + 31) (by omega)]
    cases a.getLsbD 0 <;> decide
  rw [e] at h31
  have h0 : a.getLsbD 0 = false := by rw [← h31]; decide
  have hs : stp a = a >>> 1 := by unfold stp; rw [h0]; simp
  rw [e] at hs
  apply BitVec.eq_of_getLsbD_eq
  intro i hi
  rw [BitVec.getLsbD_zero]
  cases i with
  | zero => exact h0
  | succ i =>
    have := congrArg (fun x : BitVec 32 => x.getLsbD i) hs
    simp only [BitVec.getLsbD_ushiftRight, BitVec.getLsbD_zero] at this
    rw [Nat.add_comm]; exact this.symm
theorem stps_ne (k : Nat) {a : BitVec 32} (h : a ≠ 0#32) : stps k a ≠ 0#32 := by
  induction k generalizing a with
  | zero => exact h
  | succ k ih => exact ih (stp_ne h)
theorem stps_zero (k : Nat) : stps k 0#32 = 0#32 := by
  induction k with
  | zero => rfl
  | succ k ih => show stps k (stp 0#32) = _; rw [show stp 0#32 = 0#32 by decide]; exact ih
theorem stps_pow : ∀ k, k < 32 → stps k (BitVec.twoPow 32 k) = 1#32 := by decide +kernel
theorem stps_bit (T k : Nat) (hk : k < 32) (h : k ≤ T) : stps (T - k) 1#32 = stps T (BitVec.twoPow 32 k) := by
  rw [← stps_pow k hk, ← stps_add, Nat.sub_add_cancel h]

theorem run_append (n : BitVec 32) (a b : List UInt8) : run n (a ++ b) = run (run n a) b := List.foldl_append
theorem run_cons (n : BitVec 32) (c : UInt8) (l : List UInt8) : run n (c :: l) = run (add n c) l := rfl
theorem add_xor (a d : BitVec 32) (c : UInt8) : add (a ^^^ d) c = add a c ^^^ stps 8 d := by
  unfold add
  rw [← stps_xor]
  congr 1
  ac_rfl
theorem run_xor (a d : BitVec 32) (l : List UInt8) : run (a ^^^ d) l = run a l ^^^ stps (8 * l.length) d := by
  induction l generalizing a d with
  | nil => rfl
  | cons c l ih => rw [run_cons, run_cons, add_xor, ih, ← stps_add, List.length_cons, Nat.mul_succ]
theorem byte_xor : ∀ r, r < 8 → BitVec.ofNat 32 (2 ^ r) = BitVec.twoPow 32 r := by decide
/-- What a turned bit does to a byte that is added. -/
theorem add_bit (n : BitVec 32) (c d : UInt8) (r : Nat) (hr : r < 8) (hd : d.toNat = c.toNat ^^^ 2 ^ r) : add n d = add n c ^^^ stps (8 - r) 1#32 := by
  rw [stps_bit 8 r (by omega) (by omega)]
  unfold add
  rw [← stps_xor, hd]
  congr 1
  rw [BitVec.xor_assoc]
  congr 1
  apply BitVec.eq_of_toNat_eq
  have h1 := c.toNat_lt
  have h2 : (2 : Nat) ^ r < 2 ^ 8 := Nat.pow_lt_pow_right (by omega) hr
  have h3 : c.toNat ^^^ 2 ^ r < 2 ^ 8 := Nat.xor_lt_two_pow h1 h2
  rw [BitVec.toNat_xor, BitVec.toNat_ofNat, BitVec.toNat_ofNat, BitVec.toNat_twoPow, Nat.mod_eq_of_lt (by omega), Nat.mod_eq_of_lt (by omega), Nat.mod_eq_of_lt (by omega)]
/-- What a turned bit does to the octets that bear it. -/
theorem run_turn (n : BitVec 32) (l : List UInt8) (j : Nat) (d : UInt8) (hj : j / 8 < l.length) (hd : d.toNat = (l.getD (j / 8) 0).toNat ^^^ 2 ^ (j % 8)) :
    run n (l.set (j / 8) d) = run n l ^^^ stps (8 * l.length - j) 1#32 := by
  obtain ⟨q, hq⟩ : ∃ q, j / 8 = q := ⟨_, rfl⟩
  rw [hq] at hj hd ⊢
  have hl : l = l.take q ++ l.getD q 0 :: l.drop (q + 1) := by
    conv => lhs; rw [← List.take_append_drop q l, List.drop_eq_getElem_cons hj]
    simp [List.getD, hj]
  have hs : l.set q d = l.take q ++ d :: l.drop (q + 1) := by
    rw [List.set_eq_take_append_cons_drop, if_pos hj]
  obtain ⟨c, hc⟩ : ∃ c, l.getD q 0 = c := ⟨_, rfl⟩
  rw [hc] at hd hl
  rw [hs]
  conv => rhs; rw [hl]
  rw [run_append, run_append, run_cons, run_cons, add_bit _ c d (j % 8) (by omega) hd, run_xor, ← stps_add]
  congr 2
  simp only [List.length_append, List.length_take, List.length_cons, List.length_drop]
  omega
theorem run_turn32 (n : BitVec 32) (l : List UInt8) (f k : Nat) (d : UInt8) (hk : k < 32) (hj : f + k < 8 * l.length) (hd : d.toNat = (l.getD ((f + k) / 8) 0).toNat ^^^ 2 ^ ((f + k) % 8)) :
    run n (l.set ((f + k) / 8) d) = run n l ^^^ stps (8 * l.length - f) (BitVec.twoPow 32 k) := by
  rw [run_turn n l (f + k) d (by omega) hd, ← stps_bit (8 * l.length - f) k hk (by omega), Nat.sub_sub]
/-- What is turned so far: m tells which bits, of the first k ones. -/
def Turned (s b : List UInt8) (f k : Nat) (t : Bool) (n : BitVec 32) : Prop :=
  b.length = s.length ∧ ∃ m : BitVec 32, m.toNat < 2 ^ k ∧ t = decide (m ≠ 0#32) ∧ run n b = run n s ^^^ stps (8 * s.length - f) m
theorem turned_zero (s : List UInt8) (f : Nat) (n : BitVec 32) : Turned s s f 0 false n :=
  ⟨rfl, 0#32, by decide, by decide, by rw [stps_zero, BitVec.xor_zero]⟩
theorem turned_skip {s b : List UInt8} {f k : Nat} {t : Bool} {n : BitVec 32} (h : Turned s b f k t n) : Turned s b f (k + 1) t n := by
  obtain ⟨hl, m, hm, ht, hr⟩ := h
  exact ⟨hl, m, by rw [Nat.pow_succ]; omega, ht, hr⟩
theorem turned_turn {s b : List UInt8} {f k : Nat} {t : Bool} {n : BitVec 32} (h : Turned s b f k t n) (hk : k < 32) (hj : f + k < 8 * s.length) (d : UInt8) (hd : d.toNat = (b.getD ((f + k) / 8) 0).toNat ^^^ 2 ^ ((f + k) % 8)) :
    Turned s (b.set ((f + k) / 8) d) f (k + 1) true n := by
  obtain ⟨hl, m, hm, ht, hr⟩ := h
  have hp : (BitVec.twoPow 32 k).toNat = 2 ^ k := by
    rw [BitVec.toNat_twoPow]
    exact Nat.mod_eq_of_lt (Nat.pow_lt_pow_right (by omega) hk)
  refine ⟨by rw [List.length_set]; exact hl, m ^^^ BitVec.twoPow 32 k, ?_, ?_, ?_⟩
  · rw [BitVec.toNat_xor, hp]
    exact Nat.xor_lt_two_pow (by rw [Nat.pow_succ]; omega) (Nat.pow_lt_pow_right (by omega) (by omega))
  · symm
    rw [decide_eq_true_eq]
    intro e
    have e2 : m = BitVec.twoPow 32 k := by
      have := congrArg (· ^^^ BitVec.twoPow 32 k) e
      simp only [BitVec.xor_assoc, BitVec.xor_self, BitVec.xor_zero, BitVec.zero_xor] at this
      exact this
    rw [e2, hp] at hm
    omega
  · rw [run_turn32 n b f k d hk (by rw [hl]; exact hj) hd, hr, hl, stps_xor, BitVec.xor_assoc]
theorem not_inj {a b : BitVec 32} : ~~~ a = ~~~ b ↔ a = b := by
  constructor
  · intro h; rw [← BitVec.not_not (b := a), h, BitVec.not_not]
  · intro h; rw [h]
/-- The checksum is another one just where some bit was turned. -/
theorem turned_end {s b : List UInt8} {f k : Nat} {t : Bool} (n : BitVec 32) (h : Turned s b f k t (~~~ n)) : decide (more n b ≠ more n s) = t := by
  obtain ⟨hl, m, hm, ht, hr⟩ := h
  rw [ht]
  apply decide_eq_decide.2
  unfold more
  rw [ne_eq, not_inj, hr]
  constructor
  · intro h e
    apply h
    rw [e, stps_zero, BitVec.xor_zero]
  · intro h e
    apply stps_ne (8 * s.length - f) h
    have := congrArg (run (~~~ n) s ^^^ ·) e
    simp only [← BitVec.xor_assoc, BitVec.xor_self, BitVec.zero_xor] at this
    exact this

theorem more_nil (n : BitVec 32) : more n [] = n := by unfold more run; exact BitVec.not_not
theorem more_append (n : BitVec 32) (a b : List UInt8) : more (more n a) b = more n (a ++ b) := by
  unfold more; rw [BitVec.not_not, run_append]

/-- The four octets of a sum, the highest first. -/
def oc (n : Nat) : List UInt8 := [UInt8.ofNat (n / 16777216), UInt8.ofNat (n / 65536), UInt8.ofNat (n / 256), UInt8.ofNat n]
def num (l : List UInt8) : Nat := l.foldl (fun x c => x * 256 + c.toNat) 0
theorem num_snoc (l : List UInt8) (c : UInt8) : num (l ++ [c]) = num l * 256 + c.toNat := by unfold num; rw [List.foldl_append]; rfl
theorem num_up (l : List UInt8) (x : Nat) : l.foldl (fun x c => x * 256 + c.toNat) x < (x + 1) * 256 ^ l.length := by
  induction l generalizing x with
  | nil => simp
  | cons c l ih =>
    have h1 := ih (x * 256 + c.toNat)
    have h2 : (x * 256 + c.toNat + 1) * 256 ^ l.length ≤ ((x + 1) * 256) * 256 ^ l.length := Nat.mul_le_mul_right _ (by have := c.toNat_lt; omega)
    rw [List.foldl_cons, List.length_cons, Nat.pow_succ, Nat.mul_comm (256 ^ l.length), ← Nat.mul_assoc]
    exact Nat.lt_of_lt_of_le h1 h2
theorem num_lt (l : List UInt8) : num l < 256 ^ l.length := by
  have := num_up l 0
  rw [Nat.zero_add, Nat.one_mul] at this
  exact this
theorem num_oc {n : Nat} (h : n < 4294967296) : num (oc n) = n := by
  unfold num oc
  simp only [List.foldl_cons, List.foldl_nil, UInt8.toNat_ofNat']
  omega
/-- What Read tells: the sum and the error's number. -/
def rd (l : List UInt8) : Nat × Int := if l.length < 4 then (0, 8) else if 4 < l.length then (0, 9) else (num l, 0)
theorem rd_short {l : List UInt8} (h : l.length < 4) : rd l = (0, 8) := by unfold rd; rw [if_pos h]
theorem rd_long {l : List UInt8} (h : 4 < l.length) : rd l = (0, 9) := by unfold rd; rw [if_neg (by omega), if_pos h]
theorem rd_four {l : List UInt8} (h : l.length = 4) : rd l = (num l, 0) := by unfold rd; rw [if_neg (by omega), if_neg (by omega)]
theorem rd_oc {n : Nat} (h : n < 4294967296) : rd (oc n) = (n, 0) := by rw [rd_four rfl, num_oc h]
theorem sum_ex : more 0#32 [49, 50, 51, 52, 53, 54, 55, 56, 57] = 3421780262#32 := by decide +kernel
end Go.Proofs.Ytnbpghfegfbcaaa.CrcP
