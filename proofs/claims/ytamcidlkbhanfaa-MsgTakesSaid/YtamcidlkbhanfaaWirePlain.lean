/-
  Plain facts of the encoding of numbers, flags and texts: there and back; no program in it.
-/
import Derived.Test.YtamcidlkbhanfaaRows
set_option linter.unusedVariables false
set_option maxRecDepth 4000
namespace Go.Proofs.Ytamcidlkbhanfaa
namespace WireP

/-- The index of a number. -/
def ix (n : Int) : Nat := if n < 0 then (2 * (-n) - 1).toNat else (2 * n).toNat
/-- The number with an index. -/
def nx (x : Nat) : Int := if x % 2 = 1 then -((x / 2 : Nat) : Int) - 1 else ((x / 2 : Nat) : Int)
theorem nx_ix (n : Int) : nx (ix n) = n := by
  unfold nx ix
  split <;> split <;> omega
theorem ix_nx (x : Nat) : ix (nx x) = x := by
  unfold nx ix
  split <;> split <;> omega
theorem ix_neg {n : Int} (h : n < 0) : ((ix n : Nat) : Int) = 2 * -(n + 1) + 1 := by unfold ix; rw [if_pos h]; omega
theorem ix_pos {n : Int} (h : 0 ≤ n) : ((ix n : Nat) : Int) = 2 * n := by unfold ix; rw [if_neg (by omega)]; omega
theorem ix_lt {n : Int} (h0 : -9223372036854775808 ≤ n) (h1 : n ≤ 9223372036854775807) : ix n < 18446744073709551616 := by unfold ix; split <;> omega
theorem nx_bounds {x : Nat} (h : x < 18446744073709551616) : -9223372036854775808 ≤ nx x ∧ nx x ≤ 9223372036854775807 := by unfold nx; split <;> omega

/-- The number that octets are, the first one the greatest. -/
def val (l : List UInt8) : Nat := l.foldl (fun a c => a * 256 + c.toNat) 0
theorem val_nil : val [] = 0 := rfl
theorem val_snoc (l : List UInt8) (c : UInt8) : val (l ++ [c]) = val l * 256 + c.toNat := by simp [val, List.foldl_append]
theorem foldl_from (l : List UInt8) (a : Nat) : l.foldl (fun a c => a * 256 + c.toNat) a = a * 256 ^ l.length + val l := by
  induction l generalizing a with
  | nil => simp [val]
  | cons c r ih =>
    rw [List.foldl_cons, ih]
    have h2 : val (c :: r) = c.toNat * 256 ^ r.length + val r := by
      show List.foldl _ _ _ = _
      rw [List.foldl_cons, ih]; simp
    rw [h2, List.length_cons, Nat.pow_succ, Nat.add_mul, Nat.mul_assoc, Nat.mul_comm 256]
    omega
theorem val_cons (c : UInt8) (r : List UInt8) : val (c :: r) = c.toNat * 256 ^ r.length + val r := by
  show List.foldl _ _ _ = _
  rw [List.foldl_cons, foldl_from]; simp
theorem val_lt (l : List UInt8) : val l < 256 ^ l.length := by
  induction l with
  | nil => simp [val]
  | cons c r ih =>
    rw [val_cons, List.length_cons, Nat.pow_succ]
    have h := c.toNat_lt
    have h2 : c.toNat * 256 ^ r.length ≤ 255 * 256 ^ r.length := Nat.mul_le_mul_right _ (by omega)
    omega
theorem val_zeros (k : Nat) (l : List UInt8) : val (List.replicate k 0 ++ l) = val l := by
  induction k with
  | zero => simp
  | succ k ih => rw [List.replicate_succ, List.cons_append, val_cons, ih]; simp
theorem val_lt64 {l : List UInt8} (h : l.length ≤ 8) : val l < 18446744073709551616 := Nat.lt_of_lt_of_le (val_lt l) (Nat.pow_le_pow_right (by decide) h)
theorem val_lt56 {l : List UInt8} (h : l.length ≤ 7) : val l < 72057594037927936 := Nat.lt_of_lt_of_le (val_lt l) (Nat.pow_le_pow_right (by decide) h)

/-- The octets of a number, without leading zeros. -/
def be (x : Nat) : List UInt8 := if h : x = 0 then [] else be (x / 256) ++ [UInt8.ofNat (x % 256)]
termination_by x
decreasing_by omega
theorem be_zero : be 0 = [] := by unfold be; simp
theorem be_pos {x : Nat} (h : 0 < x) : be x = be (x / 256) ++ [UInt8.ofNat (x % 256)] := by
  rw [be, dif_neg (by omega)]
theorem ofNat_mod (x : Nat) : (UInt8.ofNat (x % 256)).toNat = x % 256 := by rw [UInt8.toNat_ofNat']; omega
theorem val_be (x : Nat) : val (be x) = x := by
  induction x using Nat.strongRecOn with
  | _ x ih =>
    by_cases h : x = 0
    · subst h; rw [be_zero, val_nil]
    · rw [be_pos (by omega), val_snoc, ih _ (by omega), ofNat_mod]; omega
theorem be_len (k : Nat) : ∀ x, x < 256 ^ k → (be x).length ≤ k := by
  induction k with
  | zero => intro x h; obtain rfl : x = 0 := by simpa using h
            rw [be_zero]; simp
  | succ k ih =>
    intro x h
    by_cases h0 : x = 0
    · subst h0; rw [be_zero]; simp
    · rw [be_pos (by omega), List.length_append]
      have := ih (x / 256) (by rw [Nat.pow_succ] at h; omega)
      simp; omega
theorem be_len8 {x : Nat} (h : x < 18446744073709551616) : (be x).length ≤ 8 := be_len 8 x h
theorem be_head (x : Nat) : (be x).headD 1 ≠ 0 := by
  induction x using Nat.strongRecOn with
  | _ x ih =>
    by_cases h : x = 0
    · subst h; rw [be_zero]; decide
    · rw [be_pos (by omega)]
      cases hb : be (x / 256) with
      | cons c r => have := ih (x / 256) (by omega); rw [hb] at this; simpa using this
      | nil =>
        have hx : x / 256 = 0 := by have := val_be (x / 256); rw [hb, val_nil] at this; omega
        intro h2
        have h3 : UInt8.ofNat (x % 256) = 0 := by simpa using h2
        have := congrArg UInt8.toNat h3
        rw [ofNat_mod] at this
        have : x % 256 = 0 := this
        omega
/-- Octets without leading zeros are those of their number. -/
theorem be_val : ∀ (n : Nat) (l : List UInt8), l.length = n → l.headD 1 ≠ 0 → be (val l) = l := by
  intro n
  induction n with
  | zero => intro l hl _; obtain rfl := List.eq_nil_of_length_eq_zero hl; rw [val_nil, be_zero]
  | succ n ih =>
    intro l hl hd
    have hne : l ≠ [] := by intro e; subst e; simp at hl
    obtain ⟨r, c, rfl⟩ : ∃ r c, l = r ++ [c] := ⟨l.dropLast, l.getLast hne, (List.dropLast_concat_getLast hne).symm⟩
    have hrl : r.length = n := by simpa using hl
    have hc := c.toNat_lt
    rw [val_snoc]
    have hpos : 0 < val r * 256 + c.toNat := by
      cases r with
      | nil =>
        have : c ≠ 0 := by simpa using hd
        have : c.toNat ≠ 0 := fun e => this (UInt8.toNat_inj.1 e)
        omega
      | cons a q =>
        have ha : a ≠ 0 := by simpa using hd
        have ha2 : a.toNat ≠ 0 := fun e => ha (UInt8.toNat_inj.1 e)
        rw [val_cons]
        have hp : 0 < 256 ^ q.length := Nat.pow_pos (by decide)
        have := Nat.mul_pos (Nat.pos_of_ne_zero ha2) hp
        omega
    rw [be_pos hpos]
    have h1 : (val r * 256 + c.toNat) / 256 = val r := by omega
    have h2 : (val r * 256 + c.toNat) % 256 = c.toNat := by omega
    rw [h1, h2, UInt8.ofNat_toNat]
    cases r with
    | nil => rw [val_nil, be_zero]
    | cons a q => rw [ih (a :: q) hrl (by simpa using hd)]

/-- The encoding of a number, of a flag, of a text, of a list of numbers. -/
def enc (n : Int) : List UInt8 := UInt8.ofNat (be (ix n)).length :: be (ix n)
def flag (b : Bool) : List UInt8 := if b then [1] else [0]
def text (l : List UInt8) : List UInt8 := enc (l.length : Int) ++ l
def encs (ns : List Int) : List UInt8 := ns.flatMap enc
theorem enc_len {n : Int} (h0 : -9223372036854775808 ≤ n) (h1 : n ≤ 9223372036854775807) : (enc n).length ≤ 9 := by
  have := be_len8 (ix_lt h0 h1)
  simp [enc]; omega
theorem encs_snoc (ns : List Int) (n : Int) : encs (ns ++ [n]) = encs ns ++ enc n := by simp [encs]
theorem encs_cons (n : Int) (ns : List Int) : encs (n :: ns) = enc n ++ encs ns := by simp [encs]
theorem encs_len (ns : List Int) (h : ∀ n ∈ ns, -9223372036854775808 ≤ n ∧ n ≤ 9223372036854775807) : (encs ns).length ≤ 9 * ns.length := by
  induction ns with
  | nil => simp [encs]
  | cons n r ih =>
    have h1 := h n (by simp)
    have := enc_len h1.1 h1.2
    have := ih (fun m hm => h m (by simp [hm]))
    rw [encs_cons, List.length_append, List.length_cons]; omega

/-- How many octets the number at the beginning has, its octets, and whether there is one. -/
def nl (l : List UInt8) : Nat := (l.headD 0).toNat
def nb (l : List UInt8) : List UInt8 := (l.drop 1).take (nl l)
def ok (l : List UInt8) : Bool := decide (l ≠ []) && decide (nl l ≤ 8) && decide (nl l < l.length) && decide ((nb l).headD 1 ≠ 0)
def num (l : List UInt8) : Int := nx (val (nb l))
theorem ok_iff {l : List UInt8} : ok l = true ↔ l ≠ [] ∧ nl l ≤ 8 ∧ nl l < l.length ∧ (nb l).headD 1 ≠ 0 := by
  simp only [ok, Bool.and_eq_true, decide_eq_true_eq, and_assoc]
theorem nb_len {l : List UInt8} (h : nl l < l.length) : (nb l).length = nl l := by
  unfold nb; rw [List.length_take, List.length_drop]; omega
theorem num_bounds {l : List UInt8} (h : ok l = true) : -9223372036854775808 ≤ num l ∧ num l ≤ 9223372036854775807 := by
  have ⟨_, h1, h2, _⟩ := ok_iff.1 h
  exact nx_bounds (val_lt64 (by rw [nb_len h2]; exact h1))
theorem nl_enc {n : Int} (h0 : -9223372036854775808 ≤ n) (h1 : n ≤ 9223372036854775807) (r : List UInt8) : nl (enc n ++ r) = (be (ix n)).length := by
  have := be_len8 (ix_lt h0 h1)
  show (UInt8.ofNat (be (ix n)).length).toNat = _
  rw [UInt8.toNat_ofNat']; omega
theorem nb_enc {n : Int} (h0 : -9223372036854775808 ≤ n) (h1 : n ≤ 9223372036854775807) (r : List UInt8) : nb (enc n ++ r) = be (ix n) := by
  unfold nb
  rw [nl_enc h0 h1]
  simp [enc]
theorem ok_enc {n : Int} (h0 : -9223372036854775808 ≤ n) (h1 : n ≤ 9223372036854775807) (r : List UInt8) : ok (enc n ++ r) = true := by
  have := be_len8 (ix_lt h0 h1)
  refine ok_iff.2 ⟨by simp [enc], ?_, ?_, ?_⟩
  · rw [nl_enc h0 h1]; exact this
  · rw [nl_enc h0 h1]; simp [enc]; omega
  · rw [nb_enc h0 h1]; exact be_head _
theorem num_enc {n : Int} (h0 : -9223372036854775808 ≤ n) (h1 : n ≤ 9223372036854775807) (r : List UInt8) : num (enc n ++ r) = n := by
  unfold num; rw [nb_enc h0 h1, val_be, nx_ix]
theorem drop_enc {n : Int} (h0 : -9223372036854775808 ≤ n) (h1 : n ≤ 9223372036854775807) (r : List UInt8) : (enc n ++ r).drop (1 + nl (enc n ++ r)) = r := by
  rw [nl_enc h0 h1, List.drop_append_of_le_length (by simp [enc]; omega), List.drop_of_length_le (by simp [enc]; omega), List.nil_append]
/-- What is read as a number, and all of it, is its encoding. -/
theorem enc_num {l : List UInt8} (h : ok l = true) (hl : l.drop (1 + nl l) = []) : enc (num l) = l := by
  have ⟨h0, h1, h2, h3⟩ := ok_iff.1 h
  have hlen : l.length ≤ 1 + nl l := by have := congrArg List.length hl; rw [List.length_drop] at this; simp at this; omega
  cases l with
  | nil => exact absurd rfl h0
  | cons c r =>
    have hc : nl (c :: r) = c.toNat := rfl
    have hb : nb (c :: r) = r := by
      unfold nb
      rw [hc]
      simp only [List.drop_one, List.tail_cons]
      rw [hc] at hlen; simp at hlen
      exact List.take_of_length_le (by omega)
    unfold enc num
    rw [hb] at h3 ⊢
    rw [ix_nx, be_val _ r rfl h3]
    have : r.length = c.toNat := by have := nb_len h2; rw [hb, hc] at this; exact this
    rw [this, UInt8.ofNat_toNat]

/-- A reader: what stands behind its position; none: it is bad. -/
abbrev St := Option (List UInt8)
def left (st : St) : Nat := (st.getD []).length
def done (st : St) : Bool := decide (st = some [])
def rdInt (lo hi : Int) : St → Int × St
  | none => (0, none)
  | some l => if ok l = true ∧ lo ≤ num l ∧ num l ≤ hi then (num l, some (l.drop (1 + nl l))) else (0, none)
def rdFlag : St → Bool × St
  | none => (false, none)
  | some l => if l ≠ [] ∧ (l.headD 0).toNat ≤ 1 then (decide ((l.headD 0).toNat = 1), some (l.drop 1)) else (false, none)
def lenOk (most : Int) (l : List UInt8) : Prop := ok l = true ∧ 0 ≤ num l ∧ num l ≤ most ∧ num l ≤ (l.length - (1 + nl l) : Nat)
instance (most : Int) (l : List UInt8) : Decidable (lenOk most l) := by unfold lenOk; infer_instance
def rdText (most : Int) : St → List UInt8 × St
  | none => ([], none)
  | some l => if lenOk most l then ((l.drop (1 + nl l)).take (num l).toNat, some (l.drop (1 + nl l + (num l).toNat))) else ([], none)
def rdList (most : Int) : St → Int × St
  | none => (0, none)
  | some l => if lenOk most l then (num l, some (l.drop (1 + nl l))) else (0, none)
end WireP
end Go.Proofs.Ytamcidlkbhanfaa
