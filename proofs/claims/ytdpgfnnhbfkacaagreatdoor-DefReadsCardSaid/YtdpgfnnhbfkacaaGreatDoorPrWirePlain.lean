/-
  Plain facts of the encoding of numbers, flags and texts: there and back; no program in it.
-/
import Derived.Test.YtdpgfnnhbfkacaaGreatDoorRows
set_option linter.unusedVariables false
set_option maxRecDepth 4000
namespace Go.Proofs.YtdpgfnnhbfkacaaGreatDoor
namespace WireP

def ix (n : Int) : Nat := if n < 0 then (2 * (-n) - 1).toNat else (2 * n).toNat
def nx (x : Nat) : Int := if x % 2 = 1 then -((x / 2 : Nat) : Int) - 1 else ((x / 2 : Nat) : Int)
theorem nx_bounds {x : Nat} (h : x < 18446744073709551616) : -9223372036854775808 ≤ nx x ∧ nx x ≤ 9223372036854775807 := by unfold nx; split <;> omega

def val (l : List UInt8) : Nat := l.foldl (fun a c => a * 256 + c.toNat) 0
theorem val_snoc (l : List UInt8) (c : UInt8) : val (l ++ [c]) = val l * 256 + c.toNat := by simp [val, List.foldl_append]
theorem foldl_from (l : List UInt8) (a : Nat) : l.foldl (fun a c => a * 256 + c.toNat) a = a * 256 ^ l.length + val l := by
  induction l generalizing a with
  | nil => simp [val]
  | cons c r ih =>
    rw [List.foldl_cons, ih]
    have h2 : val (c :: r) = c.toNat * 256 ^ r.length + val r := by
      show List.foldl _ _ _ = _
      rw [List.foldl_cons, ih]; simp
    rw [h2, List.length_cons, Nat.pow_succ, Nat.add_mul, Nat.mul_assoc, Nat.mul_comm 256]
    omega
theorem val_cons (c : UInt8) (r : List UInt8) : val (c :: r) = c.toNat * 256 ^ r.length + val r := by
  show List.foldl _ _ _ = _
  rw [List.foldl_cons, foldl_from]; simp
theorem val_lt (l : List UInt8) : val l < 256 ^ l.length := by
  induction l with
  | nil => simp [val]
  | cons c r ih =>
    rw [val_cons, List.length_cons, Nat.pow_succ]
    have h := c.toNat_lt
    have h2 : c.toNat * 256 ^ r.length ≤ 255 * 256 ^ r.length := Nat.mul_le_mul_right _ (by omega)
    omega
theorem val_zeros (k : Nat) (l : List UInt8) : val (List.replicate k 0 ++ l) = val l := by
  induction k with
  | zero => simp
  | succ k ih => rw [List.replicate_succ, List.cons_append, val_cons, ih]; simp
theorem val_lt64 {l : List UInt8} (h : l.length ≤ 8) : val l < 18446744073709551616 := Nat.lt_of_lt_of_le (val_lt l) (Nat.pow_le_pow_right (by decide) h)
theorem val_lt56 {l : List UInt8} (h : l.length ≤ 7) : val l < 72057594037927936 := Nat.lt_of_lt_of_le (val_lt l) (Nat.pow_le_pow_right (by decide) h)

def be (x : Nat) : List UInt8 := if h : x = 0 then [] else be (x / 256) ++ [UInt8.ofNat (x % 256)]
termination_by x
decreasing_by omega
def enc (n : Int) : List UInt8 := UInt8.ofNat (be (ix n)).length :: be (ix n)
def flag (b : Bool) : List UInt8 := if b then [1] else [0]
def text (l : List UInt8) : List UInt8 := enc (l.length : Int) ++ l
def encs (ns : List Int) : List UInt8 := ns.flatMap enc
def nl (l : List UInt8) : Nat := (l.headD 0).toNat
def nb (l : List UInt8) : List UInt8 := (l.drop 1).take (nl l)
def ok (l : List UInt8) : Bool := decide (l ≠ []) && decide (nl l ≤ 8) && decide (nl l < l.length) && decide ((nb l).headD 1 ≠ 0)
def num (l : List UInt8) : Int := nx (val (nb l))
theorem ok_iff {l : List UInt8} : ok l = true ↔ l ≠ [] ∧ nl l ≤ 8 ∧ nl l < l.length ∧ (nb l).headD 1 ≠ 0 := by
  simp only [ok, Bool.and_eq_true, decide_eq_true_eq, and_assoc]
theorem nb_len {l : List UInt8} (h : nl l < l.length) : (nb l).length = nl l := by
  unfold nb; rw [List.length_take, List.length_drop]; omega
theorem num_bounds {l : List UInt8} (h : ok l = true) : -9223372036854775808 ≤ num l ∧ num l ≤ 9223372036854775807 := by
  have ⟨_, h1, h2, _⟩ := ok_iff.1 h
  exact nx_bounds (val_lt64 (by rw [nb_len h2]; exact h1))
abbrev St := Option (List UInt8)
def left (st : St) : Nat := (st.getD []).length
def done (st : St) : Bool := decide (st = some [])
def rdInt (lo hi : Int) : St → Int × St
  | none => (0, none)
  | some l => if ok l = true ∧ lo ≤ num l ∧ num l ≤ hi then (num l, some (l.drop (1 + nl l))) else (0, none)
def rdFlag : St → Bool × St
  | none => (false, none)
  | some l => if l ≠ [] ∧ (l.headD 0).toNat ≤ 1 then (decide ((l.headD 0).toNat = 1), some (l.drop 1)) else (false, none)
def lenOk (most : Int) (l : List UInt8) : Prop := ok l = true ∧ 0 ≤ num l ∧ num l ≤ most ∧ num l ≤ (l.length - (1 + nl l) : Nat)
instance (most : Int) (l : List UInt8) : Decidable (lenOk most l) := by unfold lenOk; infer_instance
def rdText (most : Int) : St → List UInt8 × St
  | none => ([], none)
  | some l => if lenOk most l then ((l.drop (1 + nl l)).take (num l).toNat, some (l.drop (1 + nl l + (num l).toNat))) else ([], none)
def rdList (most : Int) : St → Int × St
  | none => (0, none)
  | some l => if lenOk most l then (num l, some (l.drop (1 + nl l))) else (0, none)
end WireP
end Go.Proofs.YtdpgfnnhbfkacaaGreatDoor
