/-
  Plain facts of the encoding of numbers, flags and texts: there and back; no program in it.
-/
import Derived.Test.YtdpgfnnhbfkacaaGreatDoorRows
set_option linter.unusedVariables false
set_option maxRecDepth 4000
namespace Go.Proofs.YtdpgfnnhbfkacaaGreatDoor
namespace WireP

def ix (n : Int) : Nat := if n < 0 then (2 * (-n) - 1).toNat else (2 * n).toNat
def nx (x : Nat) : Int := if x % 2 = 1 then -((x / 2 : Nat) : Int) - 1 else ((x / 2 : Nat) : Int)
theorem ix_neg {n : Int} (h : n < 0) : ((ix n : Nat) : Int) = 2 * -(n + 1) + 1 := by unfold ix; rw [if_pos h]; omega
theorem ix_pos {n : Int} (h : 0 ≤ n) : ((ix n : Nat) : Int) = 2 * n := by unfold ix; rw [if_neg (by omega)]; omega
theorem ix_lt {n : Int} (h0 : -9223372036854775808 ≤ n) (h1 : n ≤ 9223372036854775807) : ix n < 18446744073709551616 := by unfold ix; split <;> omega
def val (l : List UInt8) : Nat := l.foldl (fun a c => a * 256 + c.toNat) 0
def be (x : Nat) : List UInt8 := if h : x = 0 then [] else be (x / 256) ++ [UInt8.ofNat (x % 256)]
termination_by x
decreasing_by omega
theorem be_zero : be 0 = [] := by unfold be; simp
theorem be_pos {x : Nat} (h : 0 < x) : be x = be (x / 256) ++ [UInt8.ofNat (x % 256)] := by
  rw [be, dif_neg (by omega)]
theorem ofNat_mod (x : Nat) : (UInt8.ofNat (x % 256)).toNat = x % 256 := by rw [UInt8.toNat_ofNat']; omega
theorem be_len (k : Nat) : ∀ x, x < 256 ^ k → (be x).length ≤ k := by
  induction k with
  | zero => intro x h; obtain rfl : x = 0 := by simpa using h
            rw [be_zero]; simp
  | succ k ih =>
    intro x h
    by_cases h0 : x = 0
    · subst h0; rw [be_zero]; simp
    · rw [be_pos (by omega), List.length_append]
      have := ih (x / 256) (by rw [Nat.pow_succ] at h; omega)
      simp; omega
theorem be_len8 {x : Nat} (h : x < 18446744073709551616) : (be x).length ≤ 8 := be_len 8 x h
def enc (n : Int) : List UInt8 := UInt8.ofNat (be (ix n)).length :: be (ix n)
def flag (b : Bool) : List UInt8 := if b then [1] else [0]
def text (l : List UInt8) : List UInt8 := enc (l.length : Int) ++ l
def encs (ns : List Int) : List UInt8 := ns.flatMap enc
theorem enc_len {n : Int} (h0 : -9223372036854775808 ≤ n) (h1 : n ≤ 9223372036854775807) : (enc n).length ≤ 9 := by
  have := be_len8 (ix_lt h0 h1)
  simp [enc]; omega
theorem encs_snoc (ns : List Int) (n : Int) : encs (ns ++ [n]) = encs ns ++ enc n := by simp [encs]
theorem encs_cons (n : Int) (ns : List Int) : encs (n :: ns) = enc n ++ encs ns := by simp [encs]
theorem encs_len (ns : List Int) (h : ∀ n ∈ ns, -9223372036854775808 ≤ n ∧ n ≤ 9223372036854775807) : (encs ns).length ≤ 9 * ns.length := by
  induction ns with
  | nil => simp [encs]
  | cons n r ih =>
    have h1 := h n (by simp)
    have := enc_len h1.1 h1.2
    have := ih (fun m hm => h m (by simp [hm]))
    rw [encs_cons, List.length_append, List.length_cons]; omega

def nl (l : List UInt8) : Nat := (l.headD 0).toNat
def nb (l : List UInt8) : List UInt8 := (l.drop 1).take (nl l)
def ok (l : List UInt8) : Bool := decide (l ≠ []) && decide (nl l ≤ 8) && decide (nl l < l.length) && decide ((nb l).headD 1 ≠ 0)
def num (l : List UInt8) : Int := nx (val (nb l))
abbrev St := Option (List UInt8)
def left (st : St) : Nat := (st.getD []).length
def done (st : St) : Bool := decide (st = some [])
def rdInt (lo hi : Int) : St → Int × St
  | none => (0, none)
  | some l => if ok l = true ∧ lo ≤ num l ∧ num l ≤ hi then (num l, some (l.drop (1 + nl l))) else (0, none)
def lenOk (most : Int) (l : List UInt8) : Prop := ok l = true ∧ 0 ≤ num l ∧ num l ≤ most ∧ num l ≤ (l.length - (1 + nl l) : Nat)
instance (most : Int) (l : List UInt8) : Decidable (lenOk most l) := by unfold lenOk; infer_instance
def rdText (most : Int) : St → List UInt8 × St
  | none => ([], none)
  | some l => if lenOk most l then ((l.drop (1 + nl l)).take (num l).toNat, some (l.drop (1 + nl l + (num l).toNat))) else ([], none)
def rdList (most : Int) : St → Int × St
  | none => (0, none)
  | some l => if lenOk most l then (num l, some (l.drop (1 + nl l))) else (0, none)
end WireP
end Go.Proofs.YtdpgfnnhbfkacaaGreatDoor
