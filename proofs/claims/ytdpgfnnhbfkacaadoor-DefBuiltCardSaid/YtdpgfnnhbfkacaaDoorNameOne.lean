/-
  Plain facts on the rune that begins at a place, as the document reads it: lists of bytes and numbers alone, nothing of the program. No conditions.
-/
import Derived.Test.YtdpgfnnhbfkacaaDoorNameTest
set_option linter.unusedVariables false
set_option maxRecDepth 4000
namespace Go.Proofs.YtdpgfnnhbfkacaaDoor
open Go.Lib
namespace NameP

def moreV (l : List UInt8) (k : Nat) : Int := if k < l.length then (if 128 ≤ (l.getD k 0).toNat ∧ (l.getD k 0).toNat ≤ 191 then ((l.getD k 0).toNat : Int) - 128 else -1) else -1
theorem moreV_range (l : List UInt8) (k : Nat) : -1 ≤ moreV l k ∧ moreV l k ≤ 63 := by
  unfold moreV
  split
  · split <;> omega
  · omega
theorem moreV_out {l : List UInt8} {k : Nat} (h : ¬ k < l.length) : moreV l k = -1 := by unfold moreV; rw [if_neg h]
theorem moreV_no {l : List UInt8} {k : Nat} (h : k < l.length) (k2 : (l.getD k 0).toNat < 128 ∨ 191 < (l.getD k 0).toNat) : moreV l k = -1 := by unfold moreV; rw [if_pos h, if_neg (by omega)]
theorem moreV_yes {l : List UInt8} {k : Nat} (h : k < l.length) (k1 : 128 ≤ (l.getD k 0).toNat) (k2 : (l.getD k 0).toNat ≤ 191) : moreV l k = ((l.getD k 0).toNat : Int) - 128 := by unfold moreV; rw [if_pos h, if_pos ⟨k1, k2⟩]
theorem moreV_drop (l : List UInt8) (p k : Nat) : moreV (l.drop p) k = moreV l (p + k) := by
  unfold moreV
  rw [List.length_drop, getD_dropU]
  by_cases h : p + k < l.length
  · rw [if_pos (by omega), if_pos h]
  · rw [if_neg (by omega), if_neg h]

/-- The rune and its octets by its first one and the bits of three more, or nothing. -/
def oneQ (b x y z : Int) : Int × Int :=
  if b < 128 then (b, 1)
  else if 194 ≤ b ∧ b ≤ 223 ∧ 0 ≤ x then ((b - 192) * 64 + x, 2)
  else if 224 ≤ b ∧ b ≤ 239 ∧ 0 ≤ x ∧ 0 ≤ y then (if 2048 ≤ (b - 224) * 4096 + x * 64 + y ∧ ((b - 224) * 4096 + x * 64 + y < 55296 ∨ 57343 < (b - 224) * 4096 + x * 64 + y) then ((b - 224) * 4096 + x * 64 + y, 3) else (0, 0))
  else if 240 ≤ b ∧ b ≤ 244 ∧ 0 ≤ x ∧ 0 ≤ y ∧ 0 ≤ z then (if 65536 ≤ (b - 240) * 262144 + x * 4096 + y * 64 + z ∧ (b - 240) * 262144 + x * 4096 + y * 64 + z ≤ 1114111 then ((b - 240) * 262144 + x * 4096 + y * 64 + z, 4) else (0, 0))
  else (0, 0)
/-- The rune that begins a text and its octets, or nothing. -/
def oneV (l : List UInt8) : Nat × Nat := if good (decodeL l) then decodeL l else (0, 0)
theorem oneV_yes {l : List UInt8} (h : good (decodeL l) = true) : oneV l = decodeL l := by unfold oneV; rw [h]; rfl
theorem oneV_no {l : List UInt8} (h : good (decodeL l) = false) : oneV l = (0, 0) := by unfold oneV; rw [h]; rfl
theorem good_mk {a b : Nat} (h : a ≠ 65533 ∨ b ≠ 1) : good (a, b) = true := by
  unfold good
  rcases h with h | h <;> simp [h]
theorem pair_int {a b c d : Int} (h : a = c) (k : b = d) : (a, b) = (c, d) := by rw [h, k]
theorem oneQ_1 {b x y z : Int} (h : b < 128) : oneQ b x y z = (b, 1) := by unfold oneQ; rw [if_pos h]
theorem oneQ_2 {b x y z : Int} (h : 128 ≤ b) (k : b < 194) : oneQ b x y z = (0, 0) := by unfold oneQ; rw [if_neg (by omega), if_neg (by omega), if_neg (by omega), if_neg (by omega)]
theorem oneQ_3 {b x y z : Int} (h : 128 ≤ b) (hx : x < 0) : oneQ b x y z = (0, 0) := by unfold oneQ; rw [if_neg (by omega), if_neg (by omega), if_neg (by omega), if_neg (by omega)]
theorem oneQ_4 {b x y z : Int} (h : 194 ≤ b) (k : b ≤ 223) (hx : 0 ≤ x) : oneQ b x y z = ((b - 192) * 64 + x, 2) := by unfold oneQ; rw [if_neg (by omega), if_pos (by omega)]
theorem oneQ_5 {b x y z : Int} (h : 224 ≤ b) (hy : y < 0) : oneQ b x y z = (0, 0) := by unfold oneQ; rw [if_neg (by omega), if_neg (by omega), if_neg (by omega), if_neg (by omega)]
theorem oneQ_6 {b x y z n : Int} (h : 224 ≤ b) (k : b ≤ 239) (hx : 0 ≤ x) (hy : 0 ≤ y) (hn : (b - 224) * 4096 + x * 64 + y = n) (g : 2048 ≤ n ∧ (n < 55296 ∨ 57343 < n)) : oneQ b x y z = (n, 3) := by
  unfold oneQ; rw [if_neg (by omega), if_neg (by omega), if_pos (by omega), hn, if_pos g]
theorem oneQ_7 {b x y z n : Int} (h : 224 ≤ b) (k : b ≤ 239) (hx : 0 ≤ x) (hy : 0 ≤ y) (hn : (b - 224) * 4096 + x * 64 + y = n) (g : n < 2048 ∨ (55296 ≤ n ∧ n ≤ 57343)) : oneQ b x y z = (0, 0) := by
  unfold oneQ; rw [if_neg (by omega), if_neg (by omega), if_pos (by omega), hn, if_neg (by omega)]
theorem oneQ_8 {b x y z : Int} (h : 240 ≤ b) (hz : z < 0) : oneQ b x y z = (0, 0) := by unfold oneQ; rw [if_neg (by omega), if_neg (by omega), if_neg (by omega), if_neg (by omega)]
theorem oneQ_9 {b x y z n : Int} (h : 240 ≤ b) (k : b ≤ 244) (hx : 0 ≤ x) (hy : 0 ≤ y) (hz : 0 ≤ z) (hn : (b - 240) * 262144 + x * 4096 + y * 64 + z = n) (g : 65536 ≤ n ∧ n ≤ 1114111) : oneQ b x y z = (n, 4) := by
  unfold oneQ; rw [if_neg (by omega), if_neg (by omega), if_neg (by omega), if_pos (by omega), hn, if_pos g]
theorem oneQ_10 {b x y z n : Int} (h : 240 ≤ b) (k : b ≤ 244) (hx : 0 ≤ x) (hy : 0 ≤ y) (hz : 0 ≤ z) (hn : (b - 240) * 262144 + x * 4096 + y * 64 + z = n) (g : n < 65536 ∨ 1114111 < n) : oneQ b x y z = (0, 0) := by
  unfold oneQ; rw [if_neg (by omega), if_neg (by omega), if_neg (by omega), if_pos (by omega), hn, if_neg (by omega)]
theorem oneQ_11 {b x y z : Int} (h : 244 < b) : oneQ b x y z = (0, 0) := by unfold oneQ; rw [if_neg (by omega), if_neg (by omega), if_neg (by omega), if_neg (by omega)]
theorem one_good {l : List UInt8} {c k : Nat} {x : Int × Int} (hd : decodeL l = (c, k)) (hg : c ≠ 65533 ∨ k ≠ 1) (hx : x = ((c : Int), (k : Int))) : x = (((oneV l).1 : Int), ((oneV l).2 : Int)) := by
  rw [oneV_yes (by rw [hd]; exact good_mk hg), hd]; exact hx
theorem one_bad {l : List UInt8} {x : Int × Int} (hd : decodeL l = (65533, 1)) (hx : x = (0, 0)) : x = (((oneV l).1 : Int), ((oneV l).2 : Int)) := by
  rw [oneV_no (by rw [hd]; rfl)]; exact hx
theorem moreV_two (l : List UInt8) (k : Nat) : (k < l.length ∧ (l.getD k 0).toNat / 64 = 2 ∧ moreV l k = (((l.getD k 0).toNat % 64 : Nat) : Int)) ∨ (¬ (k < l.length ∧ (l.getD k 0).toNat / 64 = 2) ∧ moreV l k = -1) := by
  by_cases h : k < l.length
  · by_cases h2 : (l.getD k 0).toNat / 64 = 2
    · exact .inl ⟨h, h2, by rw [moreV_yes h (by omega) (by omega)]; omega⟩
    · exact .inr ⟨by omega, moreV_no h (by omega)⟩
  · exact .inr ⟨by omega, moreV_out h⟩
theorem oneQ_oneV (l : List UInt8) (hne : l ≠ []) : oneQ ((l.getD 0 0).toNat : Int) (moreV l 1) (moreV l 2) (moreV l 3) = (((oneV l).1 : Int), ((oneV l).2 : Int)) := by
  have k0 := (l.getD 0 0).toNat_lt
  have k1 := (l.getD 1 0).toNat_lt
  have k2 := (l.getD 2 0).toNat_lt
  have k3 := (l.getD 3 0).toNat_lt
  have m1 := moreV_two l 1
  have m2 := moreV_two l 2
  have m3 := moreV_two l 3
  have hd := decodeL_N l
  have hn : 0 < l.length := List.length_pos_iff.2 hne
  generalize moreV l 1 = x at *
  generalize moreV l 2 = y at *
  generalize moreV l 3 = z at *
  generalize (l.getD 0 0).toNat = b0 at *
  generalize (l.getD 1 0).toNat = b1 at *
  generalize (l.getD 2 0).toNat = b2 at *
  generalize (l.getD 3 0).toNat = b3 at *
  generalize l.length = n at *
  by_cases h0 : b0 < 128
  · rw [decodeN_ascii _ _ _ _ _ h0] at hd
    exact one_good hd (by omega) (oneQ_1 (by omega))
  unfold decodeN at hd
  rw [if_neg h0] at hd
  rcases m1 with ⟨c1, c1', rfl⟩ | ⟨c1, rfl⟩
  case inr =>
    rw [if_neg (by omega), if_neg (by omega), if_neg (by omega)] at hd
    exact one_bad hd (oneQ_3 (by omega) (by omega))
  by_cases t2 : b0 / 32 = 6
  · rw [if_pos ⟨t2, c1, c1'⟩] at hd
    by_cases g : b0 % 32 * 64 + b1 % 64 ≥ 128
    · rw [if_pos g] at hd
      exact one_good hd (by omega) ((oneQ_4 (by omega) (by omega) (by omega)).trans (pair_int (by omega) rfl))
    · rw [if_neg g] at hd
      exact one_bad hd (oneQ_2 (by omega) (by omega))
  rw [if_neg (by omega)] at hd
  rcases m2 with ⟨c2, c2', rfl⟩ | ⟨c2, rfl⟩
  case inr =>
    rw [if_neg (by omega), if_neg (by omega)] at hd
    by_cases h194 : b0 < 194
    · exact one_bad hd (oneQ_2 (by omega) (by omega))
    · exact one_bad hd (oneQ_5 (by omega) (by omega))
  by_cases t3 : b0 / 16 = 14
  · rw [if_pos ⟨t3, ⟨c1, c1'⟩, c2, c2'⟩] at hd
    have e : ((b0 : Int) - 224) * 4096 + ((b1 % 64 : Nat) : Int) * 64 + ((b2 % 64 : Nat) : Int) = ((b0 % 16 * 4096 + b1 % 64 * 64 + b2 % 64 : Nat) : Int) := by omega
    split at hd
    · exact one_good hd (by omega) (oneQ_6 (by omega) (by omega) (by omega) (by omega) e (by omega))
    · exact one_bad hd (oneQ_7 (by omega) (by omega) (by omega) (by omega) e (by omega))
  rw [if_neg (by omega)] at hd
  rcases m3 with ⟨c3, c3', rfl⟩ | ⟨c3, rfl⟩
  case inr =>
    rw [if_neg (by omega)] at hd
    by_cases h194 : b0 < 194
    · exact one_bad hd (oneQ_2 (by omega) (by omega))
    · exact one_bad hd (oneQ_8 (by omega) (by omega))
  by_cases t4 : b0 / 8 = 30
  · rw [if_pos ⟨t4, ⟨c1, c1'⟩, ⟨c2, c2'⟩, c3, c3'⟩] at hd
    have e : ((b0 : Int) - 240) * 262144 + ((b1 % 64 : Nat) : Int) * 4096 + ((b2 % 64 : Nat) : Int) * 64 + ((b3 % 64 : Nat) : Int) = ((b0 % 8 * 262144 + b1 % 64 * 4096 + b2 % 64 * 64 + b3 % 64 : Nat) : Int) := by omega
    split at hd
    · exact one_good hd (by omega) (oneQ_9 (by omega) (by omega) (by omega) (by omega) (by omega) e (by omega))
    · by_cases h5 : b0 ≤ 244
      · exact one_bad hd (oneQ_10 (by omega) (by omega) (by omega) (by omega) (by omega) e (by omega))
      · exact one_bad hd (oneQ_11 (by omega))
  · rw [if_neg (by omega)] at hd
    by_cases h194 : b0 < 194
    · exact one_bad hd (oneQ_2 (by omega) (by omega))
    · exact one_bad hd (oneQ_11 (by omega))
end NameP
end Go.Proofs.YtdpgfnnhbfkacaaDoor
