/-
  Bits of numbers; the contracts of wire.index, wire.numbered, wire.Flag, wire.New, Reader.ahead, Reader.pass, Reader.Left, Reader.Done and of the document's place, Flag, fails, Left, Done: any numbers and texts.
-/
import Derived.Test.YtdpgfnnhbfkacaaGreatDoorPtWirePlain
import Derived.Test.YtdpgfnnhbfkacaaGreatDoorChecked
import Derived.WalkKit
import Derived.Lib.Hide
import Derived.Below
import Derived.Lib.BufferWrite
import Derived.WalkLawsBesides
import Derived.WalkSpells
import Derived.BigQuiet
import Derived.Deep.QuietTactic
import Derived.Laws.Bits64
set_option linter.unusedVariables false
set_option maxRecDepth 4000
namespace Go.Proofs.YtdpgfnnhbfkacaaGreatDoor.Wire
open Go.RowKit WireP
theorem bits_not {n : Int} (h0 : -9223372036854775808 ≤ n) (h1 : n ≤ 9223372036854775807) : bits .xor .i64 (-1) n = -(n + 1) := by
  show IntKind.i64.wrap ((BitVec.ofInt 64 (-1) ^^^ BitVec.ofInt 64 n).toNat : Int) = _
  rw [show BitVec.ofInt 64 (-1) = BitVec.allOnes 64 from by decide, BitVec.allOnes_xor, BitVec.toNat_not, BitVec.toNat_ofInt]
  have e1 : ((2 ^ 64 : Nat) : Int) = 18446744073709551616 := by decide
  have e2 : (2 ^ 64 : Nat) = 18446744073709551616 := by decide
  rw [e1, e2]
  obtain ⟨m, hm⟩ : ∃ m : Nat, (n % 18446744073709551616).toNat = m := ⟨_, rfl⟩
  have hm2 : (m : Int) = n % 18446744073709551616 := by omega
  rw [hm]
  obtain ⟨r, hr⟩ : ∃ r : Nat, 18446744073709551616 - 1 - m = r := ⟨_, rfl⟩
  rw [hr]
  have hr2 : (r : Int) = 18446744073709551615 - m := by omega
  show (if IntKind.i64.signed && decide ((r : Int) % 18446744073709551616 ≥ 9223372036854775808) then (r : Int) % 18446744073709551616 - 18446744073709551616 else (r : Int) % 18446744073709551616) = _
  by_cases h : n < 0
  · rw [if_neg (by simp only [Bool.and_eq_true, decide_eq_true_eq]; omega)]; omega
  · rw [if_pos (by simp only [Bool.and_eq_true, decide_eq_true_eq]; exact ⟨rfl, by omega⟩)]; omega
theorem toNat_ofInt64 (a : Nat) (ha : a < 18446744073709551616) : (BitVec.ofInt 64 (a : Int)).toNat = a := by
  rw [BitVec.ofInt_natCast, BitVec.toNat_ofNat]; exact Nat.mod_eq_of_lt (by omega)
theorem bits_or_nat (k c i M : Nat) (hM : M = 2 ^ i) (hk : k * M + c < 18446744073709551616) (hc : c < M) : bits .or .u64 ((k * M : Nat) : Int) (c : Int) = ((k * M + c : Nat) : Int) := by
  have hkk : k * M < 18446744073709551616 := by omega
  show IntKind.u64.wrap ((BitVec.ofInt 64 ((k * M : Nat) : Int) ||| BitVec.ofInt 64 (c : Int)).toNat : Int) = _
  have ho : k * M ||| c = k * M + c := by subst hM; rw [Nat.mul_comm k, ← Nat.two_pow_add_eq_or_of_lt hc]
  rw [BitVec.toNat_or, toNat_ofInt64 _ hkk, toNat_ofInt64 _ (by omega), ho, IntKind.wrap_u64]
  omega
theorem bits_or_one {x : Int} (h0 : 0 ≤ x) (h1 : x ≤ 9223372036854775807) : bits .or .u64 (x * 2) 1 = x * 2 + 1 := by
  have h := bits_or_nat x.toNat 1 1 2 (by decide) (by omega) (by omega)
  have e : ((x.toNat * 2 : Nat) : Int) = x * 2 := by omega
  have e2 : ((x.toNat * 2 + 1 : Nat) : Int) = x * 2 + 1 := by omega
  rw [e, e2] at h
  exact h
theorem index_any (n : Int) (w : World) (h0 : -9223372036854775808 ≤ n) (h1 : n ≤ 9223372036854775807) :
    Calls Tryz.prog 118 #[.int .i64 n] w fun e w' => e = .returned (.int .u64 (ix n : Nat)) ∧ w = w' := by
  by_cases h : n < 0
  · rw [ix_neg h]
    have hb := bits_not h0 h1
    have hb2 := bits_or_one (x := -(n + 1)) (by omega) (by omega)
    go_enter Tryz.func118, Tryz.ntmps118
    go_wp2
    go_ret
    refine ⟨?_, rfl⟩
    simp only [IntKind.wrap_u64]
    simp
    rw [show (-(n + 1)) % 18446744073709551616 * 2 % 18446744073709551616 = -(n + 1) * 2 by omega, hb2]
    omega
  · rw [ix_pos (by omega)]
    go_enter Tryz.func118, Tryz.ntmps118
    go_wp2
    go_ret
    refine ⟨?_, rfl⟩
    simp
    omega
theorem place_any (n : Int) (w : World) (h0 : -9223372036854775808 ≤ n) (h1 : n ≤ 9223372036854775807) :
    Calls Tryz.prog 98 #[.int .i64 n] w fun e w' => e = .returned (.int .u64 (ix n : Nat)) ∧ w = w' := by
  by_cases h : n < 0
  · rw [ix_neg h]
    go_enter Tryz.func98, Tryz.ntmps98
    go_wp2
    go_ret
    exact ⟨rfl, rfl⟩
  · rw [ix_pos (by omega)]
    go_enter Tryz.func98, Tryz.ntmps98
    go_wp2
    go_ret
    exact ⟨rfl, rfl⟩
theorem str_eq {s : ByteArray} {l : List UInt8} (h : s.data.toList = l) : s = ⟨l.toArray⟩ := by subst h; cases s; simp
theorem len_list (s : ByteArray) : s.data.toList.length = s.size := Array.length_toList

def RdAt (w : World) (b : Nat) (st : St) : Prop := ∃ z : ByteArray, w.heap[b]? = some (.cells #[.bool st.isSome, .string z] 84 (0, 0)) ∧ z.data.toList = st.getD [] ∧ z.size ≤ 4398046511104
def RqAt (w : World) (b : Nat) (st : St) : Prop := ∃ z : ByteArray, w.heap[b]? = some (.cells #[.string z, .bool st.isNone] 39 (0, 0)) ∧ z.data.toList = st.getD [] ∧ z.size ≤ 4398046511104
theorem cell_of_heap {w : World} {b i : Nat} {cs : Array Value} {t : TypeId} {fr : Nat × Nat} (h : w.heap[b]? = some (.cells cs t fr)) : w.cell? ⟨b, i, none⟩ = cs[i]? := by simp [World.cell?, h]
theorem frozen_of_heap {w : World} {b i : Nat} {cs : Array Value} {t : TypeId} (h : w.heap[b]? = some (.cells cs t (0, 0))) : w.frozen? ⟨b, i, none⟩ = false := by simp [World.frozen?, h]
theorem RdAt.keep {w w' : World} {b : Nat} {st : St} (h : RdAt w b st) (hb : w'.heap[b]? = w.heap[b]?) : RdAt w' b st := by
  obtain ⟨z, h1, h2⟩ := h
  exact ⟨z, hb.trans h1, h2⟩
theorem RqAt.keep {w w' : World} {b : Nat} {st : St} (h : RqAt w b st) (hb : w'.heap[b]? = w.heap[b]?) : RqAt w' b st := by
  obtain ⟨z, h1, h2⟩ := h
  exact ⟨z, hb.trans h1, h2⟩
theorem RdAt.lt {w : World} {b : Nat} {st : St} (h : RdAt w b st) : b < w.heap.size := by obtain ⟨z, h1, h2⟩ := h; exact (Array.getElem?_eq_some_iff.1 h1).1
theorem RqAt.lt {w : World} {b : Nat} {st : St} (h : RqAt w b st) : b < w.heap.size := by obtain ⟨z, h1, h2⟩ := h; exact (Array.getElem?_eq_some_iff.1 h1).1

end Go.Proofs.YtdpgfnnhbfkacaaGreatDoor.Wire
