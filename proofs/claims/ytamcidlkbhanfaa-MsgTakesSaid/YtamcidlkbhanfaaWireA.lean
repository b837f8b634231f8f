/-
  Bits of numbers; the contracts of wire.index, wire.numbered, wire.Flag, wire.New, Reader.ahead, Reader.pass, Reader.Left, Reader.Done and of the document's place, Flag, fails, Left, Done: any numbers and texts.
-/
import Derived.Test.YtamcidlkbhanfaaWirePlain
import Derived.Test.YtamcidlkbhanfaaChecked
import Derived.WalkKit
import Derived.Lib.Hide
import Derived.Below
import Derived.Lib.BufferWrite
import Derived.WalkLawsBesides
import Derived.WalkSpells
import Derived.BigQuiet
import Derived.Deep.QuietTactic
import Derived.Laws.Bits64
set_option linter.unusedVariables false
set_option maxRecDepth 4000
namespace Go.Proofs.Ytamcidlkbhanfaa.Wire
open Go.RowKit WireP

theorem bits_not {n : Int} (h0 : -9223372036854775808 ≤ n) (h1 : n ≤ 9223372036854775807) : bits .xor .i64 (-1) n = -(n + 1) := by
  show IntKind.i64.wrap ((BitVec.ofInt 64 (-1) ^^^ BitVec.ofInt 64 n).toNat : Int) = _
  rw [show BitVec.ofInt 64 (-1) = BitVec.allOnes 64 from by decide, BitVec.allOnes_xor, BitVec.toNat_not, BitVec.toNat_ofInt]
  have e1 : ((2 ^ 64 : Nat) : Int) = 18446744073709551616 := by decide
  have e2 : (2 ^ 64 : Nat) = 18446744073709551616 := by decide
  rw [e1, e2]
  obtain ⟨m, hm⟩ : ∃ m : Nat, (n % 18446744073709551616).toNat = m := ⟨_, rfl⟩
  have hm2 : (m : Int) = n % 18446744073709551616 := by omega
  rw [hm]
  obtain ⟨r, hr⟩ : ∃ r : Nat, 18446744073709551616 - 1 - m = r := ⟨_, rfl⟩
  rw [hr]
  have hr2 : (r : Int) = 18446744073709551615 - m := by omega
  show (if IntKind.i64.signed && decide ((r : Int) % 18446744073709551616 ≥ 9223372036854775808) then (r : Int) % 18446744073709551616 - 18446744073709551616 else (r : Int) % 18446744073709551616) = _
  by_cases h : n < 0
  · rw [if_neg (by simp only [Bool.and_eq_true, decide_eq_true_eq]; omega)]; omega
  · rw [if_pos (by simp only [Bool.and_eq_true, decide_eq_true_eq]; exact ⟨rfl, by omega⟩)]; omega
theorem toNat_ofInt64 (a : Nat) (ha : a < 18446744073709551616) : (BitVec.ofInt 64 (a : Int)).toNat = a := by
  rw [BitVec.ofInt_natCast, BitVec.toNat_ofNat]; exact Nat.mod_eq_of_lt (by omega)
theorem bits_or_nat (k c i M : Nat) (hM : M = 2 ^ i) (hk : k * M + c < 18446744073709551616) (hc : c < M) : bits .or .u64 ((k * M : Nat) : Int) (c : Int) = ((k * M + c : Nat) : Int) := by
  have hkk : k * M < 18446744073709551616 := by omega
  show IntKind.u64.wrap ((BitVec.ofInt 64 ((k * M : Nat) : Int) ||| BitVec.ofInt 64 (c : Int)).toNat : Int) = _
  have ho : k * M ||| c = k * M + c := by subst hM; rw [Nat.mul_comm k, ← Nat.two_pow_add_eq_or_of_lt hc]
  rw [BitVec.toNat_or, toNat_ofInt64 _ hkk, toNat_ofInt64 _ (by omega), ho, IntKind.wrap_u64]
  omega
theorem bits_or_one {x : Int} (h0 : 0 ≤ x) (h1 : x ≤ 9223372036854775807) : bits .or .u64 (x * 2) 1 = x * 2 + 1 := by
  have h := bits_or_nat x.toNat 1 1 2 (by decide) (by omega) (by omega)
  have e : ((x.toNat * 2 : Nat) : Int) = x * 2 := by omega
  have e2 : ((x.toNat * 2 + 1 : Nat) : Int) = x * 2 + 1 := by omega
  rw [e, e2] at h
  exact h
theorem bits_or_byte {x c : Int} (h0 : 0 ≤ x) (h1 : x ≤ 72057594037927935) (h2 : 0 ≤ c) (h3 : c ≤ 255) : bits .or .u64 (x * 256) c = x * 256 + c := by
  obtain ⟨a, rfl⟩ : ∃ a : Nat, x = a := ⟨x.toNat, by omega⟩
  obtain ⟨b, rfl⟩ : ∃ b : Nat, c = b := ⟨c.toNat, by omega⟩
  have h := bits_or_nat a b 8 256 (by decide) (by omega) (by omega)
  rw [Int.natCast_add, Int.natCast_mul] at h
  exact h
theorem bits_and_one {x : Int} (h0 : 0 ≤ x) (h1 : x ≤ 18446744073709551615) : bits .and .u64 x 1 = x % 2 := by
  obtain ⟨n, rfl⟩ : ∃ n : Nat, x = n := ⟨x.toNat, by omega⟩
  show IntKind.u64.wrap ((BitVec.ofInt 64 (n : Int) &&& BitVec.ofInt 64 1).toNat : Int) = _
  rw [BitVec.toNat_and, toNat_ofInt64 n (by omega), show (BitVec.ofInt 64 1).toNat = 1 from rfl, Nat.and_one_is_mod, IntKind.wrap_u64]
  omega

theorem index_any (n : Int) (w : World) (h0 : -9223372036854775808 ≤ n) (h1 : n ≤ 9223372036854775807) :
    Calls Try.prog 60 #[.int .i64 n] w fun e w' => e = .returned (.int .u64 (ix n : Nat)) ∧ w = w' := by
  by_cases h : n < 0
  · rw [ix_neg h]
    have hb := bits_not h0 h1
    have hb2 := bits_or_one (x := -(n + 1)) (by omega) (by omega)
    go_enter Try.func60, Try.ntmps60
    go_wp2
    go_ret
    refine ⟨?_, rfl⟩
    simp only [IntKind.wrap_u64]
    simp
    rw [show (-(n + 1)) % 18446744073709551616 * 2 % 18446744073709551616 = -(n + 1) * 2 by omega, hb2]
    omega
  · rw [ix_pos (by omega)]
    go_enter Try.func60, Try.ntmps60
    go_wp2
    go_ret
    refine ⟨?_, rfl⟩
    simp
    omega
theorem place_any (n : Int) (w : World) (h0 : -9223372036854775808 ≤ n) (h1 : n ≤ 9223372036854775807) :
    Calls Try.prog 48 #[.int .i64 n] w fun e w' => e = .returned (.int .u64 (ix n : Nat)) ∧ w = w' := by
  by_cases h : n < 0
  · rw [ix_neg h]
    go_enter Try.func48, Try.ntmps48
    go_wp2
    go_ret
    exact ⟨rfl, rfl⟩
  · rw [ix_pos (by omega)]
    go_enter Try.func48, Try.ntmps48
    go_wp2
    go_ret
    exact ⟨rfl, rfl⟩
theorem nx_odd {x : Nat} (h : x % 2 = 1) : nx x = -(((x / 2 : Nat) : Int) + 1) := by unfold nx; rw [if_pos h]; omega
theorem nx_even {x : Nat} (h : ¬ x % 2 = 1) : nx x = ((x / 2 : Nat) : Int) := by unfold nx; rw [if_neg h]
theorem numbered_any (x : Nat) (w : World) (h1 : x < 18446744073709551616) :
    Calls Try.prog 66 #[.int .u64 (x : Int)] w fun e w' => e = .returned (.int .i64 (nx x)) ∧ w = w' := by
  have hb := bits_and_one (x := (x : Int)) (by omega) (by omega)
  have hx := bits_not (n := (x : Int) / 2) (by omega) (by omega)
  by_cases h : x % 2 = 1
  · rw [nx_odd h]
    have hd : (bits .and .u64 (x : Int) 1 == 1) = true := by rw [hb]; simp; omega
    clear hb h
    go_enter Try.func66, Try.ntmps66
    go_wp2
    go_ret
    refine ⟨?_, rfl⟩
    simp
  · rw [nx_even h]
    have hd : (bits .and .u64 (x : Int) 1 == 1) = false := by rw [hb]; simp; omega
    clear hb h
    go_enter Try.func66, Try.ntmps66
    go_wp2
    go_ret
    refine ⟨?_, rfl⟩
    simp
theorem flag_any (b : Bool) (w : World) : Calls Try.prog 29 #[.bool b] w fun e w' => e = .returned (.string ⟨(flag b).toArray⟩) ∧ w = w' := by
  cases b <;>
  · go_enter Try.func29, Try.ntmps29
    go_wp2
    go_ret
    exact ⟨rfl, rfl⟩
theorem rflag_any (b : Bool) (w : World) : Calls Try.prog 31 #[.bool b] w fun e w' => e = .returned (.string ⟨(flag b).toArray⟩) ∧ w = w' := by
  cases b <;>
  · go_enter Try.func31, Try.ntmps31
    go_wp2
    go_ret
    exact ⟨rfl, rfl⟩

theorem str_eq {s : ByteArray} {l : List UInt8} (h : s.data.toList = l) : s = ⟨l.toArray⟩ := by subst h; cases s; simp
theorem len_list (s : ByteArray) : s.data.toList.length = s.size := Array.length_toList

/-- The program's reader in block b stands so. -/
def RdAt (w : World) (b : Nat) (st : St) : Prop := ∃ z : ByteArray, w.heap[b]? = some (.cells #[.bool st.isSome, .string z] 71 (0, 0)) ∧ z.data.toList = st.getD [] ∧ z.size ≤ 4398046511104
/-- The document's reader in block b stands so. -/
def RqAt (w : World) (b : Nat) (st : St) : Prop := ∃ z : ByteArray, w.heap[b]? = some (.cells #[.string z, .bool st.isNone] 43 (0, 0)) ∧ z.data.toList = st.getD [] ∧ z.size ≤ 4398046511104
theorem cell_of_heap {w : World} {b i : Nat} {cs : Array Value} {t : TypeId} {fr : Nat × Nat} (h : w.heap[b]? = some (.cells cs t fr)) : w.cell? ⟨b, i, none⟩ = cs[i]? := by simp [World.cell?, h]
theorem frozen_of_heap {w : World} {b i : Nat} {cs : Array Value} {t : TypeId} (h : w.heap[b]? = some (.cells cs t (0, 0))) : w.frozen? ⟨b, i, none⟩ = false := by simp [World.frozen?, h]
theorem RdAt.keep {w w' : World} {b : Nat} {st : St} (h : RdAt w b st) (hb : w'.heap[b]? = w.heap[b]?) : RdAt w' b st := by
  obtain ⟨z, h1, h2⟩ := h
  exact ⟨z, hb.trans h1, h2⟩
theorem RqAt.keep {w w' : World} {b : Nat} {st : St} (h : RqAt w b st) (hb : w'.heap[b]? = w.heap[b]?) : RqAt w' b st := by
  obtain ⟨z, h1, h2⟩ := h
  exact ⟨z, hb.trans h1, h2⟩
theorem RdAt.lt {w : World} {b : Nat} {st : St} (h : RdAt w b st) : b < w.heap.size := by obtain ⟨z, h1, h2⟩ := h; exact (Array.getElem?_eq_some_iff.1 h1).1
theorem RqAt.lt {w : World} {b : Nat} {st : St} (h : RqAt w b st) : b < w.heap.size := by obtain ⟨z, h1, h2⟩ := h; exact (Array.getElem?_eq_some_iff.1 h1).1

theorem new_any (s : ByteArray) (w : World) (hs : s.size ≤ 4398046511104) :
    Calls Try.prog 19 #[.string s] w fun e w' => e = .returned (.pointer (some ⟨w.heap.size, 0, none⟩)) ∧ RdAt w' w.heap.size (some s.data.toList) ∧ Below w.heap.size w w' := by
  go_enter Try.func19, Try.ntmps19
  go_wp2
  go_ret
  exact ⟨rfl, ⟨s, heap_alloc_new _ _, rfl, hs⟩, (Below.refl _ _).alloc (Nat.le_refl _) _⟩
theorem ahead_any (b : Nat) (st : St) (w : World) (h : RdAt w b st) :
    Calls Try.prog 46 #[.pointer (some ⟨b, 0, none⟩)] w fun e w' => e = .returned (.string ⟨(st.getD []).toArray⟩) ∧ w = w' := by
  obtain ⟨z, hz, hl, hs⟩ := h
  rw [← str_eq hl]
  have h1 : w.cell? ⟨b, 1, none⟩ = some (.string z) := cell_of_heap hz
  clear hz hl
  go_enter Try.func46, Try.ntmps46
  go_wp2
  go_ret
  exact ⟨rfl, rfl⟩
theorem ahead_nil (w : World) :
    Calls Try.prog 46 #[.pointer none] w fun e w' => e = .returned (.string ⟨#[]⟩) ∧ w = w' := by
  go_enter Try.func46, Try.ntmps46
  go_wp2
  go_ret
  exact ⟨rfl, rfl⟩
theorem pass_no (b : Nat) (k : Int) (st : St) (w : World) (h : RdAt w b st) :
    Calls Try.prog 57 #[.pointer (some ⟨b, 0, none⟩), .int .i64 k, .bool false] w fun e w' => e = .returned (.bool false) ∧ RdAt w' b none ∧ w.grownBy w' (some b) := by
  obtain ⟨z, hz, hl, hs⟩ := h
  have h0 : w.cell? ⟨b, 0, none⟩ = some (.bool st.isSome) := cell_of_heap hz
  have h1 : w.cell? ⟨b, 1, none⟩ = some (.string z) := cell_of_heap hz
  have f0 : w.frozen? ⟨b, 0, none⟩ = false := frozen_of_heap hz
  have f1 : w.frozen? ⟨b, 1, none⟩ = false := frozen_of_heap hz
  have HZ := Lib.hid hz
  clear hz hl
  go_enter Try.func57, Try.ntmps57
  go_wp2
  go_ret
  refine ⟨rfl, ⟨⟨#[]⟩, ?_, rfl, by decide⟩, ?_⟩
  · exact Lib.heap_setCell_same (i := 1) (Lib.heap_setCell_same (i := 0) HZ.out _) _
  · exact (Lib.grownBy_setCell w b 0 _).trans (Lib.grownBy_setCell _ b 1 _)
theorem pass_yes (b : Nat) (k : Nat) (l : List UInt8) (w : World) (h : RdAt w b (some l)) (hk : k ≤ l.length) :
    Calls Try.prog 57 #[.pointer (some ⟨b, 0, none⟩), .int .i64 k, .bool true] w fun e w' => e = .returned (.bool true) ∧ RdAt w' b (some (l.drop k)) ∧ w.grownBy w' (some b) := by
  obtain ⟨z, hz, hl, hs⟩ := h
  have h0 : w.cell? ⟨b, 0, none⟩ = some (.bool true) := cell_of_heap hz
  have h1 : w.cell? ⟨b, 1, none⟩ = some (.string z) := cell_of_heap hz
  have f0 : w.frozen? ⟨b, 0, none⟩ = false := frozen_of_heap hz
  have f1 : w.frozen? ⟨b, 1, none⟩ = false := frozen_of_heap hz
  have hkz : k ≤ z.size := by rw [← len_list, hl]; exact hk
  have HZ := Lib.hid hz; have HL := Lib.hid hl
  clear hz hl hk
  go_enter Try.func57, Try.ntmps57
  go_wp2
  go_ret
  refine ⟨rfl, ⟨z.extract k z.size, ?_, ?_, ?_⟩, Lib.grownBy_setCell w b 1 _⟩
  · exact Lib.heap_setCell_same (i := 1) HZ.out _
  · have hl := HL.out
    have hl2 : z.data.toList = l := hl
    show _ = l.drop k
    rw [ByteArray.data_extract, Array.toList_extract, hl2, List.extract_eq_take_drop, ← len_list z, hl2]
    exact List.take_of_length_le (by simp)
  · rw [ByteArray.size_extract]; omega
theorem left_any (b : Nat) (st : St) (w : World) (h : RdAt w b st) :
    Calls Try.prog 22 #[.pointer (some ⟨b, 0, none⟩)] w fun e w' => e = .returned (.int .i64 (left st : Nat)) ∧ w = w' := by
  have hz : (⟨(st.getD []).toArray⟩ : ByteArray).size = left st := by simp [left, ByteArray.size]
  rw [← hz]
  go_enter Try.func22, Try.ntmps22
  go_wp2_with fail
  refine (ahead_any b st w h).mono ?_
  rintro e w' ⟨rfl, rfl⟩
  go_wp2_with fail
  go_ret
  exact ⟨rfl, rfl⟩
theorem left_nil (w : World) : Calls Try.prog 22 #[.pointer none] w fun e w' => e = .returned (.int .i64 0) ∧ w = w' := by
  go_enter Try.func22, Try.ntmps22
  go_wp2_with fail
  refine (ahead_nil w).mono ?_
  rintro e w' ⟨rfl, rfl⟩
  go_wp2_with fail
  go_ret
  exact ⟨rfl, rfl⟩
end Go.Proofs.Ytamcidlkbhanfaa.Wire
