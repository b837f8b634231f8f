/-
  The law CrcTurned, walked.
-/
import Derived.Test.YtgfgegalffffpaaCrcD
import Derived.Lib.ConvBytes
import Derived.Lib.SmallJoins
import Derived.RegionTactic
import Derived.ChangeAlike
import Derived.BigRegion
set_option linter.unusedVariables false
namespace Go.Proofs.Ytgfgegalffffpaa
open Go.RowKit CrcP

/-- The octets l stand in block B, zeros behind them. -/
def RowAt (w : World) (B : Nat) (l : List UInt8) (c : Nat) : Prop :=
  w.heap[B]? = some (.cells (Lib.byteCells l ++ List.replicate c (Value.int .u8 0)).toArray 5 (l.length + c, l.length + c + 1))
theorem RowAt.cell {w : World} {B c : Nat} {l : List UInt8} (h : RowAt w B l c) (i : Nat) (hi : i < l.length) : w.cell? ⟨B, i, none⟩ = some (.int .u8 ((l.getD i 0).toNat : Int)) := by
  rw [cell_of_heap h, List.getElem?_toArray, List.getElem?_append_left (by rw [Lib.byteCells_length]; exact hi)]
  simp [Lib.byteCells, List.getD, hi]
theorem RowAt.frozen {w : World} {B c : Nat} {l : List UInt8} (h : RowAt w B l c) (i : Nat) (hi : i < l.length) : w.frozen? ⟨B, i, none⟩ = false := by
  unfold RowAt at h
  simp [World.frozen?, h]
  omega
theorem RowAt.text {w : World} {B c : Nat} {l : List UInt8} (h : RowAt w B l c) (n cap : Nat) (hn : l.length = n) :
    (convert 33 9 (.slice (some ⟨B, 0, none⟩) n cap)).run Try.prog w = .ok (.string ⟨l.toArray⟩) w := by
  have h2 := run_convert_bytes_arg (P := Try.prog) w 33 5 Try.underlying33 Try.underlying5 B 0 n cap (l.map fun c => (c.toNat : Int)) (by simp [hn]) (fun j hj => by
    have hjl : j < l.length := by omega
    rw [Nat.zero_add, h.cell j hjl]
    simp [List.getD, hjl]) 9 Try.underlying9
  rw [strOfNums_bytes] at h2
  exact h2
theorem RowAt.set {w : World} {B c i : Nat} {l : List UInt8} (h : RowAt w B l c) (hi : i < l.length) (d : UInt8) : RowAt (w.setCell ⟨B, i, none⟩ (.int .u8 (d.toNat : Int))) B (l.set i d) c := by
  have h2 := Lib.heap_setCell_same (i := i) h (.int .u8 (d.toNat : Int))
  unfold RowAt
  rw [h2, List.length_set]
  congr 3
  rw [List.setIfInBounds_toArray, List.set_append_left _ _ (by rw [Lib.byteCells_length]; exact hi)]
  unfold Lib.byteCells
  rw [List.map_set]
theorem bytes_row (w : World) (s : ByteArray) : ∃ w2 cap c, (convert 9 33 (.string s)).run Try.prog w = .ok (.slice (some ⟨w.heap.size, 0, none⟩) s.size cap) w2 ∧ RowAt w2 w.heap.size s.data.toList c ∧ Below w.heap.size w w2 := by
  refine ⟨_, _, grownCap w s.size 0 5 - s.size, Lib.run_convert_string_bytes w 9 33 5 s Try.underlying9 Try.underlying33 Try.underlying5, ?_, Joins.below_bytesWorld _ w 5 s (Nat.le_refl _)⟩
  have h := Lib.bytesWorld_at_new w 5 s
  unfold RowAt
  rw [h]
  have e : Lib.bytesCells w 5 s = (Lib.byteCells s.data.toList ++ List.replicate (grownCap w s.size 0 5 - s.size) (Value.int .u8 0)).toArray := by
    unfold Lib.bytesCells Lib.byteCells
    apply Array.toList_inj.1
    simp
  rw [e]
  simp [Lib.byteCells_length]
theorem crcTurned_long (s : ByteArray) (y x : Int) (W : World) (h : 600 < s.size) (hs : s.size ≤ 9223372036854775807) :
    Calls Try.prog 5 #[.string s, .int .u16 y, .int .u32 x] W fun e w' => e = .returned (.bool true) ∧ Below W.heap.size W w' := by
  have hz : ((s.size : Int) == 0) = false := beq_eq_false_iff_ne.2 (by omega)
  go_enter Try.func5, Try.ntmps5
  go_wp2_with fail
  refine (awake_any W).mono ?_
  rintro e w' ⟨rfl, hb⟩
  go_wp2_with fail
  go_ret
  exact ⟨rfl, hb⟩
theorem crcTurned_none (s : ByteArray) (y x : Int) (W : World) (h : s.size = 0) :
    Calls Try.prog 5 #[.string s, .int .u16 y, .int .u32 x] W fun e w' => e = .returned (.bool true) ∧ Below W.heap.size W w' := by
  have hz : ((s.size : Int) == 0) = true := beq_iff_eq.2 (by omega)
  go_enter Try.func5, Try.ntmps5
  go_wp2_with fail
  refine (awake_any W).mono ?_
  rintro e w' ⟨rfl, hb⟩
  go_wp2_with fail
  go_ret
  exact ⟨rfl, hb⟩
theorem bit_is {x k : Nat} (hx : x < 4294967296) : bits .and .u32 ((x : Int) / 2 ^ k) 1 = ((x / 2 ^ k % 2 : Nat) : Int) := by
  have hd : x / 2 ^ k ≤ x := Nat.div_le_self _ _
  have h := u32_and_nat (x / 2 ^ k) 1 (by omega) (by decide)
  rw [Nat.and_one_is_mod] at h
  rw [← h]
  rw [Int.natCast_ediv, Int.natCast_pow]
  rfl
theorem crcTurned_walk (s : ByteArray) (y x : Nat) (W : World) (h0 : 0 < s.size) (h : s.size ≤ 600) (hy : y < 65536) (hx : x < 4294967296) :
    Calls Try.prog 5 #[.string s, .int .u16 (y : Int), .int .u32 (x : Int)] W fun e w' => e = .returned (.bool true) ∧ Below W.heap.size W w' := by
  have hs : s.size ≤ 9223372036854775807 := by omega
  obtain ⟨f, hf⟩ : ∃ f : Nat, y % (8 * s.size) = f := ⟨_, rfl⟩
  have hf8 : f < 8 * s.size := by have := Nat.mod_lt y (show 0 < 8 * s.size by omega); omega
  have hfi : ((y : Int)) % (8 * (s.size : Int)) = (f : Int) := by rw [← hf]; simp
  have hz : ((s.size : Int) == 0) = false := beq_eq_false_iff_ne.2 (by omega)
  obtain ⟨w2, cap, c, hcv, hrow, hb2⟩ := bytes_row W s
  obtain ⟨B, hB⟩ : ∃ B, W.heap.size = B := ⟨_, rfl⟩
  have HROW := Lib.hid hrow; have HB2 := Lib.hid hb2
  rw [hB] at HROW HB2 hcv ⊢
  have HBW := Lib.hid hB
  have HT := Lib.hid (turned_zero s.data.toList f (~~~ 0#32))
  clear hrow hb2 hf hB
  go_enter Try.func5, Try.ntmps5
  go_wp2_with fail
  rw [hfi]
  clear hfi
  go_loopw [9, 10] (fun t k wr => ∃ (k' : Nat) (t' : Bool) (l : List UInt8), k' ≤ 32 ∧ t = .bool t' ∧ k = .int .i64 (k' : Int) ∧ Hid (RowAt wr B l c) ∧ Hid (Turned s.data.toList l f k' t' (~~~ 0#32)) ∧ Hid (Below B W wr)) (fun _ k _ => 32 - (intOf k).toNat)
  case atStart => exact ⟨0, false, s.data.toList, by omega, rfl, rfl, HROW, HT, HB2⟩
  case round =>
    obtain ⟨k, t, l, hk, rfl, rfl, hR, hT, hBe⟩ := hrel
    by_cases hlt : k < 32
    · by_cases hin : f + k < 8 * s.size
      · have hbi := bit_is (k := k) hx
        by_cases hbit : x / 2 ^ k % 2 = 1
        · rw [hbit] at hbi
          have hbt : (bits .and .u32 ((x : Int) / 2 ^ k) 1 == 1) = true := by rw [hbi]; rfl
          obtain ⟨j, hj⟩ : ∃ j, f + k = j := ⟨_, rfl⟩
          obtain ⟨q, hq⟩ : ∃ q, j / 8 = q := ⟨_, rfl⟩
          obtain ⟨r, hr⟩ : ∃ r, j % 8 = r := ⟨_, rfl⟩
          have hij : (f : Int) + (k : Int) = (j : Int) := by omega
          have hiq : (j : Int) / 8 = (q : Int) := by omega
          have hir : (j : Int) % 8 = (r : Int) := by omega
          have hjs : (j : Int) < 8 * (s.size : Int) := by omega
          have hqs : q < s.size := by omega
          have hqi : (q : Int) < (s.size : Int) := by omega
          have hr8 : r < 8 := by omega
          have hql : q < l.length := by rw [hT.out.1, len_list]; exact hqs
          have hcell := hR.out.cell q hql
          have hfz := hR.out.frozen q hql
          obtain ⟨v, hv⟩ : ∃ v, l.getD q 0 = v := ⟨_, rfl⟩
          rw [hv] at hcell
          have hv8 := v.toNat_lt
          have hp8 : (2 : Nat) ^ r < 2 ^ 8 := Nat.pow_lt_pow_right (by omega) hr8
          have hx8 : v.toNat ^^^ 2 ^ r < 256 := Nat.xor_lt_two_pow (n := 8) hv8 hp8
          obtain ⟨d, hd⟩ : ∃ d : UInt8, d.toNat = v.toNat ^^^ 2 ^ r := ⟨UInt8.ofNat (v.toNat ^^^ 2 ^ r), by rw [UInt8.toNat_ofNat']; exact Nat.mod_eq_of_lt hx8⟩
          have hxo : bits .xor .u8 (v.toNat : Int) (2 ^ r % 256) = (d.toNat : Int) := by
            have h1 := u8_xor_nat v.toNat (2 ^ r) hv8 hp8
            rw [hd, ← h1]
            congr 1
            have h2 : ((2 ^ r : Nat) : Int) < 256 := by omega
            rw [Int.natCast_pow] at h2 ⊢
            exact Int.emod_eq_of_lt (Int.le_of_lt (Int.pow_pos (by decide))) h2
          have hrs := hR.out.set hql d
          have hrs2 : RowAt (wr.setCell ⟨B, q, none⟩ (.int .u8 (d.toNat : Int))) B (l.set q d) c := hrs
          have htt := turned_turn hT.out hlt (by rw [len_list]; exact hin) d (by rw [hj, hq, hr, hv]; exact hd)
          rw [hj, hq] at htt
          have HT2 := Lib.hid htt; have HRS := Lib.hid hrs2; have HXO := Lib.hid hxo
          clear hv hj hq hr hbi hbit hxo hrs hrs2 htt hd hx8 hp8 hv8
          go_wp2
          go_region
          have hRS := HRS.out
          rw [← HXO.out] at hRS
          have hR2 := Lib.hid (show RowAt (wr.setCell ⟨B, q, none⟩ (.int .u8 (bits .xor .u8 (v.toNat : Int) (2 ^ r % 256)))).drew B (l.set q d) c from hRS)
          have hB2 := Lib.hid (hBe.out.setCell (p := ⟨B, q, none⟩) (Nat.le_refl _) (.int .u8 (bits .xor .u8 (v.toNat : Int) (2 ^ r % 256)))).drew
          clear hRS HRS HXO hcell hfz
          go_wp2
          go_roundw
          case rel => exact ⟨k + 1, true, l.set q d, by omega, rfl, by go_num, hR2, HT2, hB2⟩
          case measure => simp [intOf]; omega
        · have hb0 : x / 2 ^ k % 2 = 0 := by omega
          rw [hb0] at hbi
          have hbt : (bits .and .u32 ((x : Int) / 2 ^ k) 1 == 1) = false := by rw [hbi]; rfl
          have HT2 := Lib.hid (turned_skip hT.out)
          clear hbi hb0 hbit
          go_wp2
          go_roundw
          case rel => exact ⟨k + 1, t, l, by omega, rfl, by go_num, hR, HT2, hBe⟩
          case measure => simp [intOf]; omega
      · have hin2 : 8 * (s.size : Int) ≤ (f : Int) + (k : Int) := by omega
        clear hin
        have hE := turned_end 0#32 hT.out
        have hll : l.length = s.size := by rw [hT.out.1, len_list]
        have htx := hR.out.text s.size cap hll
        have hs1 := fun w => sum_any ⟨l.toArray⟩ w (by show l.length ≤ _; omega)
        have hs2 := fun w => sum_any s w hs
        rw [show (⟨l.toArray⟩ : ByteArray).data.toList = l from rfl] at hs1
        have hne : decide ((((more 0#32 l).toNat : Nat) : Int) ≠ (((more 0#32 s.data.toList).toNat : Nat) : Int)) = t := by
          rw [← hE]
          apply decide_eq_decide.2
          constructor
          · intro h e; exact h (by rw [e])
          · intro h e; exact h (BitVec.eq_of_toNat_eq (Int.ofNat.inj e))
        generalize (more 0#32 l).toNat = x1 at *
        generalize (more 0#32 s.data.toList).toNat = x2 at *
        generalize (⟨l.toArray⟩ : ByteArray) = z at *
        have hne1 : ((x1 : Int) != (x2 : Int)) = t := by rw [← hne]; by_cases e : (x1 : Int) = x2 <;> simp [e]
        have HS1 := Lib.hid hs1; have HS2 := Lib.hid hs2
        clear hE hs1 hs2 hne hll hT hR
        cases t
        all_goals
          go_wp2_with fail
          refine (HS1.out _).mono ?_
          rintro e w' ⟨rfl, rfl⟩
          go_wp2_with fail
          refine (HS2.out _).mono ?_
          rintro e w' ⟨rfl, rfl⟩
          go_wp2_with fail
          refine (awake_any _).mono ?_
          rintro e w4 ⟨rfl, hb4⟩
          have HB4 := Lib.hid (below_keep hBe.out hb4 (by rw [← HBW.out]; exact hBe.out.size))
          clear hb4
          go_wp2_with fail
          go_ret
          exact ⟨rfl, HB4.out⟩
    · obtain rfl : k = 32 := by omega
      have hE := turned_end 0#32 hT.out
      have hll : l.length = s.size := by rw [hT.out.1, len_list]
      have htx := hR.out.text s.size cap hll
      have hs1 := fun w => sum_any ⟨l.toArray⟩ w (by show l.length ≤ _; omega)
      have hs2 := fun w => sum_any s w hs
      rw [show (⟨l.toArray⟩ : ByteArray).data.toList = l from rfl] at hs1
      have hne : decide ((((more 0#32 l).toNat : Nat) : Int) ≠ (((more 0#32 s.data.toList).toNat : Nat) : Int)) = t := by
        rw [← hE]
        apply decide_eq_decide.2
        constructor
        · intro h e; exact h (by rw [e])
        · intro h e; exact h (BitVec.eq_of_toNat_eq (Int.ofNat.inj e))
      generalize (more 0#32 l).toNat = x1 at *
      generalize (more 0#32 s.data.toList).toNat = x2 at *
      generalize (⟨l.toArray⟩ : ByteArray) = z at *
      have hne1 : ((x1 : Int) != (x2 : Int)) = t := by rw [← hne]; by_cases e : (x1 : Int) = x2 <;> simp [e]
      have HS1 := Lib.hid hs1; have HS2 := Lib.hid hs2
      clear hE hs1 hs2 hne hll hT hR
      cases t
      all_goals
        go_wp2_with fail
        refine (HS1.out _).mono ?_
        rintro e w' ⟨rfl, rfl⟩
        go_wp2_with fail
        refine (HS2.out _).mono ?_
        rintro e w' ⟨rfl, rfl⟩
        go_wp2_with fail
        refine (awake_any _).mono ?_
        rintro e w4 ⟨rfl, hb4⟩
        have HB4 := Lib.hid (below_keep hBe.out hb4 (by rw [← HBW.out]; exact hBe.out.size))
        clear hb4
        go_wp2_with fail
        go_ret
        exact ⟨rfl, HB4.out⟩
end Go.Proofs.Ytgfgegalffffpaa
