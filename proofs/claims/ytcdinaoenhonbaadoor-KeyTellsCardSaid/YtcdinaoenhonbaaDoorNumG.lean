/-
  The contracts of num.Digits and of the document's: any number of 64 bits; what was there stays as it was.
-/
import Derived.Test.YtcdinaoenhonbaaDoorNumF
import Derived.Lib.ItoaLen
set_option maxRecDepth 4000
namespace Go.Proofs.YtcdinaoenhonbaaDoor.Num
open Go.RowKit NumP

theorem below_grow (w : World) (k : Nat) (os : Array Obj) : Below w.heap.size w (Go.Sort.grow (w.drewN k) os) := by
  have h1 : Below w.heap.size w (w.drewN k) := below_drewN (Below.refl _ _) k
  refine h1.trans ⟨rfl, rfl, rfl, ?_, fun i hi => ?_⟩
  · show (w.drewN k).heap.size ≤ ((w.drewN k).heap ++ os).size
    simp
  · show ((w.drewN k).heap ++ os)[i]? = _
    rw [Array.getElem?_append_left]
    have := h1.size
    omega

theorem digits_any (n : Int) (w : World) (h0 : -9223372036854775808 ≤ n) (h1 : n ≤ 9223372036854775807) (htab : Lib.TabIs Tryd.prog w "internal/strconv.uint64pow10" .u64 Lib.pow10Tab) :
    Calls Tryd.prog 23 #[.int .i64 n] w fun e w' => e = .returned (.string ⟨(Lib.itoa n).toArray⟩) ∧ Below w.heap.size w w' := by
  have HT := Lib.hid htab; clear htab
  go_enter Tryd.func23, Tryd.ntmps23
  go_wp2_with (go_at_call 31; refine (Tryd.strconv_Itoa n h0 h1 _ HT.out).mono ?_; rintro e w' ⟨rfl, k, os, rfl⟩)
  go_ret
  exact ⟨rfl, below_grow w k os⟩

theorem one_byte (w : World) (x : Int) : (convert 62 9 (.slice (some ⟨w.heap.size, 0, none⟩) 1 1)).run Tryd.prog (w.alloc (.cells #[.int .u8 x] 5)) = .ok (.string ⟨#[UInt8.ofNat x.toNat]⟩) (w.alloc (.cells #[.int .u8 x] 5)) := by
  have h := run_convert_bytes_arg (P := Tryd.prog) (w.alloc (.cells #[.int .u8 x] 5)) 62 5 Tryd.underlying62 Tryd.underlying5 w.heap.size 0 1 1 [x] rfl (fun i hi => by
    obtain rfl : i = 0 := by omega
    rw [Nat.zero_add, World.cell?_alloc_new]
    rfl) 9 Tryd.underlying9
  exact h
theorem str_eq {s : ByteArray} {l : List UInt8} (h : s.data.toList = l) : s = ⟨l.toArray⟩ := by subst h; cases s; simp
theorem ret_str {s : ByteArray} {l : List UInt8} (h : s.data.toList = l) : Ending.returned (.string s) = .returned (.string ⟨l.toArray⟩) := by rw [str_eq h]

theorem acc_size {n l : Int} {acc : ByteArray} (h0 : -9223372036854775808 ≤ n) (h1 : n ≤ 9223372036854775807) (h : Lib.itoa n = Lib.itoa l ++ acc.data.toList) : acc.size ≤ 21 := by
  have k := Lib.itoa_length_le n h0 h1
  have e : acc.data.toList.length = acc.size := Array.length_toList
  rw [h, List.length_append, e] at k
  omega
theorem rdigits_pos (n : Int) (w : World) (h0 : 0 ≤ n) (h1 : n ≤ 9223372036854775807) :
    Calls Tryd.prog 24 #[.int .i64 n] w fun e w' => e = .returned (.string ⟨(Lib.itoa n).toArray⟩) ∧ Below w.heap.size w w' := by
  have hcv := fun (w : World) (x : Int) => one_byte w x
  go_enter Tryd.func24, Tryd.ntmps24
  go_wp2
  go_loopw [3, 4] (fun s l w' => ∃ (left : Int) (acc : ByteArray), 0 ≤ left ∧ left ≤ 9223372036854775807 ∧ s = .string acc ∧ l = .int .i64 left ∧ Below w.heap.size w w' ∧ Hid (Lib.itoa n = Lib.itoa left ++ acc.data.toList)) (fun _ l _ => (intOf l).toNat)
  case atStart => exact ⟨n, ⟨#[]⟩, h0, h1, rfl, rfl, Below.refl _ _, Lib.hid (by simp)⟩
  case round =>
    obtain ⟨left, acc, hl0, hl1, rfl, rfl, hb, hd⟩ := hrel
    have hsz := acc_size (by omega) h1 hd.out
    by_cases hlt : 10 ≤ left
    · go_wp2
      go_roundw
      case rel => exact ⟨left / 10, _, by omega, by omega, rfl, rfl, hb.alloc hb.size _, Lib.hid (by rw [hd.out, itoa_step hlt]; simp)⟩
      case measure => simp [intOf]; omega
    · go_wp2
      go_ret
      refine ⟨ret_str ?_, hb.alloc hb.size _⟩
      rw [hd.out, itoa_small hl0 (by omega)]
      simp
theorem rdigits_neg (m : Int) (w : World) (h0 : 1 ≤ m) (h1 : m ≤ 9223372036854775808) :
    Calls Tryd.prog 24 #[.int .i64 (-m)] w fun e w' => e = .returned (.string ⟨(Lib.itoa (-m)).toArray⟩) ∧ Below w.heap.size w w' := by
  have hcv := fun (w : World) (x : Int) => one_byte w x
  go_enter Tryd.func24, Tryd.ntmps24
  go_wp2
  go_loopw [3, 4] (fun s l w' => ∃ (k : Int) (acc : ByteArray), 1 ≤ k ∧ k ≤ 9223372036854775808 ∧ s = .string acc ∧ l = .int .i64 (-k) ∧ Below w.heap.size w w' ∧ Hid (Lib.itoa (-m) = Lib.itoa (-k) ++ acc.data.toList)) (fun _ l _ => (intOf l).natAbs)
  case atStart => exact ⟨m, ⟨#[]⟩, h0, h1, rfl, rfl, Below.refl _ _, Lib.hid (by simp)⟩
  case round =>
    obtain ⟨k, acc, hl0, hl1, rfl, rfl, hb, hd⟩ := hrel
    have hsz := acc_size (by omega) (by omega) hd.out
    have hm : (-k).tmod 10 = -(k % 10) := by rw [Int.neg_tmod, Int.tmod_eq_emod_of_nonneg (by omega)]
    have hq : (-k).tdiv 10 = -(k / 10) := by rw [Int.neg_tdiv, Int.tdiv_eq_ediv_of_nonneg (by omega)]
    by_cases hlt : 10 ≤ k
    · by_cases hz : 1 ≤ k % 10
      · go_wp2
        go_roundw
        case rel => exact ⟨k / 10, _, by omega, by omega, rfl, rfl, hb.alloc hb.size _, Lib.hid (by rw [hd.out, itoa_step_neg hlt]; simp)⟩
        case measure => simp [intOf]; omega
      · go_wp2
        go_roundw
        case rel => exact ⟨k / 10, _, by omega, by omega, rfl, rfl, hb.alloc hb.size _, Lib.hid (by rw [hd.out, itoa_step_neg hlt, show k % 10 = 0 from by omega]; simp)⟩
        case measure => simp [intOf]; omega
    · go_wp2
      go_ret
      refine ⟨ret_str ?_, hb.alloc hb.size _⟩
      rw [hd.out, itoa_small_neg hl0 (by omega)]
      simp
theorem rdigits_any (n : Int) (w : World) (h0 : -9223372036854775808 ≤ n) (h1 : n ≤ 9223372036854775807) :
    Calls Tryd.prog 24 #[.int .i64 n] w fun e w' => e = .returned (.string ⟨(Lib.itoa n).toArray⟩) ∧ Below w.heap.size w w' := by
  by_cases h : 0 ≤ n
  · exact rdigits_pos n w h h1
  · obtain ⟨m, rfl⟩ : ∃ m, n = -m := ⟨-n, by omega⟩
    exact rdigits_neg m w (by omega) (by omega)
end Go.Proofs.YtcdinaoenhonbaaDoor.Num
