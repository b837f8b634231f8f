/-
  The walks of the two laws on digits: each returns true; what was there stays as it was. They ask that the table of powers of ten is as the program's text lays it.
-/
import Derived.Test.YtmieghihapkgeaaDoorNumH
import Derived.Test.YtmieghihapkgeaaDoorNumBackP
namespace Go.Proofs.YtmieghihapkgeaaDoor
open Go.RowKit NumP

theorem itoa_size (n : Int) (h0 : -9223372036854775808 ≤ n) (h1 : n ≤ 9223372036854775807) : (⟨(Lib.itoa n).toArray⟩ : ByteArray).size ≤ 9223372036854775807 := by
  have h := Lib.itoa_length_le n h0 h1
  have h3 : (⟨(Lib.itoa n).toArray⟩ : ByteArray).size = (Lib.itoa n).length := List.size_toArray
  omega

theorem numDigits_long (n : Int) (s : ByteArray) (w : World) (h : 40 < s.size) (hbig : s.size ≤ 9223372036854775807) (ht : Tab w) :
    Calls Tryd.prog 4 #[.int .i64 n, .string s] w fun e w' => e = .returned (.bool true) ∧ Below w.heap.size w w' := by
  have HT := Lib.hid ht; clear ht
  go_enter Tryd.func4, Tryd.ntmps4
  go_wp2_with (go_at_call 7; refine (awake_any _ HT.out).mono ?_; rintro e w' ⟨rfl, hb⟩)
  go_ret
  exact ⟨rfl, hb⟩
theorem numDigits_walk (n : Int) (s : ByteArray) (w : World) (h0 : -9223372036854775808 ≤ n) (h1 : n ≤ 9223372036854775807) (h : s.size ≤ 40) (ht : Tab w) :
    Calls Tryd.prog 4 #[.int .i64 n, .string s] w fun e w' => e = .returned (.bool true) ∧ Below w.heap.size w w' := by
  have HT := Lib.hid ht; clear ht
  go_enter Tryd.func4, Tryd.ntmps4
  go_wp2_with fail
  refine (number_any s _ (by omega)).mono ?_
  rintro e w1 ⟨rfl, hb1⟩
  go_wp2_with fail
  refine (rnumber_any s _ (by omega)).mono ?_
  rintro e w' ⟨rfl, rfl⟩
  generalize numP s.data.toList = p1 at *
  go_wp2_with fail
  refine (digits_any n _ h0 h1 (HT.out.keep hb1)).mono ?_
  rintro e w2 ⟨rfl, hb2⟩
  have hc2 := hb1.trans (hb2.mono hb1.size)
  clear hb2
  go_wp2_with fail
  refine (rdigits_any n _ h0 h1).mono ?_
  rintro e w3 ⟨rfl, hb3⟩
  have hc3 := hc2.trans (hb3.mono hc2.size)
  clear hb3
  generalize (⟨(Lib.itoa n).toArray⟩ : ByteArray) = z at *
  go_wp2_with fail
  refine (awake_any _ (HT.out.keep hc3)).mono ?_
  rintro e w4 ⟨rfl, hb4⟩
  have hc4 := hc3.trans (hb4.mono hc3.size)
  go_wp2_with fail
  go_ret
  exact ⟨rfl, hc4⟩

theorem numBack_near (n : Int) (s : ByteArray) (w : World) (h0 : -9223372036854775808 ≤ n) (h1 : n ≤ 9223372036854775807) (hbig : s.size ≤ 9223372036854775807) (ht : Tab w) (k0 : -4611686018427387904 ≤ n) (k1 : n ≤ 4611686018427387904) :
    Calls Tryd.prog 6 #[.int .i64 n, .string s] w fun e w' => e = .returned (.bool true) ∧ Below w.heap.size w w' := by
  have HT := Lib.hid ht; clear ht
  have EP := Lib.hid (numP_back k0 k1)
  have hz := itoa_size n h0 h1
  have hy : (⟨(Lib.itoa n).toArray⟩ : ByteArray).data.toList = Lib.itoa n := rfl
  have hd := digits_any n w h0 h1 HT.out
  generalize (⟨(Lib.itoa n).toArray⟩ : ByteArray) = z at *
  have HY := Lib.hid hy; have HD := Lib.hid hd; clear hy hd
  go_enter Tryd.func6, Tryd.ntmps6
  go_wp2_with fail
  refine HD.out.mono ?_
  rintro e w1 ⟨rfl, hb1⟩
  clear HD
  go_wp2_with fail
  refine (number_is z n 0 _ hz (by rw [HY.out]; exact EP.out)).mono ?_
  rintro e w2 ⟨rfl, hb2⟩
  have hc2 := hb1.trans (hb2.mono hb1.size)
  clear hb2 hb1
  by_cases hlen : 40 < s.size
  · go_wp2_with fail
    refine (awake_any _ (HT.out.keep hc2)).mono ?_
    rintro e w3 ⟨rfl, hb3⟩
    have hc3 := hc2.trans (hb3.mono hc2.size)
    go_wp2_with fail
    go_ret
    exact ⟨rfl, hc3⟩
  · rcases numP_cases s.data.toList with ⟨f, e1, hf⟩ | ⟨k, e1, e2, hk0, hk1⟩
    · have E1 := Lib.hid e1; clear e1
      have hf2 : (f == 0) = false := beq_eq_false_iff_ne.2 hf
      have hf3 : (f != 0) = true := bne_iff_ne.2 hf
      have HF := Lib.hid hf; clear hf
      go_wp2_with fail
      refine (number_is s 0 f _ (by omega) E1.out).mono ?_
      rintro e w3 ⟨rfl, hb3⟩
      have hc3 := hc2.trans (hb3.mono hc2.size)
      go_wp2_with fail
      refine (awake_any _ (HT.out.keep hc3)).mono ?_
      rintro e w4 ⟨rfl, hb4⟩
      have hc4 := hc3.trans (hb4.mono hc3.size)
      go_wp2_with fail
      go_ret
      exact ⟨rfl, hc4⟩
    · have E1 := Lib.hid e1; have E2 := Lib.hid e2; clear e1 e2
      go_wp2_with fail
      refine (number_is s k 0 _ (by omega) E1.out).mono ?_
      rintro e w3 ⟨rfl, hb3⟩
      have hc3 := hc2.trans (hb3.mono hc2.size)
      go_wp2_with fail
      refine (digits_is k s _ (by omega) (by omega) (HT.out.keep hc3) E2.out).mono ?_
      rintro e w4 ⟨rfl, hb4⟩
      have hc4 := hc3.trans (hb4.mono hc3.size)
      go_wp2_with fail
      refine (awake_any _ (HT.out.keep hc4)).mono ?_
      rintro e w5 ⟨rfl, hb5⟩
      have hc5 := hc4.trans (hb5.mono hc4.size)
      go_wp2_with fail
      go_ret
      exact ⟨rfl, hc5⟩
theorem numBack_low (n : Int) (s : ByteArray) (w : World) (h0 : -9223372036854775808 ≤ n) (h1 : n ≤ 9223372036854775807) (hbig : s.size ≤ 9223372036854775807) (ht : Tab w) (k0 : n < -4611686018427387904) :
    Calls Tryd.prog 6 #[.int .i64 n, .string s] w fun e w' => e = .returned (.bool true) ∧ Below w.heap.size w w' := by
  have HT := Lib.hid ht; clear ht
  obtain ⟨m, q, ep⟩ : ∃ m q : Int, numP (Lib.itoa n) = (m, q) := ⟨_, _, rfl⟩
  have EP := Lib.hid ep; clear ep
  have hz := itoa_size n h0 h1
  have hy : (⟨(Lib.itoa n).toArray⟩ : ByteArray).data.toList = Lib.itoa n := rfl
  have hd := digits_any n w h0 h1 HT.out
  generalize (⟨(Lib.itoa n).toArray⟩ : ByteArray) = z at *
  have HY := Lib.hid hy; have HD := Lib.hid hd; clear hy hd
  go_enter Tryd.func6, Tryd.ntmps6
  go_wp2_with fail
  refine HD.out.mono ?_
  rintro e w1 ⟨rfl, hb1⟩
  clear HD
  go_wp2_with fail
  refine (number_is z m q _ hz (by rw [HY.out]; exact EP.out)).mono ?_
  rintro e w2 ⟨rfl, hb2⟩
  have hc2 := hb1.trans (hb2.mono hb1.size)
  clear hb2 hb1
  by_cases hlen : 40 < s.size
  · go_wp2_with fail
    refine (awake_any _ (HT.out.keep hc2)).mono ?_
    rintro e w3 ⟨rfl, hb3⟩
    have hc3 := hc2.trans (hb3.mono hc2.size)
    go_wp2_with fail
    go_ret
    exact ⟨rfl, hc3⟩
  · rcases numP_cases s.data.toList with ⟨f, e1, hf⟩ | ⟨k, e1, e2, hk0, hk1⟩
    · have E1 := Lib.hid e1; clear e1
      have hf2 : (f == 0) = false := beq_eq_false_iff_ne.2 hf
      have hf3 : (f != 0) = true := bne_iff_ne.2 hf
      have HF := Lib.hid hf; clear hf
      go_wp2_with fail
      refine (number_is s 0 f _ (by omega) E1.out).mono ?_
      rintro e w3 ⟨rfl, hb3⟩
      have hc3 := hc2.trans (hb3.mono hc2.size)
      go_wp2_with fail
      refine (awake_any _ (HT.out.keep hc3)).mono ?_
      rintro e w4 ⟨rfl, hb4⟩
      have hc4 := hc3.trans (hb4.mono hc3.size)
      go_wp2_with fail
      go_ret
      exact ⟨rfl, hc4⟩
    · have E1 := Lib.hid e1; have E2 := Lib.hid e2; clear e1 e2
      go_wp2_with fail
      refine (number_is s k 0 _ (by omega) E1.out).mono ?_
      rintro e w3 ⟨rfl, hb3⟩
      have hc3 := hc2.trans (hb3.mono hc2.size)
      go_wp2_with fail
      refine (digits_is k s _ (by omega) (by omega) (HT.out.keep hc3) E2.out).mono ?_
      rintro e w4 ⟨rfl, hb4⟩
      have hc4 := hc3.trans (hb4.mono hc3.size)
      go_wp2_with fail
      refine (awake_any _ (HT.out.keep hc4)).mono ?_
      rintro e w5 ⟨rfl, hb5⟩
      have hc5 := hc4.trans (hb5.mono hc4.size)
      go_wp2_with fail
      go_ret
      exact ⟨rfl, hc5⟩
theorem numBack_high (n : Int) (s : ByteArray) (w : World) (h0 : -9223372036854775808 ≤ n) (h1 : n ≤ 9223372036854775807) (hbig : s.size ≤ 9223372036854775807) (ht : Tab w) (k0 : 4611686018427387904 < n) :
    Calls Tryd.prog 6 #[.int .i64 n, .string s] w fun e w' => e = .returned (.bool true) ∧ Below w.heap.size w w' := by
  have HT := Lib.hid ht; clear ht
  obtain ⟨m, q, ep⟩ : ∃ m q : Int, numP (Lib.itoa n) = (m, q) := ⟨_, _, rfl⟩
  have EP := Lib.hid ep; clear ep
  have k2 : decide (n ≤ 4611686018427387904) = false := by simp; omega
  have k3 : -4611686018427387904 ≤ n := by omega
  have hz := itoa_size n h0 h1
  have hy : (⟨(Lib.itoa n).toArray⟩ : ByteArray).data.toList = Lib.itoa n := rfl
  have hd := digits_any n w h0 h1 HT.out
  generalize (⟨(Lib.itoa n).toArray⟩ : ByteArray) = z at *
  have HY := Lib.hid hy; have HD := Lib.hid hd; clear hy hd
  go_enter Tryd.func6, Tryd.ntmps6
  go_wp2_with fail
  refine HD.out.mono ?_
  rintro e w1 ⟨rfl, hb1⟩
  clear HD
  go_wp2_with fail
  refine (number_is z m q _ hz (by rw [HY.out]; exact EP.out)).mono ?_
  rintro e w2 ⟨rfl, hb2⟩
  have hc2 := hb1.trans (hb2.mono hb1.size)
  clear hb2 hb1
  by_cases hlen : 40 < s.size
  · go_wp2_with fail
    refine (awake_any _ (HT.out.keep hc2)).mono ?_
    rintro e w3 ⟨rfl, hb3⟩
    have hc3 := hc2.trans (hb3.mono hc2.size)
    go_wp2_with fail
    go_ret
    exact ⟨rfl, hc3⟩
  · rcases numP_cases s.data.toList with ⟨f, e1, hf⟩ | ⟨k, e1, e2, hk0, hk1⟩
    · have E1 := Lib.hid e1; clear e1
      have hf2 : (f == 0) = false := beq_eq_false_iff_ne.2 hf
      have hf3 : (f != 0) = true := bne_iff_ne.2 hf
      have HF := Lib.hid hf; clear hf
      go_wp2_with fail
      refine (number_is s 0 f _ (by omega) E1.out).mono ?_
      rintro e w3 ⟨rfl, hb3⟩
      have hc3 := hc2.trans (hb3.mono hc2.size)
      go_wp2_with fail
      refine (awake_any _ (HT.out.keep hc3)).mono ?_
      rintro e w4 ⟨rfl, hb4⟩
      have hc4 := hc3.trans (hb4.mono hc3.size)
      go_wp2_with fail
      go_ret
      exact ⟨rfl, hc4⟩
    · have E1 := Lib.hid e1; have E2 := Lib.hid e2; clear e1 e2
      go_wp2_with fail
      refine (number_is s k 0 _ (by omega) E1.out).mono ?_
      rintro e w3 ⟨rfl, hb3⟩
      have hc3 := hc2.trans (hb3.mono hc2.size)
      go_wp2_with fail
      refine (digits_is k s _ (by omega) (by omega) (HT.out.keep hc3) E2.out).mono ?_
      rintro e w4 ⟨rfl, hb4⟩
      have hc4 := hc3.trans (hb4.mono hc3.size)
      go_wp2_with fail
      refine (awake_any _ (HT.out.keep hc4)).mono ?_
      rintro e w5 ⟨rfl, hb5⟩
      have hc5 := hc4.trans (hb5.mono hc4.size)
      go_wp2_with fail
      go_ret
      exact ⟨rfl, hc5⟩
theorem numBack_walk (n : Int) (s : ByteArray) (w : World) (h0 : -9223372036854775808 ≤ n) (h1 : n ≤ 9223372036854775807) (hbig : s.size ≤ 9223372036854775807) (ht : Tab w) :
    Calls Tryd.prog 6 #[.int .i64 n, .string s] w fun e w' => e = .returned (.bool true) ∧ Below w.heap.size w w' := by
  by_cases k0 : n < -4611686018427387904
  · exact numBack_low n s w h0 h1 hbig ht k0
  · by_cases k1 : 4611686018427387904 < n
    · exact numBack_high n s w h0 h1 hbig ht k1
    · exact numBack_near n s w h0 h1 hbig ht (by omega) (by omega)
end Go.Proofs.YtmieghihapkgeaaDoor
