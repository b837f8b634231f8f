/-
  The contract of the laws' own 'awake': the chapter's examples; what was there stays as it was. And the readers' contracts in the form that the laws' walks take.
-/
import Derived.Test.YtjenhgbighlooaaWireE
import Derived.Test.YtjenhgbighlooaaWireJ
set_option linter.unusedVariables false
namespace Go.Proofs.Ytjenhgbighlooaa
open Go.RowKit WireP

theorem int_is (n : Int) (z : ByteArray) (w : World) (h0 : -9223372036854775808 ≤ n) (h1 : n ≤ 9223372036854775807) (h : enc n = z.data.toList) :
    Calls Try.prog 8 #[.int .i64 n] w fun e w' => e = .returned (.string z) ∧ Below w.heap.size w w' := by
  have h2 := int_any n w h0 h1
  rw [h, ← str_eq (s := z) rfl] at h2
  exact h2
theorem text_is (s z : ByteArray) (w : World) (hs : s.size ≤ 4398046511104) (h : text s.data.toList = z.data.toList) :
    Calls Try.prog 12 #[.string s] w fun e w' => e = .returned (.string z) ∧ Below w.heap.size w w' := by
  have h2 := text_any s w hs
  rw [h, ← str_eq (s := z) rfl] at h2
  exact h2
/-- What a step of the program's reader leaves: it stands so, nothing else has turned. -/
def RdStep (w : World) (b : Nat) (st : St) (w' : World) : Prop := RdAt w' b st ∧ w.grownBy w' (some b)
theorem rdint_is (b : Nat) (st st' : St) (lo hi n : Int) (w : World) (h : RdAt w b st) (hr : rdInt lo hi st = (n, st')) :
    Calls Try.prog 17 #[.pointer (some ⟨b, 0, none⟩), .int .i64 lo, .int .i64 hi] w fun e w' => e = .returned (.int .i64 n) ∧ RdStep w b st' w' := by
  have h2 := rdint_any b st lo hi w h
  rw [hr] at h2
  exact h2
theorem rdflag_is (b : Nat) (st st' : St) (v : Bool) (w : World) (h : RdAt w b st) (hr : rdFlag st = (v, st')) :
    Calls Try.prog 19 #[.pointer (some ⟨b, 0, none⟩)] w fun e w' => e = .returned (.bool v) ∧ RdStep w b st' w' := by
  have h2 := rdflag_any b st w h
  rw [hr] at h2
  exact h2
theorem rdtext_is (b : Nat) (st st' : St) (most : Int) (z : ByteArray) (w : World) (h : RdAt w b st) (hr : rdText most st = (z.data.toList, st')) :
    Calls Try.prog 21 #[.pointer (some ⟨b, 0, none⟩), .int .i64 most] w fun e w' => e = .returned (.string z) ∧ RdStep w b st' w' := by
  have h2 := rdtext_any b st most w h
  rw [hr, ← str_eq (s := z) rfl] at h2
  exact h2
theorem rdlist_is (b : Nat) (st st' : St) (most n : Int) (w : World) (h : RdAt w b st) (hr : rdList most st = (n, st')) :
    Calls Try.prog 23 #[.pointer (some ⟨b, 0, none⟩), .int .i64 most] w fun e w' => e = .returned (.int .i64 n) ∧ RdStep w b st' w' := by
  have h2 := rdlist_any b st most w h
  rw [hr] at h2
  exact h2
theorem rddone_is (b : Nat) (st : St) (v : Bool) (w : World) (h : RdAt w b st) (hr : done st = v) :
    Calls Try.prog 27 #[.pointer (some ⟨b, 0, none⟩)] w fun e w' => e = .returned (.bool v) ∧ Below w.heap.size w w' := by
  have h2 := rddone_any b st w h
  rw [hr] at h2
  exact h2
theorem RdStep.below {w w' : World} {b B : Nat} {st st0 : St} (h : RdStep w b st w') (h0 : RdAt w b st0) (hB : B ≤ b) : Below B w w' := below_of_grown h.2 hB h0.lt
theorem below_keep {B : Nat} {a b c : World} (h : Below B a b) (k : Below b.heap.size b c) (hB : B ≤ b.heap.size) : Below B a c := h.trans (k.mono hB)
theorem enc_of {n : Int} {l : List UInt8} (h : val l = ix n) (h2 : l.headD 1 ≠ 0) : enc n = UInt8.ofNat l.length :: l := by unfold enc; rw [← h, be_val _ l rfl h2]
theorem ex1 : enc 0 = [0] := enc_of (l := []) rfl (by decide)
theorem ex2 : enc (-1) = [1, 1] := enc_of (l := [1]) rfl (by decide)
theorem ex3 : enc 128 = [2, 1, 0] := enc_of (l := [1, 0]) rfl (by decide)
theorem ex4 : text [97, 98] = [1, 4, 97, 98] := by unfold text; rw [enc_of (l := [4]) rfl (by decide)]; rfl
theorem ex5 : rdInt (-5) 5 (some [1, 1, 1, 1, 4, 97, 98]) = (-1, some [1, 1, 4, 97, 98]) := by decide +kernel
theorem ex6 : rdFlag (some [1, 1, 4, 97, 98]) = (true, some [1, 4, 97, 98]) := by decide +kernel
theorem ex7 : rdText 9 (some [1, 4, 97, 98]) = ([97, 98], some []) := by decide +kernel
theorem ex8 : rdInt 0 1 (some []) = (0, none) := by decide +kernel
theorem awake_any (w : World) : Calls Try.prog 7 #[] w fun e w' => e = .returned (.bool true) ∧ Below w.heap.size w w' := by
  go_enter Try.func7, Try.ntmps7
  go_wp2_with fail
  refine (new_any ⟨#[1, 1, 1, 1, 4, 97, 98]⟩ w (by decide)).mono ?_
  rintro e w1 ⟨rfl, hr1, hb1⟩
  have HR1 := Lib.hid hr1; have HB1 := Lib.hid hb1; clear hr1
  go_wp2_with fail
  refine (int_is 0 ⟨#[0]⟩ w1 (by decide) (by decide) ex1).mono ?_
  rintro e w2 ⟨rfl, hb2⟩
  have HR2 := Lib.hid (HR1.out.keep (hb2.block _ HR1.out.lt)); have HB2 := Lib.hid (below_keep HB1.out hb2 HB1.out.size)
  clear hb1 hb2 HR1 HB1
  go_wp2_with fail
  refine (int_is (-1) ⟨#[1, 1]⟩ w2 (by decide) (by decide) ex2).mono ?_
  rintro e w3 ⟨rfl, hb3⟩
  have HR3 := Lib.hid (HR2.out.keep (hb3.block _ HR2.out.lt)); have HB3 := Lib.hid (below_keep HB2.out hb3 HB2.out.size)
  clear hb3 HR2 HB2
  go_wp2_with fail
  refine (int_is 128 ⟨#[2, 1, 0]⟩ w3 (by decide) (by decide) ex3).mono ?_
  rintro e w4 ⟨rfl, hb4⟩
  have HR4 := Lib.hid (HR3.out.keep (hb4.block _ HR3.out.lt)); have HB4 := Lib.hid (below_keep HB3.out hb4 HB3.out.size)
  clear hb4 HR3 HB3
  go_wp2_with fail
  refine (text_is ⟨#[97, 98]⟩ ⟨#[1, 4, 97, 98]⟩ w4 (by decide) ex4).mono ?_
  rintro e w5 ⟨rfl, hb5⟩
  have HR5 := Lib.hid (HR4.out.keep (hb5.block _ HR4.out.lt)); have HB5 := Lib.hid (below_keep HB4.out hb5 HB4.out.size)
  clear hb5 HR4 HB4
  go_wp2_with fail
  refine (rdint_is w.heap.size _ _ (-5) 5 (-1) w5 HR5.out ex5).mono ?_
  rintro e w6 ⟨rfl, hs6⟩
  have HR6 := Lib.hid hs6.1; have HB6 := Lib.hid (HB5.out.trans (hs6.below HR5.out (Nat.le_refl _)))
  clear hs6 HR5 HB5
  go_wp2_with fail
  refine (rdflag_is w.heap.size _ _ true w6 HR6.out ex6).mono ?_
  rintro e w7 ⟨rfl, hs7⟩
  have HR7 := Lib.hid hs7.1; have HB7 := Lib.hid (HB6.out.trans (hs7.below HR6.out (Nat.le_refl _)))
  clear hs7 HR6 HB6
  go_wp2_with fail
  refine (rdtext_is w.heap.size _ _ 9 ⟨#[97, 98]⟩ w7 HR7.out ex7).mono ?_
  rintro e w8 ⟨rfl, hs8⟩
  have HR8 := Lib.hid hs8.1; have HB8 := Lib.hid (HB7.out.trans (hs8.below HR7.out (Nat.le_refl _)))
  clear hs8 HR7 HB7
  go_wp2_with fail
  refine (rddone_is w.heap.size _ true w8 HR8.out rfl).mono ?_
  rintro e w9 ⟨rfl, hb9⟩
  have HR9 := Lib.hid (HR8.out.keep (hb9.block _ HR8.out.lt)); have HB9 := Lib.hid (below_keep HB8.out hb9 HB8.out.size)
  clear hb9 HR8 HB8
  go_wp2_with fail
  refine (rdint_is w.heap.size _ _ 0 1 0 w9 HR9.out ex8).mono ?_
  rintro e w10 ⟨rfl, hs10⟩
  have HR10 := Lib.hid hs10.1; have HB10 := Lib.hid (HB9.out.trans (hs10.below HR9.out (Nat.le_refl _)))
  clear hs10 HR9 HB9
  go_wp2_with fail
  refine (rddone_is w.heap.size _ false w10 HR10.out rfl).mono ?_
  rintro e w11 ⟨rfl, hb11⟩
  have HB11 := Lib.hid (below_keep HB10.out hb11 HB10.out.size)
  clear hb11 HR10 HB10
  go_wp2_with fail
  go_ret
  exact ⟨rfl, HB11.out⟩
end Go.Proofs.Ytjenhgbighlooaa
