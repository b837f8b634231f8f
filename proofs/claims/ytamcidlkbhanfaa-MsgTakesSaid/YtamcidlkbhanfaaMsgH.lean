/-
  The contracts of both Puts: any envelope; what was there stays as it was.
-/
import Derived.Test.YtamcidlkbhanfaaMsgB
import Derived.Test.YtamcidlkbhanfaaMsgBr
import Derived.Test.YtamcidlkbhanfaaMsgC
import Derived.Test.YtamcidlkbhanfaaMsgG
import Derived.Test.YtamcidlkbhanfaaMsgL
set_option linter.unusedVariables false
set_option linter.unusedSimpArgs false
set_option maxRecDepth 4000
namespace Go.Proofs.Ytamcidlkbhanfaa.Msg
open Go.RowKit MsgP
open Go.Proofs.Ytamcidlkbhanfaa.Kt

open Bld
open Go.Sort
open WireP (enc encs flag)
theorem ints_two (k : Nat) (x0 x1 : Int) (z : ByteArray) (hz : encs [x0, x1] = z.data.toList) (h0 : I64 x0) (h1 : I64 x1) (W : World) (hc : At2 3 W k (.int .i64 x0) (.int .i64 x1)) :
    Calls Try.prog 28 #[.slice (some ⟨k, 0, none⟩) 2 2] W fun e w' => e = .returned (.string z) ∧ Below W.heap.size W w' := by
  have h2 := Wire.ints_any (some ⟨k, 0, none⟩) 2 2 _ W (ints_at2 h0 h1 hc) (by omega)
  rw [hz, show (⟨z.data.toList.toArray⟩ : ByteArray) = z from bs_data z] at h2
  exact h2
theorem rflag_below (v : Bool) (z : ByteArray) (w : World) (hz : flag v = z.data.toList) : Calls Try.prog 31 #[.bool v] w fun e w' => e = .returned (.string z) ∧ Below w.heap.size w w' :=
  (rflag_is v z w hz).mono fun e w' ⟨h, hw⟩ => ⟨h, by subst hw; exact Below.refl _ _⟩
theorem putE_len {x : OutP.En} (h : E64 x) : (putE x).length ≤ 63 := by rw [← fputs_E]; exact fputs_len (f64_E h)
theorem putR_len {x : Rp} (h : R64 x) : (putR x).length ≤ 63 := by rw [← fputs_R]; exact fputs_len (f64_R h)

set_option maxHeartbeats 4000000 in
theorem put_no (n0 : Int) (n1 : Bool) (n2 : Int) (x0 : Int) (x1 : Int) (x2 : Int) (x3 : Bool) (x4 : Int) (x5 : Int) (x6 : Bool) (r0 : Int) (r1 : Int) (r2 : Int) (r3 : Int) (r4 : Bool) (r5 : Int) (r6 : Int) (h : fitV ⟨n0, n1, n2, ⟨x0, x1, x2, x3, x4, x5, x6⟩, ⟨r0, r1, r2, r3, r4, r5, r6⟩⟩ = false) (w : World) : Calls Try.prog 6 #[vv n0 n1 n2 x0 x1 x2 x3 x4 x5 x6 r0 r1 r2 r3 r4 r5 r6] w fun e w' => e = .returned (.tuple #[.string ⟨#[]⟩, .int .i64 1]) ∧ Below w.heap.size w w' := by
  have HA0 := Lib.hid (at17_new 27 w (.int .i64 n0) (.bool n1) (.int .i64 n2) (.int .i64 x0) (.int .i64 x1) (.int .i64 x2) (.bool x3) (.int .i64 x4) (.int .i64 x5) (.bool x6) (.int .i64 r0) (.int .i64 r1) (.int .i64 r2) (.int .i64 r3) (.bool r4) (.int .i64 r5) (.int .i64 r6))
  have HB0 := Lib.hid (bx17_new 27 w (.int .i64 n0) (.bool n1) (.int .i64 n2) (.int .i64 x0) (.int .i64 x1) (.int .i64 x2) (.bool x3) (.int .i64 x4) (.int .i64 x5) (.bool x6) (.int .i64 r0) (.int .i64 r1) (.int .i64 r2) (.int .i64 r3) (.bool r4) (.int .i64 r5) (.int .i64 r6))
  obtain ⟨w1, hw1⟩ : ∃ w1, w.alloc (.cells #[.int .i64 n0, .bool n1, .int .i64 n2, .int .i64 x0, .int .i64 x1, .int .i64 x2, .bool x3, .int .i64 x4, .int .i64 x5, .bool x6, .int .i64 r0, .int .i64 r1, .int .i64 r2, .int .i64 r3, .bool r4, .int .i64 r5, .int .i64 r6] 27) = w1 := ⟨_, rfl⟩
  rw [hw1] at HB0
  have HW := Lib.hid hw1
  clear hw1
  have CF := Lib.hid (fit_is n0 n1 n2 x0 x1 x2 x3 x4 x5 x6 r0 r1 r2 r3 r4 r5 r6 false h w1)
  clear h
  go_enter Try.func6, Try.ntmps6
  go_wp2_with (refine ld17 HA0.out (.tmp 1) (by kernel_rfl) rfl rfl ?_)
  rw [show w.alloc (.cells #[.int .i64 n0, .bool n1, .int .i64 n2, .int .i64 x0, .int .i64 x1, .int .i64 x2, .bool x3, .int .i64 x4, .int .i64 x5, .bool x6, .int .i64 r0, .int .i64 r1, .int .i64 r2, .int .i64 r3, .bool r4, .int .i64 r5, .int .i64 r6] 27) = w1 from HW.out]
  refine CF.out.mono ?_
  rintro e w2 ⟨rfl, hb⟩
  have HB1 := Lib.hid (HB0.out.keep hb)
  clear hb
  go_wp2_with fail
  go_ret2
  exact ⟨rfl, HB1.out.bel⟩

set_option maxHeartbeats 4000000 in
theorem rput_no (n0 : Int) (n1 : Bool) (n2 : Int) (x0 : Int) (x1 : Int) (x2 : Int) (x3 : Bool) (x4 : Int) (x5 : Int) (x6 : Bool) (r0 : Int) (r1 : Int) (r2 : Int) (r3 : Int) (r4 : Bool) (r5 : Int) (r6 : Int) (h : fitV ⟨n0, n1, n2, ⟨x0, x1, x2, x3, x4, x5, x6⟩, ⟨r0, r1, r2, r3, r4, r5, r6⟩⟩ = false) (w : World) : Calls Try.prog 7 #[vv n0 n1 n2 x0 x1 x2 x3 x4 x5 x6 r0 r1 r2 r3 r4 r5 r6] w fun e w' => e = .returned (.tuple #[.string ⟨#[]⟩, .int .i64 1]) ∧ Below w.heap.size w w' := by
  have HA0 := Lib.hid (at17_new 27 w (.int .i64 n0) (.bool n1) (.int .i64 n2) (.int .i64 x0) (.int .i64 x1) (.int .i64 x2) (.bool x3) (.int .i64 x4) (.int .i64 x5) (.bool x6) (.int .i64 r0) (.int .i64 r1) (.int .i64 r2) (.int .i64 r3) (.bool r4) (.int .i64 r5) (.int .i64 r6))
  have HB0 := Lib.hid (bx17_new 27 w (.int .i64 n0) (.bool n1) (.int .i64 n2) (.int .i64 x0) (.int .i64 x1) (.int .i64 x2) (.bool x3) (.int .i64 x4) (.int .i64 x5) (.bool x6) (.int .i64 r0) (.int .i64 r1) (.int .i64 r2) (.int .i64 r3) (.bool r4) (.int .i64 r5) (.int .i64 r6))
  obtain ⟨w1, hw1⟩ : ∃ w1, w.alloc (.cells #[.int .i64 n0, .bool n1, .int .i64 n2, .int .i64 x0, .int .i64 x1, .int .i64 x2, .bool x3, .int .i64 x4, .int .i64 x5, .bool x6, .int .i64 r0, .int .i64 r1, .int .i64 r2, .int .i64 r3, .bool r4, .int .i64 r5, .int .i64 r6] 27) = w1 := ⟨_, rfl⟩
  rw [hw1] at HB0
  have HW := Lib.hid hw1
  clear hw1
  have CF := Lib.hid (rfit_is n0 n1 n2 x0 x1 x2 x3 x4 x5 x6 r0 r1 r2 r3 r4 r5 r6 false h w1)
  clear h
  go_enter Try.func7, Try.ntmps7
  go_wp2_with (refine ld17 HA0.out (.tmp 1) (by kernel_rfl) rfl rfl ?_)
  rw [show w.alloc (.cells #[.int .i64 n0, .bool n1, .int .i64 n2, .int .i64 x0, .int .i64 x1, .int .i64 x2, .bool x3, .int .i64 x4, .int .i64 x5, .bool x6, .int .i64 r0, .int .i64 r1, .int .i64 r2, .int .i64 r3, .bool r4, .int .i64 r5, .int .i64 r6] 27) = w1 from HW.out]
  refine CF.out.mono ?_
  rintro e w2 ⟨rfl, hb⟩
  have HB1 := Lib.hid (HB0.out.keep hb)
  clear hb
  go_wp2_with fail
  go_ret2
  exact ⟨rfl, HB1.out.bel⟩

theorem ret_pair {a b : ByteArray} {v : Value} (h : a = b) : Ending.returned (.tuple #[.string a, v]) = .returned (.tuple #[.string b, v]) := by rw [h]
set_option maxHeartbeats 4000000 in
theorem put_asked (n0 : Int) (n2 : Int) (x0 : Int) (x1 : Int) (x2 : Int) (x3 : Bool) (x4 : Int) (x5 : Int) (x6 : Bool) (r0 : Int) (r1 : Int) (r2 : Int) (r3 : Int) (r4 : Bool) (r5 : Int) (r6 : Int) (h : fitV ⟨n0, true, n2, ⟨x0, x1, x2, x3, x4, x5, x6⟩, ⟨r0, r1, r2, r3, r4, r5, r6⟩⟩ = true) (t : ByteArray) (ht : bs (putV ⟨n0, true, n2, ⟨x0, x1, x2, x3, x4, x5, x6⟩, ⟨r0, r1, r2, r3, r4, r5, r6⟩⟩) = t) (w : World) : Calls Try.prog 6 #[vv n0 true n2 x0 x1 x2 x3 x4 x5 x6 r0 r1 r2 r3 r4 r5 r6] w fun e w' => e = .returned (.tuple #[.string t, .int .i64 0]) ∧ Below w.heap.size w w' := by
  have hf := fitV_iff.1 h
  have hn0 : 1 ≤ n0 := hf.num0
  have hn1 : n0 ≤ 1099511627776 := hf.num1
  have h64 : E64 ⟨x0, x1, x2, x3, x4, x5, x6⟩ := e64_of (hf.asked rfl).1
  have hI : I64 n0 := ⟨by omega, by omega⟩
  have hO : I64 1 := ⟨by decide, by decide⟩
  obtain ⟨z0, hz0⟩ : ∃ z : ByteArray, encs [1, n0] = z.data.toList := ⟨bs (encs [1, n0]), (data_bs _).symm⟩
  obtain ⟨z1, hz1⟩ : ∃ z : ByteArray, flag true = z.data.toList := ⟨bs (flag true), (data_bs _).symm⟩
  obtain ⟨z2, hz2⟩ : ∃ z : ByteArray, putE ⟨x0, x1, x2, x3, x4, x5, x6⟩ = z.data.toList := ⟨bs (putE ⟨x0, x1, x2, x3, x4, x5, x6⟩), (data_bs _).symm⟩
  have HT : Hid ((z0 ++ z1) ++ z2 = t) := by
    show _ = t
    rw [← ht, ← bs_data z0, ← bs_data z1, ← bs_data z2, ← hz0, ← hz1, ← hz2]
    simp only [bs_append, encs_two, putV, if_true, List.append_assoc]
  have hs0 : z0.size ≤ 100 := by rw [size_list, ← hz0, encs_two, List.length_append]; have := WireP.enc_len hO.1 hO.2; have := WireP.enc_len hI.1 hI.2; omega
  have hs1 : z1.size ≤ 100 := by rw [size_list, ← hz1]; decide
  have hs2 : z2.size ≤ 100 := by rw [size_list, ← hz2]; have := putE_len h64; omega
  have g0 := fun W : World => run_string_add (P := Try.prog) W z0 z1 (by omega) (by omega)
  have g1 := fun W : World => run_string_add (P := Try.prog) W (z0 ++ z1) z2 (by rw [ByteArray.size_append]; omega) (by omega)
  have CA := Lib.hid (fun W k => ints_two k 1 n0 z0 hz0 hO hI W)
  have CG := Lib.hid (fun W => flag_is true z1 W hz1)
  have CE := Lib.hid (fun W => pute_is x0 x1 x2 x3 x4 x5 x6 z2 (by rw [hz2, bs_data]) h64 W)
  have HA0 := Lib.hid (at17_new 27 w (.int .i64 n0) (.bool true) (.int .i64 n2) (.int .i64 x0) (.int .i64 x1) (.int .i64 x2) (.bool x3) (.int .i64 x4) (.int .i64 x5) (.bool x6) (.int .i64 r0) (.int .i64 r1) (.int .i64 r2) (.int .i64 r3) (.bool r4) (.int .i64 r5) (.int .i64 r6))
  have HB0 := Lib.hid (bx17_new 27 w (.int .i64 n0) (.bool true) (.int .i64 n2) (.int .i64 x0) (.int .i64 x1) (.int .i64 x2) (.bool x3) (.int .i64 x4) (.int .i64 x5) (.bool x6) (.int .i64 r0) (.int .i64 r1) (.int .i64 r2) (.int .i64 r3) (.bool r4) (.int .i64 r5) (.int .i64 r6))
  obtain ⟨w1, hw1⟩ : ∃ w1, w.alloc (.cells #[.int .i64 n0, .bool true, .int .i64 n2, .int .i64 x0, .int .i64 x1, .int .i64 x2, .bool x3, .int .i64 x4, .int .i64 x5, .bool x6, .int .i64 r0, .int .i64 r1, .int .i64 r2, .int .i64 r3, .bool r4, .int .i64 r5, .int .i64 r6] 27) = w1 := ⟨_, rfl⟩
  rw [hw1] at HB0
  have HW := Lib.hid hw1
  clear hw1
  have CF := Lib.hid (fit_is n0 true n2 x0 x1 x2 x3 x4 x5 x6 r0 r1 r2 r3 r4 r5 r6 true h w1)
  clear h ht hf h64 hz0 hz1 hz2 hn0 hn1 hI hO
  go_enter Try.func6, Try.ntmps6
  go_wp2_with (refine ld17 HA0.out (.tmp 1) (by kernel_rfl) rfl rfl ?_)
  rw [show w.alloc (.cells #[.int .i64 n0, .bool true, .int .i64 n2, .int .i64 x0, .int .i64 x1, .int .i64 x2, .bool x3, .int .i64 x4, .int .i64 x5, .bool x6, .int .i64 r0, .int .i64 r1, .int .i64 r2, .int .i64 r3, .bool r4, .int .i64 r5, .int .i64 r6] 27) = w1 from HW.out]
  refine CF.out.mono ?_
  rintro e w2 ⟨rfl, hb⟩
  have HB1 := Lib.hid (HB0.out.keep hb)
  clear hb
  obtain ⟨q0, q1, q2, q3, q4, q5, q6, q7, q8, q9, q10, q11, q12, q13, q14, q15, q16⟩ := cells17 HB1.out.box
  go_wp2_with fail
  have KS : Hid (∀ w', Below w2.heap.size w2 w' → w'.cell? ⟨w.heap.size, 0, none⟩ = some (.int .i64 n0) ∧ w'.cell? ⟨w.heap.size, 1, none⟩ = some (.bool true)) := fun w' hb => by
    obtain ⟨q0, q1, q2, q3, q4, q5, q6, q7, q8, q9, q10, q11, q12, q13, q14, q15, q16⟩ := cells17 (HB1.out.keep hb).box
    exact ⟨q0, q1⟩
  have b0 : Below w2.heap.size w2 w2.drew := (Below.refl _ w2).drew
  have ba := ((Below.refl w2.heap.size w2).alloc (Nat.le_refl _) (.cells #[.int .i64 1, .int .i64 n0] 3)).drew
  have hA0 : At2 3 (w2.alloc (.cells #[.int .i64 1, .int .i64 n0] 3)).drew w2.heap.size (.int .i64 1) (.int .i64 n0) := at2_new 3 w2 (.int .i64 1) (.int .i64 n0)
  have k0 := KS.out _ b0
  have ka := KS.out _ ba
  go_region_held3 (fun w' => w'.cell? ⟨w.heap.size, 0, none⟩ = some (.int .i64 n0) ∧ w'.cell? ⟨w.heap.size, 1, none⟩ = some (.bool true))
    (first | with_reducible exact k0 | with_reducible exact ka | with_reducible exact k4)
    (first
      | ((with_reducible refine (CG.out w4).mono ?_); rintro e w7 ⟨rfl, rfl⟩)
      | ((with_reducible refine (CA.out (w2.alloc (.cells #[.int .i64 1, .int .i64 n0] 3)).drew _ hA0).mono ?_); rintro e w4 ⟨rfl, hb⟩; have b4 := below_keep ba hb ba.size; have k4 := KS.out _ b4))
  have HB4 := Lib.hid (HB1.out.keep b4)
  clear b4 k4 hb ba hA0 k0 ka b0 KS q0 q1 q2 q3 q4 q5 q6 q7 q8 q9 q10 q11 q12 q13 q14 q15 q16
  obtain ⟨q0, q1, q2, q3, q4, q5, q6, q7, q8, q9, q10, q11, q12, q13, q14, q15, q16⟩ := cells17 HB4.out.box
  go_wp2_with fail
  refine (CE.out w4).mono ?_
  rintro e w5 ⟨rfl, hb⟩
  have HB5 := Lib.hid (HB4.out.keep hb)
  clear hb
  go_wp2_with fail
  go_ret2
  exact ⟨ret_pair HT.out, HB5.out.bel⟩
set_option maxHeartbeats 4000000 in
theorem put_told (n0 : Int) (n2 : Int) (x0 : Int) (x1 : Int) (x2 : Int) (x3 : Bool) (x4 : Int) (x5 : Int) (x6 : Bool) (r0 : Int) (r1 : Int) (r2 : Int) (r3 : Int) (r4 : Bool) (r5 : Int) (r6 : Int) (h : fitV ⟨n0, false, n2, ⟨x0, x1, x2, x3, x4, x5, x6⟩, ⟨r0, r1, r2, r3, r4, r5, r6⟩⟩ = true) (t : ByteArray) (ht : bs (putV ⟨n0, false, n2, ⟨x0, x1, x2, x3, x4, x5, x6⟩, ⟨r0, r1, r2, r3, r4, r5, r6⟩⟩) = t) (w : World) : Calls Try.prog 6 #[vv n0 false n2 x0 x1 x2 x3 x4 x5 x6 r0 r1 r2 r3 r4 r5 r6] w fun e w' => e = .returned (.tuple #[.string t, .int .i64 0]) ∧ Below w.heap.size w w' := by
  have hf := fitV_iff.1 h
  have hn0 : 1 ≤ n0 := hf.num0
  have hn1 : n0 ≤ 1099511627776 := hf.num1
  have h64 : R64 ⟨r0, r1, r2, r3, r4, r5, r6⟩ := r64_of (hf.told rfl).1
  have hI : I64 n0 := ⟨by omega, by omega⟩
  have hO : I64 1 := ⟨by decide, by decide⟩
  obtain ⟨z0, hz0⟩ : ∃ z : ByteArray, encs [1, n0] = z.data.toList := ⟨bs (encs [1, n0]), (data_bs _).symm⟩
  obtain ⟨z1, hz1⟩ : ∃ z : ByteArray, flag false = z.data.toList := ⟨bs (flag false), (data_bs _).symm⟩
  obtain ⟨z2, hz2⟩ : ∃ z : ByteArray, putR ⟨r0, r1, r2, r3, r4, r5, r6⟩ = z.data.toList := ⟨bs (putR ⟨r0, r1, r2, r3, r4, r5, r6⟩), (data_bs _).symm⟩
  have HT : Hid ((z0 ++ z1) ++ z2 = t) := by
    show _ = t
    rw [← ht, ← bs_data z0, ← bs_data z1, ← bs_data z2, ← hz0, ← hz1, ← hz2]
    simp only [bs_append, encs_two, putV, Bool.false_eq_true, if_false, List.append_assoc]
  have hs0 : z0.size ≤ 100 := by rw [size_list, ← hz0, encs_two, List.length_append]; have := WireP.enc_len hO.1 hO.2; have := WireP.enc_len hI.1 hI.2; omega
  have hs1 : z1.size ≤ 100 := by rw [size_list, ← hz1]; decide
  have hs2 : z2.size ≤ 100 := by rw [size_list, ← hz2]; have := putR_len h64; omega
  have g0 := fun W : World => run_string_add (P := Try.prog) W z0 z1 (by omega) (by omega)
  have g1 := fun W : World => run_string_add (P := Try.prog) W (z0 ++ z1) z2 (by rw [ByteArray.size_append]; omega) (by omega)
  have CA := Lib.hid (fun W k => ints_two k 1 n0 z0 hz0 hO hI W)
  have CG := Lib.hid (fun W => flag_is false z1 W hz1)
  have CE := Lib.hid (fun W => putr_is r0 r1 r2 r3 r4 r5 r6 z2 (by rw [hz2, bs_data]) h64 W)
  have HA0 := Lib.hid (at17_new 27 w (.int .i64 n0) (.bool false) (.int .i64 n2) (.int .i64 x0) (.int .i64 x1) (.int .i64 x2) (.bool x3) (.int .i64 x4) (.int .i64 x5) (.bool x6) (.int .i64 r0) (.int .i64 r1) (.int .i64 r2) (.int .i64 r3) (.bool r4) (.int .i64 r5) (.int .i64 r6))
  have HB0 := Lib.hid (bx17_new 27 w (.int .i64 n0) (.bool false) (.int .i64 n2) (.int .i64 x0) (.int .i64 x1) (.int .i64 x2) (.bool x3) (.int .i64 x4) (.int .i64 x5) (.bool x6) (.int .i64 r0) (.int .i64 r1) (.int .i64 r2) (.int .i64 r3) (.bool r4) (.int .i64 r5) (.int .i64 r6))
  obtain ⟨w1, hw1⟩ : ∃ w1, w.alloc (.cells #[.int .i64 n0, .bool false, .int .i64 n2, .int .i64 x0, .int .i64 x1, .int .i64 x2, .bool x3, .int .i64 x4, .int .i64 x5, .bool x6, .int .i64 r0, .int .i64 r1, .int .i64 r2, .int .i64 r3, .bool r4, .int .i64 r5, .int .i64 r6] 27) = w1 := ⟨_, rfl⟩
  rw [hw1] at HB0
  have HW := Lib.hid hw1
  clear hw1
  have CF := Lib.hid (fit_is n0 false n2 x0 x1 x2 x3 x4 x5 x6 r0 r1 r2 r3 r4 r5 r6 true h w1)
  clear h ht hf h64 hz0 hz1 hz2 hn0 hn1 hI hO
  go_enter Try.func6, Try.ntmps6
  go_wp2_with (refine ld17 HA0.out (.tmp 1) (by kernel_rfl) rfl rfl ?_)
  rw [show w.alloc (.cells #[.int .i64 n0, .bool false, .int .i64 n2, .int .i64 x0, .int .i64 x1, .int .i64 x2, .bool x3, .int .i64 x4, .int .i64 x5, .bool x6, .int .i64 r0, .int .i64 r1, .int .i64 r2, .int .i64 r3, .bool r4, .int .i64 r5, .int .i64 r6] 27) = w1 from HW.out]
  refine CF.out.mono ?_
  rintro e w2 ⟨rfl, hb⟩
  have HB1 := Lib.hid (HB0.out.keep hb)
  clear hb
  obtain ⟨q0, q1, q2, q3, q4, q5, q6, q7, q8, q9, q10, q11, q12, q13, q14, q15, q16⟩ := cells17 HB1.out.box
  go_wp2_with fail
  have KS : Hid (∀ w', Below w2.heap.size w2 w' → w'.cell? ⟨w.heap.size, 0, none⟩ = some (.int .i64 n0) ∧ w'.cell? ⟨w.heap.size, 1, none⟩ = some (.bool false)) := fun w' hb => by
    obtain ⟨q0, q1, q2, q3, q4, q5, q6, q7, q8, q9, q10, q11, q12, q13, q14, q15, q16⟩ := cells17 (HB1.out.keep hb).box
    exact ⟨q0, q1⟩
  have b0 : Below w2.heap.size w2 w2.drew := (Below.refl _ w2).drew
  have ba := ((Below.refl w2.heap.size w2).alloc (Nat.le_refl _) (.cells #[.int .i64 1, .int .i64 n0] 3)).drew
  have hA0 : At2 3 (w2.alloc (.cells #[.int .i64 1, .int .i64 n0] 3)).drew w2.heap.size (.int .i64 1) (.int .i64 n0) := at2_new 3 w2 (.int .i64 1) (.int .i64 n0)
  have k0 := KS.out _ b0
  have ka := KS.out _ ba
  go_region_held3 (fun w' => w'.cell? ⟨w.heap.size, 0, none⟩ = some (.int .i64 n0) ∧ w'.cell? ⟨w.heap.size, 1, none⟩ = some (.bool false))
    (first | with_reducible exact k0 | with_reducible exact ka | with_reducible exact k4)
    (first
      | ((with_reducible refine (CG.out w4).mono ?_); rintro e w7 ⟨rfl, rfl⟩)
      | ((with_reducible refine (CA.out (w2.alloc (.cells #[.int .i64 1, .int .i64 n0] 3)).drew _ hA0).mono ?_); rintro e w4 ⟨rfl, hb⟩; have b4 := below_keep ba hb ba.size; have k4 := KS.out _ b4))
  have HB4 := Lib.hid (HB1.out.keep b4)
  clear b4 k4 hb ba hA0 k0 ka b0 KS q0 q1 q2 q3 q4 q5 q6 q7 q8 q9 q10 q11 q12 q13 q14 q15 q16
  obtain ⟨q0, q1, q2, q3, q4, q5, q6, q7, q8, q9, q10, q11, q12, q13, q14, q15, q16⟩ := cells17 HB4.out.box
  go_wp2_with fail
  refine (CE.out w4).mono ?_
  rintro e w5 ⟨rfl, hb⟩
  have HB5 := Lib.hid (HB4.out.keep hb)
  clear hb
  go_wp2_with fail
  go_ret2
  exact ⟨ret_pair HT.out, HB5.out.bel⟩
theorem put_yes (n0 : Int) (n1 : Bool) (n2 : Int) (x0 : Int) (x1 : Int) (x2 : Int) (x3 : Bool) (x4 : Int) (x5 : Int) (x6 : Bool) (r0 : Int) (r1 : Int) (r2 : Int) (r3 : Int) (r4 : Bool) (r5 : Int) (r6 : Int) (h : fitV ⟨n0, n1, n2, ⟨x0, x1, x2, x3, x4, x5, x6⟩, ⟨r0, r1, r2, r3, r4, r5, r6⟩⟩ = true) (t : ByteArray) (ht : bs (putV ⟨n0, n1, n2, ⟨x0, x1, x2, x3, x4, x5, x6⟩, ⟨r0, r1, r2, r3, r4, r5, r6⟩⟩) = t) (w : World) : Calls Try.prog 6 #[vv n0 n1 n2 x0 x1 x2 x3 x4 x5 x6 r0 r1 r2 r3 r4 r5 r6] w fun e w' => e = .returned (.tuple #[.string t, .int .i64 0]) ∧ Below w.heap.size w w' := by
  cases n1 with
  | true => exact put_asked n0  n2 x0 x1 x2 x3 x4 x5 x6 r0 r1 r2 r3 r4 r5 r6 h t ht w
  | false => exact put_told n0  n2 x0 x1 x2 x3 x4 x5 x6 r0 r1 r2 r3 r4 r5 r6 h t ht w
set_option maxHeartbeats 4000000 in
theorem rput_asked (n0 : Int) (n2 : Int) (x0 : Int) (x1 : Int) (x2 : Int) (x3 : Bool) (x4 : Int) (x5 : Int) (x6 : Bool) (r0 : Int) (r1 : Int) (r2 : Int) (r3 : Int) (r4 : Bool) (r5 : Int) (r6 : Int) (h : fitV ⟨n0, true, n2, ⟨x0, x1, x2, x3, x4, x5, x6⟩, ⟨r0, r1, r2, r3, r4, r5, r6⟩⟩ = true) (t : ByteArray) (ht : bs (putV ⟨n0, true, n2, ⟨x0, x1, x2, x3, x4, x5, x6⟩, ⟨r0, r1, r2, r3, r4, r5, r6⟩⟩) = t) (w : World) : Calls Try.prog 7 #[vv n0 true n2 x0 x1 x2 x3 x4 x5 x6 r0 r1 r2 r3 r4 r5 r6] w fun e w' => e = .returned (.tuple #[.string t, .int .i64 0]) ∧ Below w.heap.size w w' := by
  have hf := fitV_iff.1 h
  have hn0 : 1 ≤ n0 := hf.num0
  have hn1 : n0 ≤ 1099511627776 := hf.num1
  have h64 : E64 ⟨x0, x1, x2, x3, x4, x5, x6⟩ := e64_of (hf.asked rfl).1
  have hI : I64 n0 := ⟨by omega, by omega⟩
  have hO : I64 1 := ⟨by decide, by decide⟩
  obtain ⟨y0, hy0⟩ : ∃ z : ByteArray, enc 1 = z.data.toList := ⟨bs (enc 1), (data_bs _).symm⟩
  obtain ⟨z0, hz0⟩ : ∃ z : ByteArray, enc n0 = z.data.toList := ⟨bs (enc n0), (data_bs _).symm⟩
  obtain ⟨z1, hz1⟩ : ∃ z : ByteArray, flag true = z.data.toList := ⟨bs (flag true), (data_bs _).symm⟩
  obtain ⟨z2, hz2⟩ : ∃ z : ByteArray, putE ⟨x0, x1, x2, x3, x4, x5, x6⟩ = z.data.toList := ⟨bs (putE ⟨x0, x1, x2, x3, x4, x5, x6⟩), (data_bs _).symm⟩
  have HT : Hid (((y0 ++ z0) ++ z1) ++ z2 = t) := by
    show _ = t
    rw [← ht, ← bs_data y0, ← bs_data z0, ← bs_data z1, ← bs_data z2, ← hy0, ← hz0, ← hz1, ← hz2]
    simp only [bs_append, putV, if_true, List.append_assoc]
  have hsy : y0.size ≤ 100 := by rw [size_list, ← hy0]; have := WireP.enc_len hO.1 hO.2; omega
  have hs0 : z0.size ≤ 100 := by rw [size_list, ← hz0]; have := WireP.enc_len hI.1 hI.2; omega
  have hs1 : z1.size ≤ 100 := by rw [size_list, ← hz1]; decide
  have hs2 : z2.size ≤ 100 := by rw [size_list, ← hz2]; have := putE_len h64; omega
  have gy := fun W : World => run_string_add (P := Try.prog) W y0 z0 (by omega) (by omega)
  have g0 := fun W : World => run_string_add (P := Try.prog) W (y0 ++ z0) z1 (by rw [ByteArray.size_append]; omega) (by omega)
  have g1 := fun W : World => run_string_add (P := Try.prog) W ((y0 ++ z0) ++ z1) z2 (by rw [ByteArray.size_append, ByteArray.size_append]; omega) (by omega)
  have KY := Lib.hid (fun W => rint_is 1 y0 W hO hy0)
  have KA := Lib.hid (fun W => rint_is n0 z0 W hI hz0)
  have KG := Lib.hid (fun W => rflag_below true z1 W hz1)
  have CE := Lib.hid (fun W => rpute_is x0 x1 x2 x3 x4 x5 x6 z2 (by rw [hz2, bs_data]) h64 W)
  have HA0 := Lib.hid (at17_new 27 w (.int .i64 n0) (.bool true) (.int .i64 n2) (.int .i64 x0) (.int .i64 x1) (.int .i64 x2) (.bool x3) (.int .i64 x4) (.int .i64 x5) (.bool x6) (.int .i64 r0) (.int .i64 r1) (.int .i64 r2) (.int .i64 r3) (.bool r4) (.int .i64 r5) (.int .i64 r6))
  have HB0 := Lib.hid (bx17_new 27 w (.int .i64 n0) (.bool true) (.int .i64 n2) (.int .i64 x0) (.int .i64 x1) (.int .i64 x2) (.bool x3) (.int .i64 x4) (.int .i64 x5) (.bool x6) (.int .i64 r0) (.int .i64 r1) (.int .i64 r2) (.int .i64 r3) (.bool r4) (.int .i64 r5) (.int .i64 r6))
  obtain ⟨w1, hw1⟩ : ∃ w1, w.alloc (.cells #[.int .i64 n0, .bool true, .int .i64 n2, .int .i64 x0, .int .i64 x1, .int .i64 x2, .bool x3, .int .i64 x4, .int .i64 x5, .bool x6, .int .i64 r0, .int .i64 r1, .int .i64 r2, .int .i64 r3, .bool r4, .int .i64 r5, .int .i64 r6] 27) = w1 := ⟨_, rfl⟩
  rw [hw1] at HB0
  have HW := Lib.hid hw1
  clear hw1
  have CF := Lib.hid (rfit_is n0 true n2 x0 x1 x2 x3 x4 x5 x6 r0 r1 r2 r3 r4 r5 r6 true h w1)
  clear h ht hf h64 hz0 hz1 hz2 hy0 hn0 hn1 hI hO
  go_enter Try.func7, Try.ntmps7
  go_wp2_with (refine ld17 HA0.out (.tmp 1) (by kernel_rfl) rfl rfl ?_)
  rw [show w.alloc (.cells #[.int .i64 n0, .bool true, .int .i64 n2, .int .i64 x0, .int .i64 x1, .int .i64 x2, .bool x3, .int .i64 x4, .int .i64 x5, .bool x6, .int .i64 r0, .int .i64 r1, .int .i64 r2, .int .i64 r3, .bool r4, .int .i64 r5, .int .i64 r6] 27) = w1 from HW.out]
  refine CF.out.mono ?_
  rintro e w2 ⟨rfl, hb⟩
  have HB1 := Lib.hid (HB0.out.keep hb)
  clear hb
  obtain ⟨q0, q1, q2, q3, q4, q5, q6, q7, q8, q9, q10, q11, q12, q13, q14, q15, q16⟩ := cells17 HB1.out.box
  have c0 := fun d os => cell_regrown q0 d os
  have c1 := fun d os => cell_regrown q1 d os
  have C0 := Lib.hid (fun d os => Calls.regrown_of (KY.out (Sort.grow (redrawn w2 d) os)))
  have C1 := Lib.hid (fun d os => Calls.regrown_of (KA.out (Sort.grow (redrawn w2 d) os)))
  have C2 := Lib.hid (fun d os => Calls.regrown_of (KG.out (Sort.grow (redrawn w2 d) os)))
  go_wp2_with fail
  refine wp_region_qw (by kernel_rfl) (by kernel_rfl) ?_
  iterate 10 (refine qw_take (by kernel_rfl) (fun K hK => ?_); go_simp; first | (refine hK _ ?_; clear hK K) | (apply Exists.intro; refine ⟨fun _ => ?_, hK _ ?_⟩; (first | with_reducible exact C0.out _ _ | with_reducible exact C1.out _ _ | with_reducible exact C2.out _ _); clear hK K))
  refine qw_nil ?_
  intro _ hw'
  obtain ⟨⟨dq, osq⟩, hw''⟩ := hw'
  subst hw''
  have HB4 := Lib.hid (HB1.out.keep (below_regrown w2 dq osq))
  generalize Sort.grow (redrawn w2 dq) osq = w4 at *
  clear c0 c1 C0 C1 C2 q0 q1 q2 q3 q4 q5 q6 q7 q8 q9 q10 q11 q12 q13 q14 q15 q16
  obtain ⟨q0, q1, q2, q3, q4, q5, q6, q7, q8, q9, q10, q11, q12, q13, q14, q15, q16⟩ := cells17 HB4.out.box
  go_wp2_with fail
  refine (CE.out w4).mono ?_
  rintro e w5 ⟨rfl, hb⟩
  have HB5 := Lib.hid (HB4.out.keep hb)
  clear hb
  go_wp2_with fail
  go_ret2
  exact ⟨ret_pair HT.out, HB5.out.bel⟩
set_option maxHeartbeats 4000000 in
theorem rput_told (n0 : Int) (n2 : Int) (x0 : Int) (x1 : Int) (x2 : Int) (x3 : Bool) (x4 : Int) (x5 : Int) (x6 : Bool) (r0 : Int) (r1 : Int) (r2 : Int) (r3 : Int) (r4 : Bool) (r5 : Int) (r6 : Int) (h : fitV ⟨n0, false, n2, ⟨x0, x1, x2, x3, x4, x5, x6⟩, ⟨r0, r1, r2, r3, r4, r5, r6⟩⟩ = true) (t : ByteArray) (ht : bs (putV ⟨n0, false, n2, ⟨x0, x1, x2, x3, x4, x5, x6⟩, ⟨r0, r1, r2, r3, r4, r5, r6⟩⟩) = t) (w : World) : Calls Try.prog 7 #[vv n0 false n2 x0 x1 x2 x3 x4 x5 x6 r0 r1 r2 r3 r4 r5 r6] w fun e w' => e = .returned (.tuple #[.string t, .int .i64 0]) ∧ Below w.heap.size w w' := by
  have hf := fitV_iff.1 h
  have hn0 : 1 ≤ n0 := hf.num0
  have hn1 : n0 ≤ 1099511627776 := hf.num1
  have h64 : R64 ⟨r0, r1, r2, r3, r4, r5, r6⟩ := r64_of (hf.told rfl).1
  have hI : I64 n0 := ⟨by omega, by omega⟩
  have hO : I64 1 := ⟨by decide, by decide⟩
  obtain ⟨y0, hy0⟩ : ∃ z : ByteArray, enc 1 = z.data.toList := ⟨bs (enc 1), (data_bs _).symm⟩
  obtain ⟨z0, hz0⟩ : ∃ z : ByteArray, enc n0 = z.data.toList := ⟨bs (enc n0), (data_bs _).symm⟩
  obtain ⟨z1, hz1⟩ : ∃ z : ByteArray, flag false = z.data.toList := ⟨bs (flag false), (data_bs _).symm⟩
  obtain ⟨z2, hz2⟩ : ∃ z : ByteArray, putR ⟨r0, r1, r2, r3, r4, r5, r6⟩ = z.data.toList := ⟨bs (putR ⟨r0, r1, r2, r3, r4, r5, r6⟩), (data_bs _).symm⟩
  have HT : Hid (((y0 ++ z0) ++ z1) ++ z2 = t) := by
    show _ = t
    rw [← ht, ← bs_data y0, ← bs_data z0, ← bs_data z1, ← bs_data z2, ← hy0, ← hz0, ← hz1, ← hz2]
    simp only [bs_append, putV, Bool.false_eq_true, if_false, List.append_assoc]
  have hsy : y0.size ≤ 100 := by rw [size_list, ← hy0]; have := WireP.enc_len hO.1 hO.2; omega
  have hs0 : z0.size ≤ 100 := by rw [size_list, ← hz0]; have := WireP.enc_len hI.1 hI.2; omega
  have hs1 : z1.size ≤ 100 := by rw [size_list, ← hz1]; decide
  have hs2 : z2.size ≤ 100 := by rw [size_list, ← hz2]; have := putR_len h64; omega
  have gy := fun W : World => run_string_add (P := Try.prog) W y0 z0 (by omega) (by omega)
  have g0 := fun W : World => run_string_add (P := Try.prog) W (y0 ++ z0) z1 (by rw [ByteArray.size_append]; omega) (by omega)
  have g1 := fun W : World => run_string_add (P := Try.prog) W ((y0 ++ z0) ++ z1) z2 (by rw [ByteArray.size_append, ByteArray.size_append]; omega) (by omega)
  have KY := Lib.hid (fun W => rint_is 1 y0 W hO hy0)
  have KA := Lib.hid (fun W => rint_is n0 z0 W hI hz0)
  have KG := Lib.hid (fun W => rflag_below false z1 W hz1)
  have CE := Lib.hid (fun W => rputr_is r0 r1 r2 r3 r4 r5 r6 z2 (by rw [hz2, bs_data]) h64 W)
  have HA0 := Lib.hid (at17_new 27 w (.int .i64 n0) (.bool false) (.int .i64 n2) (.int .i64 x0) (.int .i64 x1) (.int .i64 x2) (.bool x3) (.int .i64 x4) (.int .i64 x5) (.bool x6) (.int .i64 r0) (.int .i64 r1) (.int .i64 r2) (.int .i64 r3) (.bool r4) (.int .i64 r5) (.int .i64 r6))
  have HB0 := Lib.hid (bx17_new 27 w (.int .i64 n0) (.bool false) (.int .i64 n2) (.int .i64 x0) (.int .i64 x1) (.int .i64 x2) (.bool x3) (.int .i64 x4) (.int .i64 x5) (.bool x6) (.int .i64 r0) (.int .i64 r1) (.int .i64 r2) (.int .i64 r3) (.bool r4) (.int .i64 r5) (.int .i64 r6))
  obtain ⟨w1, hw1⟩ : ∃ w1, w.alloc (.cells #[.int .i64 n0, .bool false, .int .i64 n2, .int .i64 x0, .int .i64 x1, .int .i64 x2, .bool x3, .int .i64 x4, .int .i64 x5, .bool x6, .int .i64 r0, .int .i64 r1, .int .i64 r2, .int .i64 r3, .bool r4, .int .i64 r5, .int .i64 r6] 27) = w1 := ⟨_, rfl⟩
  rw [hw1] at HB0
  have HW := Lib.hid hw1
  clear hw1
  have CF := Lib.hid (rfit_is n0 false n2 x0 x1 x2 x3 x4 x5 x6 r0 r1 r2 r3 r4 r5 r6 true h w1)
  clear h ht hf h64 hz0 hz1 hz2 hy0 hn0 hn1 hI hO
  go_enter Try.func7, Try.ntmps7
  go_wp2_with (refine ld17 HA0.out (.tmp 1) (by kernel_rfl) rfl rfl ?_)
  rw [show w.alloc (.cells #[.int .i64 n0, .bool false, .int .i64 n2, .int .i64 x0, .int .i64 x1, .int .i64 x2, .bool x3, .int .i64 x4, .int .i64 x5, .bool x6, .int .i64 r0, .int .i64 r1, .int .i64 r2, .int .i64 r3, .bool r4, .int .i64 r5, .int .i64 r6] 27) = w1 from HW.out]
  refine CF.out.mono ?_
  rintro e w2 ⟨rfl, hb⟩
  have HB1 := Lib.hid (HB0.out.keep hb)
  clear hb
  obtain ⟨q0, q1, q2, q3, q4, q5, q6, q7, q8, q9, q10, q11, q12, q13, q14, q15, q16⟩ := cells17 HB1.out.box
  have c0 := fun d os => cell_regrown q0 d os
  have c1 := fun d os => cell_regrown q1 d os
  have C0 := Lib.hid (fun d os => Calls.regrown_of (KY.out (Sort.grow (redrawn w2 d) os)))
  have C1 := Lib.hid (fun d os => Calls.regrown_of (KA.out (Sort.grow (redrawn w2 d) os)))
  have C2 := Lib.hid (fun d os => Calls.regrown_of (KG.out (Sort.grow (redrawn w2 d) os)))
  go_wp2_with fail
  refine wp_region_qw (by kernel_rfl) (by kernel_rfl) ?_
  iterate 10 (refine qw_take (by kernel_rfl) (fun K hK => ?_); go_simp; first | (refine hK _ ?_; clear hK K) | (apply Exists.intro; refine ⟨fun _ => ?_, hK _ ?_⟩; (first | with_reducible exact C0.out _ _ | with_reducible exact C1.out _ _ | with_reducible exact C2.out _ _); clear hK K))
  refine qw_nil ?_
  intro _ hw'
  obtain ⟨⟨dq, osq⟩, hw''⟩ := hw'
  subst hw''
  have HB4 := Lib.hid (HB1.out.keep (below_regrown w2 dq osq))
  generalize Sort.grow (redrawn w2 dq) osq = w4 at *
  clear c0 c1 C0 C1 C2 q0 q1 q2 q3 q4 q5 q6 q7 q8 q9 q10 q11 q12 q13 q14 q15 q16
  obtain ⟨q0, q1, q2, q3, q4, q5, q6, q7, q8, q9, q10, q11, q12, q13, q14, q15, q16⟩ := cells17 HB4.out.box
  go_wp2_with fail
  refine (CE.out w4).mono ?_
  rintro e w5 ⟨rfl, hb⟩
  have HB5 := Lib.hid (HB4.out.keep hb)
  clear hb
  go_wp2_with fail
  go_ret2
  exact ⟨ret_pair HT.out, HB5.out.bel⟩
theorem rput_yes (n0 : Int) (n1 : Bool) (n2 : Int) (x0 : Int) (x1 : Int) (x2 : Int) (x3 : Bool) (x4 : Int) (x5 : Int) (x6 : Bool) (r0 : Int) (r1 : Int) (r2 : Int) (r3 : Int) (r4 : Bool) (r5 : Int) (r6 : Int) (h : fitV ⟨n0, n1, n2, ⟨x0, x1, x2, x3, x4, x5, x6⟩, ⟨r0, r1, r2, r3, r4, r5, r6⟩⟩ = true) (t : ByteArray) (ht : bs (putV ⟨n0, n1, n2, ⟨x0, x1, x2, x3, x4, x5, x6⟩, ⟨r0, r1, r2, r3, r4, r5, r6⟩⟩) = t) (w : World) : Calls Try.prog 7 #[vv n0 n1 n2 x0 x1 x2 x3 x4 x5 x6 r0 r1 r2 r3 r4 r5 r6] w fun e w' => e = .returned (.tuple #[.string t, .int .i64 0]) ∧ Below w.heap.size w w' := by
  cases n1 with
  | true => exact rput_asked n0  n2 x0 x1 x2 x3 x4 x5 x6 r0 r1 r2 r3 r4 r5 r6 h t ht w
  | false => exact rput_told n0  n2 x0 x1 x2 x3 x4 x5 x6 r0 r1 r2 r3 r4 r5 r6 h t ht w
end Go.Proofs.Ytamcidlkbhanfaa.Msg
