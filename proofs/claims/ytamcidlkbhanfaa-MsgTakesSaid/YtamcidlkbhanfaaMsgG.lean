/-
  The contracts of the document's PutEntry and PutReply: any entry, any reply; what was there stays as it was.
-/
import Derived.Test.YtamcidlkbhanfaaMsgPlain
import Derived.Test.YtamcidlkbhanfaaMsgA
import Derived.Test.YtamcidlkbhanfaaWireK
import Derived.Test.YtamcidlkbhanfaaBd
import Derived.Test.YtamcidlkbhanfaaKt2
import Derived.Test.YtamcidlkbhanfaaKt4
import Derived.Deep.RegionHeld3
set_option linter.unusedVariables false
set_option linter.unusedSimpArgs false
set_option maxRecDepth 4000
namespace Go.Proofs.Ytamcidlkbhanfaa.Msg
open Go.RowKit MsgP
open Go.Proofs.Ytamcidlkbhanfaa.Kt

open Bld
open WireP (enc encs flag)
theorem encs_two (a b : Int) : encs [a, b] = enc a ++ enc b := by simp [WireP.encs]
theorem encs_three (a b c : Int) : encs [a, b, c] = enc a ++ (enc b ++ enc c) := by simp [WireP.encs]
theorem encs_four (a b c d : Int) : encs [a, b, c, d] = enc a ++ (enc b ++ (enc c ++ enc d)) := by simp [WireP.encs]
theorem rflag_is (v : Bool) (z : ByteArray) (w : World) (hz : flag v = z.data.toList) : Calls Try.prog 31 #[.bool v] w fun e w' => e = .returned (.string z) ∧ w = w' := by
  have h := Wire.rflag_any v w
  rw [hz, show (⟨z.data.toList.toArray⟩ : ByteArray) = z from bs_data z] at h
  exact h
theorem rint_is (n : Int) (z : ByteArray) (w : World) (h : I64 n) (hz : enc n = z.data.toList) : Calls Try.prog 30 #[.int .i64 n] w fun e w' => e = .returned (.string z) ∧ Below w.heap.size w w' := by
  have h2 := Wire.rint_any n w h.1 h.2
  rw [hz, show (⟨z.data.toList.toArray⟩ : ByteArray) = z from bs_data z] at h2
  exact h2

theorem ints_at2 {W : World} {k : Nat} {x0 x1 : Int} (h0 : I64 x0) (h1 : I64 x1) (hc : At2 3 W k (.int .i64 x0) (.int .i64 x1)) : Wire.IntsAt W (some ⟨k, 0, none⟩) 2 [x0, x1] := by
  refine ⟨rfl, ?_, .inr ⟨k, 0, rfl, heap_lt hc, fun i hi => ?_⟩⟩
  · intro x hx
    simp only [List.mem_cons, List.mem_nil_iff, or_false] at hx
    rcases hx with rfl | rfl
    · exact h0
    · exact h1
  · rw [Nat.zero_add, cell_of_heap hc]
    match i, hi with
    | 0, _ => rfl
    | 1, _ => rfl
theorem rints_at2 (k : Nat) (x0 x1 : Int) (z : ByteArray) (hz : encs [x0, x1] = z.data.toList) (h0 : I64 x0) (h1 : I64 x1) (W : World) (hc : At2 3 W k (.int .i64 x0) (.int .i64 x1)) :
    Calls Try.prog 39 #[.slice (some ⟨k, 0, none⟩) 2 2] W fun e w' => e = .returned (.string z) ∧ Below W.heap.size W w' := by
  have h2 := Wire.rints_any (some ⟨k, 0, none⟩) 2 2 _ W (ints_at2 h0 h1 hc) (by omega)
  rw [hz, show (⟨z.data.toList.toArray⟩ : ByteArray) = z from bs_data z] at h2
  exact h2
theorem ints_at3 {W : World} {k : Nat} {x0 x1 x2 : Int} (h0 : I64 x0) (h1 : I64 x1) (h2 : I64 x2) (hc : At3 3 W k (.int .i64 x0) (.int .i64 x1) (.int .i64 x2)) : Wire.IntsAt W (some ⟨k, 0, none⟩) 3 [x0, x1, x2] := by
  refine ⟨rfl, ?_, .inr ⟨k, 0, rfl, heap_lt hc, fun i hi => ?_⟩⟩
  · intro x hx
    simp only [List.mem_cons, List.mem_nil_iff, or_false] at hx
    rcases hx with rfl | rfl | rfl
    · exact h0
    · exact h1
    · exact h2
  · rw [Nat.zero_add, cell_of_heap hc]
    match i, hi with
    | 0, _ => rfl
    | 1, _ => rfl
    | 2, _ => rfl
theorem rints_at3 (k : Nat) (x0 x1 x2 : Int) (z : ByteArray) (hz : encs [x0, x1, x2] = z.data.toList) (h0 : I64 x0) (h1 : I64 x1) (h2 : I64 x2) (W : World) (hc : At3 3 W k (.int .i64 x0) (.int .i64 x1) (.int .i64 x2)) :
    Calls Try.prog 39 #[.slice (some ⟨k, 0, none⟩) 3 3] W fun e w' => e = .returned (.string z) ∧ Below W.heap.size W w' := by
  have h2 := Wire.rints_any (some ⟨k, 0, none⟩) 3 3 _ W (ints_at3 h0 h1 h2 hc) (by omega)
  rw [hz, show (⟨z.data.toList.toArray⟩ : ByteArray) = z from bs_data z] at h2
  exact h2
theorem ints_at4 {W : World} {k : Nat} {x0 x1 x2 x3 : Int} (h0 : I64 x0) (h1 : I64 x1) (h2 : I64 x2) (h3 : I64 x3) (hc : At4 3 W k (.int .i64 x0) (.int .i64 x1) (.int .i64 x2) (.int .i64 x3)) : Wire.IntsAt W (some ⟨k, 0, none⟩) 4 [x0, x1, x2, x3] := by
  refine ⟨rfl, ?_, .inr ⟨k, 0, rfl, heap_lt hc, fun i hi => ?_⟩⟩
  · intro x hx
    simp only [List.mem_cons, List.mem_nil_iff, or_false] at hx
    rcases hx with rfl | rfl | rfl | rfl
    · exact h0
    · exact h1
    · exact h2
    · exact h3
  · rw [Nat.zero_add, cell_of_heap hc]
    match i, hi with
    | 0, _ => rfl
    | 1, _ => rfl
    | 2, _ => rfl
    | 3, _ => rfl
theorem rints_at4 (k : Nat) (x0 x1 x2 x3 : Int) (z : ByteArray) (hz : encs [x0, x1, x2, x3] = z.data.toList) (h0 : I64 x0) (h1 : I64 x1) (h2 : I64 x2) (h3 : I64 x3) (W : World) (hc : At4 3 W k (.int .i64 x0) (.int .i64 x1) (.int .i64 x2) (.int .i64 x3)) :
    Calls Try.prog 39 #[.slice (some ⟨k, 0, none⟩) 4 4] W fun e w' => e = .returned (.string z) ∧ Below W.heap.size W w' := by
  have h2 := Wire.rints_any (some ⟨k, 0, none⟩) 4 4 _ W (ints_at4 h0 h1 h2 h3 hc) (by omega)
  rw [hz, show (⟨z.data.toList.toArray⟩ : ByteArray) = z from bs_data z] at h2
  exact h2
set_option maxHeartbeats 8000000 in
theorem rpute_is (x0 : Int) (x1 : Int) (x2 : Int) (x3 : Bool) (x4 : Int) (x5 : Int) (x6 : Bool) (t : ByteArray) (ht : bs (putE ⟨x0, x1, x2, x3, x4, x5, x6⟩) = t) (h64 : E64 ⟨x0, x1, x2, x3, x4, x5, x6⟩) (w : World) : Calls Try.prog 13 #[(.agg #[.int .i64 x0, .int .i64 x1, .int .i64 x2, .bool x3, .int .i64 x4, .int .i64 x5, .bool x6])] w fun e w' => e = .returned (.string t) ∧ Below w.heap.size w w' := by
  obtain ⟨z0, hz0⟩ : ∃ z : ByteArray, encs [x0, x1, x2] = z.data.toList := ⟨bs (encs [x0, x1, x2]), (data_bs _).symm⟩
  obtain ⟨z1, hz1⟩ : ∃ z : ByteArray, flag x3 = z.data.toList := ⟨bs (flag x3), (data_bs _).symm⟩
  obtain ⟨z2, hz2⟩ : ∃ z : ByteArray, encs [x4, x5] = z.data.toList := ⟨bs (encs [x4, x5]), (data_bs _).symm⟩
  obtain ⟨z3, hz3⟩ : ∃ z : ByteArray, flag x6 = z.data.toList := ⟨bs (flag x6), (data_bs _).symm⟩
  have HT : Hid (((z0 ++ z1) ++ z2) ++ z3 = t) := by
    show _ = t
    rw [← ht, ← bs_data z0, ← bs_data z1, ← bs_data z2, ← bs_data z3, ← hz0, ← hz1, ← hz2, ← hz3]
    simp only [bs_append, encs_two, encs_three, putE, List.append_assoc]
  have hs0 : z0.size ≤ 100 := by rw [size_list, ← hz0]; rw [encs_three]; simp only [List.length_append]; have := WireP.enc_len (h64.id).1 (h64.id).2; have := WireP.enc_len (h64.saga).1 (h64.saga).2; have := WireP.enc_len (h64.step).1 (h64.step).2; simp only at *; omega
  have hs1 : z1.size ≤ 100 := by rw [size_list, ← hz1]; cases x3 <;> decide
  have hs2 : z2.size ≤ 100 := by rw [size_list, ← hz2]; rw [encs_two]; simp only [List.length_append]; have := WireP.enc_len (h64.op).1 (h64.op).2; have := WireP.enc_len (h64.sum).1 (h64.sum).2; simp only at *; omega
  have hs3 : z3.size ≤ 100 := by rw [size_list, ← hz3]; cases x6 <;> decide
  have CA := Lib.hid (fun W k => rints_at3 k x0 x1 x2 z0 hz0 h64.id h64.saga h64.step W)
  have CB := Lib.hid (fun W k => rints_at2 k x4 x5 z2 hz2 h64.op h64.sum W)
  have CF := Lib.hid (fun W => rflag_is x3 z1 W hz1)
  have CL := Lib.hid (fun W => rflag_is x6 z3 W hz3)
  have HB0 := Lib.hid (bx7_new 23 w (.int .i64 x0) (.int .i64 x1) (.int .i64 x2) (.bool x3) (.int .i64 x4) (.int .i64 x5) (.bool x6))
  obtain ⟨w1, hw1⟩ : ∃ w1, w.alloc (.cells #[.int .i64 x0, .int .i64 x1, .int .i64 x2, .bool x3, .int .i64 x4, .int .i64 x5, .bool x6] 23) = w1 := ⟨_, rfl⟩
  rw [hw1] at HB0
  have HW := Lib.hid hw1
  have KS : Hid (∀ w', Below w1.heap.size w1 w' → w'.cell? ⟨w.heap.size, 0, none⟩ = some (.int .i64 x0) ∧ w'.cell? ⟨w.heap.size, 1, none⟩ = some (.int .i64 x1) ∧ w'.cell? ⟨w.heap.size, 2, none⟩ = some (.int .i64 x2) ∧ w'.cell? ⟨w.heap.size, 3, none⟩ = some (.bool x3) ∧ w'.cell? ⟨w.heap.size, 4, none⟩ = some (.int .i64 x4) ∧ w'.cell? ⟨w.heap.size, 5, none⟩ = some (.int .i64 x5) ∧ w'.cell? ⟨w.heap.size, 6, none⟩ = some (.bool x6)) := fun w' hb => cells7 (HB0.out.keep hb).box
  clear ht h64 hw1 hz0 hz1 hz2 hz3
  have g0 := fun W : World => run_string_add (P := Try.prog) W z0 z1 (by omega) (by omega)
  have g1 := fun W : World => run_string_add (P := Try.prog) W (z0 ++ z1) z2 (by rw [ByteArray.size_append]; omega) (by omega)
  have g2 := fun W : World => run_string_add (P := Try.prog) W ((z0 ++ z1) ++ z2) z3 (by rw [ByteArray.size_append, ByteArray.size_append]; omega) (by omega)
  go_enter Try.func13, Try.ntmps13
  go_wp2_with fail
  rw [show w.alloc (.cells #[.int .i64 x0, .int .i64 x1, .int .i64 x2, .bool x3, .int .i64 x4, .int .i64 x5, .bool x6] 23) = w1 from HW.out]
  have b0 : Below w1.heap.size w1 w1.drew := (Below.refl _ w1).drew
  have ra := (Below.refl w1.heap.size w1).alloc (Nat.le_refl _) (.cells #[.int .i64 x0, .int .i64 x1, .int .i64 x2] 3)
  have rb := (Below.refl w1.heap.size w1).alloc (Nat.le_refl _) (.cells #[.int .i64 x4, .int .i64 x5] 3)
  have ba := ra.drew
  have bb := rb.drew
  have bab := (ra.alloc ra.size (.cells #[.int .i64 x4, .int .i64 x5] 3)).drew
  have bba := (rb.alloc rb.size (.cells #[.int .i64 x0, .int .i64 x1, .int .i64 x2] 3)).drew
  clear ra rb
  have hA0 : At3 3 (w1.alloc (.cells #[.int .i64 x0, .int .i64 x1, .int .i64 x2] 3)).drew w1.heap.size (.int .i64 x0) (.int .i64 x1) (.int .i64 x2) := at3_new 3 w1 (.int .i64 x0) (.int .i64 x1) (.int .i64 x2)
  have hA1 : At3 3 (((w1.alloc (.cells #[.int .i64 x0, .int .i64 x1, .int .i64 x2] 3)).alloc (.cells #[.int .i64 x4, .int .i64 x5] 3)).drew) w1.heap.size (.int .i64 x0) (.int .i64 x1) (.int .i64 x2) := hA0.alloc (.cells #[.int .i64 x4, .int .i64 x5] 3)
  have hB1 := at2_new 3 (w1.alloc (.cells #[.int .i64 x0, .int .i64 x1, .int .i64 x2] 3)) (.int .i64 x4) (.int .i64 x5)
  have hB2 : At2 3 (((w1.alloc (.cells #[.int .i64 x4, .int .i64 x5] 3)).alloc (.cells #[.int .i64 x0, .int .i64 x1, .int .i64 x2] 3)).drew) w1.heap.size (.int .i64 x4) (.int .i64 x5) := (at2_new 3 w1 (.int .i64 x4) (.int .i64 x5)).alloc (.cells #[.int .i64 x0, .int .i64 x1, .int .i64 x2] 3)
  have hA2 := at3_new 3 (w1.alloc (.cells #[.int .i64 x4, .int .i64 x5] 3)) (.int .i64 x0) (.int .i64 x1) (.int .i64 x2)
  rw [World.size_alloc] at hB1 hA2
  have hB1 : At2 3 (((w1.alloc (.cells #[.int .i64 x0, .int .i64 x1, .int .i64 x2] 3)).alloc (.cells #[.int .i64 x4, .int .i64 x5] 3)).drew) (w1.heap.size + 1) (.int .i64 x4) (.int .i64 x5) := hB1
  have hA2 : At3 3 (((w1.alloc (.cells #[.int .i64 x4, .int .i64 x5] 3)).alloc (.cells #[.int .i64 x0, .int .i64 x1, .int .i64 x2] 3)).drew) (w1.heap.size + 1) (.int .i64 x0) (.int .i64 x1) (.int .i64 x2) := hA2
  have k0 := KS.out _ b0
  have ka := KS.out _ ba
  have kb := KS.out _ bb
  have kab := KS.out _ bab
  have kba := KS.out _ bba
  go_region_held3 (fun w' => w'.cell? ⟨w.heap.size, 0, none⟩ = some (.int .i64 x0) ∧ w'.cell? ⟨w.heap.size, 1, none⟩ = some (.int .i64 x1) ∧ w'.cell? ⟨w.heap.size, 2, none⟩ = some (.int .i64 x2) ∧ w'.cell? ⟨w.heap.size, 3, none⟩ = some (.bool x3) ∧ w'.cell? ⟨w.heap.size, 4, none⟩ = some (.int .i64 x4) ∧ w'.cell? ⟨w.heap.size, 5, none⟩ = some (.int .i64 x5) ∧ w'.cell? ⟨w.heap.size, 6, none⟩ = some (.bool x6))
    (first | with_reducible exact k0 | with_reducible exact ka | with_reducible exact kb | with_reducible exact kab | with_reducible exact kba | with_reducible exact k4 | with_reducible exact k4b | with_reducible exact k5)
    (first
      | ((with_reducible refine (CL.out w5).mono ?_); rintro e w7 ⟨rfl, rfl⟩)
      | ((with_reducible refine (CB.out (w4.alloc (.cells #[.int .i64 x4, .int .i64 x5] 3)) _ hB4).mono ?_); rintro e w5 ⟨rfl, hb⟩; have b5 := below_keep b4b hb b4b.size; have k5 := KS.out _ b5)
      | ((with_reducible refine (CB.out w4 _ hB5).mono ?_); rintro e w5 ⟨rfl, hb⟩; have b5 := below_keep b4 hb b4.size; have k5 := KS.out _ b5)
      | ((with_reducible refine (CF.out w4).mono ?_); rintro e w7 ⟨rfl, rfl⟩)
      | ((with_reducible refine (CF.out (w4.alloc (.cells #[.int .i64 x4, .int .i64 x5] 3))).mono ?_); rintro e w7 ⟨rfl, rfl⟩)
      | ((with_reducible refine (CA.out (w1.alloc (.cells #[.int .i64 x0, .int .i64 x1, .int .i64 x2] 3)).drew _ hA0).mono ?_); rintro e w4 ⟨rfl, hb⟩; have b4 := below_keep ba hb ba.size; have k4 := KS.out _ b4; have b4b := b4.alloc b4.size (.cells #[.int .i64 x4, .int .i64 x5] 3); have k4b := KS.out _ b4b; have hB4 := at2_new 3 w4 (.int .i64 x4) (.int .i64 x5))
      | ((with_reducible refine (CA.out (((w1.alloc (.cells #[.int .i64 x0, .int .i64 x1, .int .i64 x2] 3)).alloc (.cells #[.int .i64 x4, .int .i64 x5] 3)).drew) _ hA1).mono ?_); rintro e w4 ⟨rfl, hb⟩; have b4 := below_keep bab hb bab.size; have k4 := KS.out _ b4; have hB5 := hB1.keep hb)
      | ((with_reducible refine (CA.out (((w1.alloc (.cells #[.int .i64 x4, .int .i64 x5] 3)).alloc (.cells #[.int .i64 x0, .int .i64 x1, .int .i64 x2] 3)).drew) _ hA2).mono ?_); rintro e w4 ⟨rfl, hb⟩; have b4 := below_keep bba hb bba.size; have k4 := KS.out _ b4; have hB5 := hB2.keep hb))
  all_goals
    have HE := Lib.hid (HB0.out.keep b5)
    go_wp2_with fail
    go_ret
    exact ⟨ret_str HT.out, HE.out.bel⟩
set_option maxHeartbeats 8000000 in
theorem rputr_is (r0 : Int) (r1 : Int) (r2 : Int) (r3 : Int) (r4 : Bool) (r5 : Int) (r6 : Int) (t : ByteArray) (ht : bs (putR ⟨r0, r1, r2, r3, r4, r5, r6⟩) = t) (h64 : R64 ⟨r0, r1, r2, r3, r4, r5, r6⟩) (w : World) : Calls Try.prog 15 #[(.agg #[.int .i64 r0, .int .i64 r1, .int .i64 r2, .int .i64 r3, .bool r4, .int .i64 r5, .int .i64 r6])] w fun e w' => e = .returned (.string t) ∧ Below w.heap.size w w' := by
  obtain ⟨z0, hz0⟩ : ∃ z : ByteArray, encs [r0, r1, r2, r3] = z.data.toList := ⟨bs (encs [r0, r1, r2, r3]), (data_bs _).symm⟩
  obtain ⟨z1, hz1⟩ : ∃ z : ByteArray, flag r4 = z.data.toList := ⟨bs (flag r4), (data_bs _).symm⟩
  obtain ⟨z2, hz2⟩ : ∃ z : ByteArray, encs [r5, r6] = z.data.toList := ⟨bs (encs [r5, r6]), (data_bs _).symm⟩
  have HT : Hid ((z0 ++ z1) ++ z2 = t) := by
    show _ = t
    rw [← ht, ← bs_data z0, ← bs_data z1, ← bs_data z2, ← hz0, ← hz1, ← hz2]
    simp only [bs_append, encs_two, encs_four, putR, List.append_assoc]
  have hs0 : z0.size ≤ 100 := by rw [size_list, ← hz0]; rw [encs_four]; simp only [List.length_append]; have := WireP.enc_len (h64.service).1 (h64.service).2; have := WireP.enc_len (h64.id).1 (h64.id).2; have := WireP.enc_len (h64.saga).1 (h64.saga).2; have := WireP.enc_len (h64.step).1 (h64.step).2; simp only at *; omega
  have hs1 : z1.size ≤ 100 := by rw [size_list, ← hz1]; cases r4 <;> decide
  have hs2 : z2.size ≤ 100 := by rw [size_list, ← hz2]; rw [encs_two]; simp only [List.length_append]; have := WireP.enc_len (h64.msg).1 (h64.msg).2; have := WireP.enc_len (h64.verdict).1 (h64.verdict).2; simp only at *; omega
  have CA := Lib.hid (fun W k => rints_at4 k r0 r1 r2 r3 z0 hz0 h64.service h64.id h64.saga h64.step W)
  have CB := Lib.hid (fun W k => rints_at2 k r5 r6 z2 hz2 h64.msg h64.verdict W)
  have CF := Lib.hid (fun W => rflag_is r4 z1 W hz1)
  have HB0 := Lib.hid (bx7_new 25 w (.int .i64 r0) (.int .i64 r1) (.int .i64 r2) (.int .i64 r3) (.bool r4) (.int .i64 r5) (.int .i64 r6))
  obtain ⟨w1, hw1⟩ : ∃ w1, w.alloc (.cells #[.int .i64 r0, .int .i64 r1, .int .i64 r2, .int .i64 r3, .bool r4, .int .i64 r5, .int .i64 r6] 25) = w1 := ⟨_, rfl⟩
  rw [hw1] at HB0
  have HW := Lib.hid hw1
  have KS : Hid (∀ w', Below w1.heap.size w1 w' → w'.cell? ⟨w.heap.size, 0, none⟩ = some (.int .i64 r0) ∧ w'.cell? ⟨w.heap.size, 1, none⟩ = some (.int .i64 r1) ∧ w'.cell? ⟨w.heap.size, 2, none⟩ = some (.int .i64 r2) ∧ w'.cell? ⟨w.heap.size, 3, none⟩ = some (.int .i64 r3) ∧ w'.cell? ⟨w.heap.size, 4, none⟩ = some (.bool r4) ∧ w'.cell? ⟨w.heap.size, 5, none⟩ = some (.int .i64 r5) ∧ w'.cell? ⟨w.heap.size, 6, none⟩ = some (.int .i64 r6)) := fun w' hb => cells7 (HB0.out.keep hb).box
  clear ht h64 hw1 hz0 hz1 hz2
  have g0 := fun W : World => run_string_add (P := Try.prog) W z0 z1 (by omega) (by omega)
  have g1 := fun W : World => run_string_add (P := Try.prog) W (z0 ++ z1) z2 (by rw [ByteArray.size_append]; omega) (by omega)
  go_enter Try.func15, Try.ntmps15
  go_wp2_with fail
  rw [show w.alloc (.cells #[.int .i64 r0, .int .i64 r1, .int .i64 r2, .int .i64 r3, .bool r4, .int .i64 r5, .int .i64 r6] 25) = w1 from HW.out]
  have b0 : Below w1.heap.size w1 w1.drew := (Below.refl _ w1).drew
  have ra := (Below.refl w1.heap.size w1).alloc (Nat.le_refl _) (.cells #[.int .i64 r0, .int .i64 r1, .int .i64 r2, .int .i64 r3] 3)
  have rb := (Below.refl w1.heap.size w1).alloc (Nat.le_refl _) (.cells #[.int .i64 r5, .int .i64 r6] 3)
  have ba := ra.drew
  have bb := rb.drew
  have bab := (ra.alloc ra.size (.cells #[.int .i64 r5, .int .i64 r6] 3)).drew
  have bba := (rb.alloc rb.size (.cells #[.int .i64 r0, .int .i64 r1, .int .i64 r2, .int .i64 r3] 3)).drew
  clear ra rb
  have hA0 : At4 3 (w1.alloc (.cells #[.int .i64 r0, .int .i64 r1, .int .i64 r2, .int .i64 r3] 3)).drew w1.heap.size (.int .i64 r0) (.int .i64 r1) (.int .i64 r2) (.int .i64 r3) := at4_new 3 w1 (.int .i64 r0) (.int .i64 r1) (.int .i64 r2) (.int .i64 r3)
  have hA1 : At4 3 (((w1.alloc (.cells #[.int .i64 r0, .int .i64 r1, .int .i64 r2, .int .i64 r3] 3)).alloc (.cells #[.int .i64 r5, .int .i64 r6] 3)).drew) w1.heap.size (.int .i64 r0) (.int .i64 r1) (.int .i64 r2) (.int .i64 r3) := hA0.alloc (.cells #[.int .i64 r5, .int .i64 r6] 3)
  have hB1 := at2_new 3 (w1.alloc (.cells #[.int .i64 r0, .int .i64 r1, .int .i64 r2, .int .i64 r3] 3)) (.int .i64 r5) (.int .i64 r6)
  have hB2 : At2 3 (((w1.alloc (.cells #[.int .i64 r5, .int .i64 r6] 3)).alloc (.cells #[.int .i64 r0, .int .i64 r1, .int .i64 r2, .int .i64 r3] 3)).drew) w1.heap.size (.int .i64 r5) (.int .i64 r6) := (at2_new 3 w1 (.int .i64 r5) (.int .i64 r6)).alloc (.cells #[.int .i64 r0, .int .i64 r1, .int .i64 r2, .int .i64 r3] 3)
  have hA2 := at4_new 3 (w1.alloc (.cells #[.int .i64 r5, .int .i64 r6] 3)) (.int .i64 r0) (.int .i64 r1) (.int .i64 r2) (.int .i64 r3)
  rw [World.size_alloc] at hB1 hA2
  have hB1 : At2 3 (((w1.alloc (.cells #[.int .i64 r0, .int .i64 r1, .int .i64 r2, .int .i64 r3] 3)).alloc (.cells #[.int .i64 r5, .int .i64 r6] 3)).drew) (w1.heap.size + 1) (.int .i64 r5) (.int .i64 r6) := hB1
  have hA2 : At4 3 (((w1.alloc (.cells #[.int .i64 r5, .int .i64 r6] 3)).alloc (.cells #[.int .i64 r0, .int .i64 r1, .int .i64 r2, .int .i64 r3] 3)).drew) (w1.heap.size + 1) (.int .i64 r0) (.int .i64 r1) (.int .i64 r2) (.int .i64 r3) := hA2
  have k0 := KS.out _ b0
  have ka := KS.out _ ba
  have kb := KS.out _ bb
  have kab := KS.out _ bab
  have kba := KS.out _ bba
  go_region_held3 (fun w' => w'.cell? ⟨w.heap.size, 0, none⟩ = some (.int .i64 r0) ∧ w'.cell? ⟨w.heap.size, 1, none⟩ = some (.int .i64 r1) ∧ w'.cell? ⟨w.heap.size, 2, none⟩ = some (.int .i64 r2) ∧ w'.cell? ⟨w.heap.size, 3, none⟩ = some (.int .i64 r3) ∧ w'.cell? ⟨w.heap.size, 4, none⟩ = some (.bool r4) ∧ w'.cell? ⟨w.heap.size, 5, none⟩ = some (.int .i64 r5) ∧ w'.cell? ⟨w.heap.size, 6, none⟩ = some (.int .i64 r6))
    (first | with_reducible exact k0 | with_reducible exact ka | with_reducible exact kb | with_reducible exact kab | with_reducible exact kba | with_reducible exact k4 | with_reducible exact k4b | with_reducible exact k5)
    (first
      | ((with_reducible refine (CB.out (w4.alloc (.cells #[.int .i64 r5, .int .i64 r6] 3)) _ hB4).mono ?_); rintro e w5 ⟨rfl, hb⟩; have b5 := below_keep b4b hb b4b.size; have k5 := KS.out _ b5)
      | ((with_reducible refine (CB.out w4 _ hB5).mono ?_); rintro e w5 ⟨rfl, hb⟩; have b5 := below_keep b4 hb b4.size; have k5 := KS.out _ b5)
      | ((with_reducible refine (CF.out w4).mono ?_); rintro e w7 ⟨rfl, rfl⟩)
      | ((with_reducible refine (CF.out (w4.alloc (.cells #[.int .i64 r5, .int .i64 r6] 3))).mono ?_); rintro e w7 ⟨rfl, rfl⟩)
      | ((with_reducible refine (CA.out (w1.alloc (.cells #[.int .i64 r0, .int .i64 r1, .int .i64 r2, .int .i64 r3] 3)).drew _ hA0).mono ?_); rintro e w4 ⟨rfl, hb⟩; have b4 := below_keep ba hb ba.size; have k4 := KS.out _ b4; have b4b := b4.alloc b4.size (.cells #[.int .i64 r5, .int .i64 r6] 3); have k4b := KS.out _ b4b; have hB4 := at2_new 3 w4 (.int .i64 r5) (.int .i64 r6))
      | ((with_reducible refine (CA.out (((w1.alloc (.cells #[.int .i64 r0, .int .i64 r1, .int .i64 r2, .int .i64 r3] 3)).alloc (.cells #[.int .i64 r5, .int .i64 r6] 3)).drew) _ hA1).mono ?_); rintro e w4 ⟨rfl, hb⟩; have b4 := below_keep bab hb bab.size; have k4 := KS.out _ b4; have hB5 := hB1.keep hb)
      | ((with_reducible refine (CA.out (((w1.alloc (.cells #[.int .i64 r5, .int .i64 r6] 3)).alloc (.cells #[.int .i64 r0, .int .i64 r1, .int .i64 r2, .int .i64 r3] 3)).drew) _ hA2).mono ?_); rintro e w4 ⟨rfl, hb⟩; have b4 := below_keep bba hb bba.size; have k4 := KS.out _ b4; have hB5 := hB2.keep hb))
  all_goals
    have HE := Lib.hid (HB0.out.keep b5)
    go_wp2_with fail
    go_ret
    exact ⟨ret_str HT.out, HE.out.bel⟩
end Go.Proofs.Ytamcidlkbhanfaa.Msg
