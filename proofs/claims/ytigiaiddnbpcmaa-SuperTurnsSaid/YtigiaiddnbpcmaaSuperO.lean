/-
  The contract of the laws' own 'awake': the chapter's examples.
-/
import Derived.Test.YtigiaiddnbpcmaaSuperN
set_option linter.unusedVariables false
set_option maxRecDepth 4000
namespace Go.Proofs.Ytigiaiddnbpcmaa
open Go.RowKit SuperP
open Wire (IntsAt)
open StampP (opn zeros)

theorem opn_zeros : opn zeros = none := by
  refine opn_none_fit ?_
  have h : CrcP.num (StampP.fld zeros 0 6) = 0 := by decide +kernel
  rw [h]
  unfold StampP.fit
  omega
def x3 : Sup := ⟨3, 0, 0, 0, [], [1]⟩
def x2 : Sup := ⟨2, 0, 0, 0, [], [2]⟩
theorem fit3 : Fit x3 := by decide
theorem fit2 : Fit x2 := by decide
theorem nil_ints (w : World) (a : Option Addr) : IntsAt w a 0 [] := ⟨rfl, by simp, .inl rfl⟩
theorem one_ints {w : World} {b : Nat} {n : Int} (h : w.heap[b]? = some (.cells #[.int .i64 n] 3 (0, 0))) (h0 : -9223372036854775808 ≤ n) (h1 : n ≤ 9223372036854775807) : IntsAt w (some ⟨b, 0, none⟩) 1 [n] :=
  ints_block (xs := [n]) h (by simp only [List.mem_singleton]; rintro x rfl; exact ⟨h0, h1⟩)
theorem ex_enc3 (b : Nat) (w : World) (h : w.heap[b]? = some (.cells #[.int .i64 1] 3 (0, 0))) : Calls Try.prog 9 #[.agg #[.int .i64 3, .int .i64 0, .int .i64 0, .int .i64 0, .slice none 0 0, .slice (some ⟨b, 0, none⟩) 1 1]] w fun e w' => e = .returned (.tuple #[.string (str (sect x3)), .int .i64 0]) ∧ Below w.heap.size w w' := by
  have := encode_any x3 none (some ⟨b, 0, none⟩) 0 0 1 1 w ⟨nil_ints _ _, one_ints h (by decide) (by decide), by decide, by decide⟩ (by decide) (by decide)
  rw [show enR x3 = (str (sect x3), 0) from if_pos fit3] at this
  exact this
theorem ex_enc2 (b : Nat) (w : World) (h : w.heap[b]? = some (.cells #[.int .i64 2] 3 (0, 0))) : Calls Try.prog 9 #[.agg #[.int .i64 2, .int .i64 0, .int .i64 0, .int .i64 0, .slice none 0 0, .slice (some ⟨b, 0, none⟩) 1 1]] w fun e w' => e = .returned (.tuple #[.string (str (sect x2)), .int .i64 0]) ∧ Below w.heap.size w w' := by
  have := encode_any x2 none (some ⟨b, 0, none⟩) 0 0 1 1 w ⟨nil_ints _ _, one_ints h (by decide) (by decide), by decide, by decide⟩ (by decide) (by decide)
  rw [show enR x2 = (str (sect x2), 0) from if_pos fit2] at this
  exact this
theorem ex_best (w : World) : Calls Try.prog 19 #[.string (str (sect x3)), .string (str (sect x2))] w fun e w' => ∃ a1 c1 a2 c2, e = .returned (.tuple #[.agg #[.int .i64 3, .int .i64 0, .int .i64 0, .int .i64 0, .slice a1 0 c1, .slice a2 1 c2], .int .i64 0, .int .i64 0]) ∧ SupAt w' x3 a1 0 a2 1 ∧ Below w.heap.size w w' := by
  have := sbest_any (str (sect x3)) (str (sect x2)) w (by rw [str_size, sect_length fit3]; decide) (by rw [str_size, sect_length fit2]; decide)
  have hb := best_both (dec_sect fit3) (dec_sect fit2)
  rw [if_neg (show ¬ x3.gen < x2.gen by decide)] at hb
  obtain ⟨e1, e2, e3⟩ := best_is hb
  rw [show (str (sect x3)).data.toList = sect x3 from rfl, show (str (sect x2)).data.toList = sect x2 from rfl, e1, e2, e3] at this
  exact this.mono fun e w' h => by
    obtain ⟨⟨a1, c1, a2, c2, he, hs, _, _⟩, hb⟩ := h
    exact ⟨a1, c1, a2, c2, he, hs, hb⟩
theorem ex_none (w : World) : Calls Try.prog 19 #[.string ⟨#[]⟩, .string (str zeros)] w fun e w' => ∃ a1 c1 a2 c2, e = .returned (.tuple #[.agg #[.int .i64 0, .int .i64 0, .int .i64 0, .int .i64 0, .slice a1 0 c1, .slice a2 0 c2], .int .i64 0, .int .i64 12]) ∧ Below w.heap.size w w' := by
  have := sbest_any ⟨#[]⟩ (str zeros) w (by decide) (by rw [str_size, zeros, List.length_replicate]; decide)
  have hb := best_none (a := []) (b := zeros) (dec_none (opn_none_len (by decide))) (dec_none opn_zeros)
  obtain ⟨e1, e2, e3⟩ := best_is hb
  rw [show (⟨#[]⟩ : ByteArray).data.toList = [] from rfl, show (str zeros).data.toList = zeros from rfl, e1, e2, e3] at this
  exact this.mono fun e w' h => by
    obtain ⟨⟨a1, c1, a2, c2, he, hs, _, _⟩, hb⟩ := h
    exact ⟨a1, c1, a2, c2, he, hb⟩
theorem ex_same (a1 a2 : Option Addr) (c1 c2 b : Nat) (w : World) (h : SupAt w x3 a1 0 a2 1) (hb : w.heap[b]? = some (.cells #[.int .i64 1] 3 (0, 0))) :
    Calls Try.prog 18 #[.agg #[.int .i64 3, .int .i64 0, .int .i64 0, .int .i64 0, .slice a1 0 c1, .slice a2 1 c2], .agg #[.int .i64 3, .int .i64 0, .int .i64 0, .int .i64 0, .slice none 0 0, .slice (some ⟨b, 0, none⟩) 1 1]] w fun e w' => e = .returned (.bool true) ∧ Below w.heap.size w w' := by
  have := supsame_any x3 x3 a1 a2 none (some ⟨b, 0, none⟩) 0 c1 1 c2 0 0 1 1 w h ⟨nil_ints _ _, one_ints hb (by decide) (by decide), by decide, by decide⟩
  rw [show sameB x3 x3 = true from decide_eq_true rfl] at this
  exact this
set_option maxHeartbeats 1000000 in
theorem awake_any (w : World) : Calls Try.prog 8 #[] w fun e w' => e = .returned (.bool true) ∧ Below w.heap.size w w' := by
  have k1 := ex_enc3
  have k2 := ex_enc2
  have k3 := ex_best
  have k4 := ex_none
  have k5 := fun w => rblank_any w
  have k6 := ex_same
  have k7 := fun w => slot_any 3 w (by decide) (by decide)
  generalize str (sect x3) = A at *
  generalize str (sect x2) = B at *
  generalize str zeros = bl at *
  have K1 := Lib.hid k1; have K2 := Lib.hid k2; have K3 := Lib.hid k3; have K4 := Lib.hid k4; have K5 := Lib.hid k5; have K6 := Lib.hid k6; have K7 := Lib.hid k7
  clear k1 k2 k3 k4 k5 k6 k7
  go_enter Try.func8, Try.ntmps8
  go_wp2_with fail
  refine (K1.out _ _ (heap_alloc_new _ _)).mono ?_
  rintro e w1 ⟨rfl, hb1⟩
  have HB1 := Lib.hid (((Below.refl _ w).alloc (Nat.le_refl _) (.cells #[.int .i64 1] 3)).trans (hb1.mono (by simp)))
  clear hb1
  go_wp2_with fail
  refine (K2.out _ _ (heap_alloc_new _ _)).mono ?_
  rintro e w2 ⟨rfl, hb2⟩
  have HB2 := Lib.hid ((HB1.out.alloc HB1.out.size (.cells #[.int .i64 2] 3)).trans (hb2.mono (by have := HB1.out.size; simp; omega)))
  clear hb2
  go_wp2_with fail
  refine (K3.out _).mono ?_
  rintro e w3 ⟨a1, c1, a2, c2, rfl, hS, hb3⟩
  have hb3' := Wire.below_keep HB2.out hb3 HB2.out.size
  have hX := heap_alloc_new w3 (.cells #[.int .i64 3, .int .i64 0, .int .i64 0, .int .i64 0, .slice a1 0 c1, .slice a2 1 c2] 24)
  have hb4 := hb3'.alloc hb3'.size (.cells #[.int .i64 3, .int .i64 0, .int .i64 0, .int .i64 0, .slice a1 0 c1, .slice a2 1 c2] 24)
  have hS4 := hS.keep ((Below.refl _ w3).alloc (Nat.le_refl _) (.cells #[.int .i64 3, .int .i64 0, .int .i64 0, .int .i64 0, .slice a1 0 c1, .slice a2 1 c2] 24))
  have HX := Lib.hid hX; have HB4 := Lib.hid hb4; have HS4 := Lib.hid hS4
  clear hb3 hb3' hX hb4 hS hS4
  go_wp2_with fail
  refine (K5.out _).mono ?_
  rintro e w5 ⟨rfl, hb5⟩
  have HX5 := Lib.hid ((hb5.block w3.heap.size (by simp)).trans HX.out); have HB5 := Lib.hid (Wire.below_keep HB4.out hb5 HB4.out.size); have HS5 := Lib.hid (HS4.out.keep hb5)
  clear hb5 HX HB4 HS4
  go_wp2_with fail
  refine (K4.out _).mono ?_
  rintro e w6 ⟨e1, f1, e2, f2, rfl, hb6⟩
  have hk3 := (Array.getElem?_eq_some_iff.1 HX5.out).1
  have hX6 := (hb6.block w3.heap.size hk3).trans HX5.out
  have hB6 := Wire.below_keep HB5.out hb6 HB5.out.size
  have hk6 := (Array.getElem?_eq_some_iff.1 hX6).1
  have hX7 := (Below.heap_alloc w6 (.cells #[.int .i64 0, .int .i64 0, .int .i64 0, .int .i64 0, .slice e1 0 f1, .slice e2 0 f2] 24) _ hk6).trans hX6
  have hB7 := hB6.alloc hB6.size (.cells #[.int .i64 0, .int .i64 0, .int .i64 0, .int .i64 0, .slice e1 0 f1, .slice e2 0 f2] 24)
  have hS7 := (HS5.out.keep hb6).keep ((Below.refl _ w6).alloc (Nat.le_refl _) (.cells #[.int .i64 0, .int .i64 0, .int .i64 0, .int .i64 0, .slice e1 0 f1, .slice e2 0 f2] 24))
  obtain ⟨p0, p1, p2, p3, p4, p5⟩ := six_cells hX7
  have HB7 := Lib.hid hB7; have HS7 := Lib.hid hS7
  clear hb6 hk3 hX6 hB6 hk6 hX7 hB7 hS7 HX5 HB5 HS5
  go_wp2_with fail
  have hS8 := HS7.out.keep ((Below.refl _ _).alloc (Nat.le_refl _) (.cells #[.int .i64 1] 3))
  refine (K6.out a1 a2 c1 c2 (w6.heap.size + 1) _ hS8 cells_second).mono ?_
  rintro e w8 ⟨rfl, hb8⟩
  have HB8 := Lib.hid ((HB7.out.alloc HB7.out.size (.cells #[.int .i64 1] 3)).trans (hb8.mono (by have := HB7.out.size; simp at this ⊢; omega)))
  clear hS8 hb8 p0 p1 p2 p3 p4 p5
  go_wp2_with fail
  refine (K7.out _).mono ?_
  rintro e w9 ⟨rfl, rfl⟩
  have hsl : slot 3 = 1 := by decide
  rw [hsl]
  go_wp2_with fail
  go_ret
  exact ⟨rfl, HB8.out⟩
end Go.Proofs.Ytigiaiddnbpcmaa
