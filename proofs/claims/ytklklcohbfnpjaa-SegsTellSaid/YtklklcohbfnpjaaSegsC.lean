/-
  The chapter's examples (awake); the walk of SegsTell: any number, any segments.
-/
import Derived.Test.YtklklcohbfnpjaaSegsB
set_option linter.unusedVariables false
set_option maxRecDepth 4000
namespace Go.Proofs.Ytklklcohbfnpjaa
open Go.RowKit SegsP
open Ints (IntsAt IntsAt.keep take_snoc getD_mem cellsI rsame_any has_any)

theorem ints_new (w : World) (l : List Int) (hr : ∀ x ∈ l, -9223372036854775808 ≤ x ∧ x ≤ 9223372036854775807) : IntsAt (w.alloc (.cells (cellsI l).toArray 3)) (some ⟨w.heap.size, 0, none⟩) l.length l := by
  refine ⟨rfl, hr, .inr ⟨w.heap.size, 0, rfl, by simp, fun i hi => ?_⟩⟩
  rw [Nat.zero_add, World.cell?_alloc_new]
  simp [cellsI, List.getD, hi]
theorem below_new (w : World) (o : Obj) : Below w.heap.size w (w.alloc o) := (Below.refl _ w).alloc (Nat.le_refl _) _
theorem secs_1 : secs [1] = [10, 11, 12, 13, 14, 15, 16, 17] := by decide
theorem fre_20 : fre (cnt 20) [0] = [1] := by decide
theorem awake_any (w : World) : Calls Try.prog 6 #[] w fun e w' => e = .returned (.bool true) ∧ Below w.heap.size w w' := by
  have hc : ∀ w, Calls Try.prog 7 #[.int .i64 20] w fun e w' => e = .returned (.int .i64 2) ∧ w = w' := fun w => count_any 20 w (by decide) (by decide)
  have hn9 : ∀ w, Calls Try.prog 9 #[.int .i64 9] w fun e w' => e = .returned (.int .i64 2) ∧ w = w' := fun w => need_any 9 w (by decide) (by decide)
  have hn0 : ∀ w, Calls Try.prog 9 #[.int .i64 0] w fun e w' => e = .returned (.int .i64 0) ∧ w = w' := fun w => need_any 0 w (by decide) (by decide)
  have HC := Lib.hid hc; have HN9 := Lib.hid hn9; have HN0 := Lib.hid hn0
  clear hc hn9 hn0
  go_enter Try.func6, Try.ntmps6
  go_wp2_with fail
  refine (HC.out _).mono ?_
  rintro e w' ⟨rfl, rfl⟩
  go_wp2_with fail
  refine (sectors_any (some ⟨w.heap.size, 0, none⟩) 1 1 [1] _ (ints_new w [1] (by decide)) (by decide)).mono ?_
  rintro e w2 ⟨a, c, rfl, hI, hc, hn, hb⟩
  have HB2 := Lib.hid ((below_new w _).trans (hb.mono (by simp)))
  have HI2 := Lib.hid hI
  clear hI hb hn
  rw [secs_1] at HI2 ⊢
  go_wp2_with fail
  refine (rsame_any a (some ⟨w2.heap.size, 0, none⟩) 8 c 8 8 _ [10, 11, 12, 13, 14, 15, 16, 17] _ (HI2.out.keep (below_new w2 _)) (ints_new w2 [10, 11, 12, 13, 14, 15, 16, 17] (by decide)) (by decide) (by decide)).mono ?_
  rintro e w3 ⟨rfl, hb⟩
  have HB3 := Lib.hid ((HB2.out.trans ((below_new w2 _).mono HB2.out.size)).trans (hb.mono (by have := HB2.out.size; simp; omega)))
  clear hb HB2 HI2
  go_wp2_with fail
  refine (free_any 20 (some ⟨w3.heap.size, 0, none⟩) 1 1 [0] _ (by decide) (by decide) (ints_new w3 [0] (by decide)) (by decide)).mono ?_
  rintro e w4 ⟨a4, c4, rfl, hI, hc4, hn, hb⟩
  have HB4 := Lib.hid ((HB3.out.trans ((below_new w3 _).mono HB3.out.size)).trans (hb.mono (by have := HB3.out.size; simp; omega)))
  have HI4 := Lib.hid hI
  clear hI hb hn HB3
  rw [fre_20] at HI4 ⊢
  go_wp2_with fail
  refine (rsame_any a4 (some ⟨w4.heap.size, 0, none⟩) 1 c4 1 1 _ [1] _ (HI4.out.keep (below_new w4 _)) (ints_new w4 [1] (by decide)) (by decide) (by decide)).mono ?_
  rintro e w5 ⟨rfl, hb⟩
  have HB5 := Lib.hid ((HB4.out.trans ((below_new w4 _).mono HB4.out.size)).trans (hb.mono (by have := HB4.out.size; simp; omega)))
  clear hb HB4 HI4
  go_wp2_with fail
  refine (HN9.out _).mono ?_
  rintro e w' ⟨rfl, rfl⟩
  go_wp2_with fail
  refine (HN0.out _).mono ?_
  rintro e w' ⟨rfl, rfl⟩
  go_wp2_with fail
  go_ret
  exact ⟨rfl, HB5.out⟩
theorem awake_in {w0 w : World} (h : Below w0.heap.size w0 w) : Calls Try.prog 6 #[] w fun e w' => e = .returned (.bool true) ∧ Below w0.heap.size w0 w' := by
  refine (awake_any w).mono ?_
  rintro e w' ⟨rfl, hb⟩
  exact ⟨rfl, h.trans (hb.mono h.size)⟩
/-- What a law tells. -/
def SegsIn (w : World) (e : Ending) (w' : World) : Prop := e = .returned (.bool true) ∧ Below w.heap.size w w'
theorem segsTell_walk (n : Int) (a : Option Addr) (len cap : Nat) (xs : List Int) (w : World) (h0 : -9223372036854775808 ≤ n) (h1 : n ≤ 9223372036854775807) (h : IntsAt w a len xs) (hl : len ≤ 9223372036854775807) :
    Calls Try.prog 3 #[.int .i64 n, .slice a len cap] w (SegsIn w) := by
  by_cases h80 : 80 < len
  · go_enter Try.func3, Try.ntmps3
    go_wp2_with fail
    refine (awake_any w).mono ?_
    rintro e w2 ⟨rfl, hb⟩
    have HB := Lib.hid hb
    clear hb
    go_wp2_with fail
    go_ret
    exact ⟨rfl, HB.out⟩
  have hl80 : len ≤ 80 := by omega
  have hfl := fre_len (cnt n) xs
  have hsl := secs_len xs
  rw [h.1] at hsl
  have hcl := cnt_le n
  have H := Lib.hid h
  have HC := Lib.hid (fun w => count_any n w h0 h1); have HRC := Lib.hid (fun w => rcount_any n w h0 h1)
  have HN := Lib.hid (fun w => need_any n w h0 h1); have HRN := Lib.hid (fun w => rneed_any n w h0 h1)
  have HF := Lib.hid (fun w h => free_any n a len cap xs w h0 h1 h hl80); have HRF := Lib.hid (fun w h => rfree_any n a len cap xs w h0 h1 h hl80)
  have HS := Lib.hid (fun w h => sectors_any a len cap xs w h hl80); have HRS := Lib.hid (fun w h => rsectors_any a len cap xs w h hl80)
  generalize cnt n = c at *
  generalize need n = m at *
  generalize secs xs = ss at *
  generalize fre c xs = ff at *
  clear h h0 h1
  go_enter Try.func3, Try.ntmps3
  go_wp2_with fail
  refine (HC.out _).mono ?_
  rintro e w' ⟨rfl, rfl⟩
  go_wp2_with fail
  refine (HRC.out _).mono ?_
  rintro e w' ⟨rfl, rfl⟩
  go_wp2_with fail
  refine (HN.out _).mono ?_
  rintro e w' ⟨rfl, rfl⟩
  go_wp2_with fail
  refine (HRN.out _).mono ?_
  rintro e w' ⟨rfl, rfl⟩
  go_wp2_with fail
  refine (HS.out _ H.out).mono ?_
  rintro e w1 ⟨a1, c1, rfl, hI, _, _, hb⟩
  have HI1 := Lib.hid hI; have HB1 := Lib.hid hb
  clear hI hb
  go_wp2_with fail
  refine (HRS.out _ (H.out.keep HB1.out)).mono ?_
  rintro e w2 ⟨a2, c2, rfl, hI, _, _, hb⟩
  have HI2 := Lib.hid hI; have HI12 := Lib.hid (HI1.out.keep hb); have HB2 := Lib.hid (HB1.out.trans (hb.mono HB1.out.size))
  clear hI hb HI1 HB1
  go_wp2_with fail
  refine (rsame_any a1 a2 ss.length c1 ss.length c2 ss ss _ HI12.out HI2.out (by omega) (by omega)).mono ?_
  rintro e w3 ⟨rfl, hb⟩
  rw [decide_eq_true (rfl : ss = ss)]
  have HB3 := Lib.hid (HB2.out.trans (hb.mono HB2.out.size))
  clear hb HI12 HI2 HB2
  go_wp2_with fail
  refine (HF.out _ (H.out.keep HB3.out)).mono ?_
  rintro e w4 ⟨a3, c3, rfl, hI, _, _, hb⟩
  have HI3 := Lib.hid hI; have HB4 := Lib.hid (HB3.out.trans (hb.mono HB3.out.size))
  clear hI hb HB3
  go_wp2_with fail
  refine (HRF.out _ (H.out.keep HB4.out)).mono ?_
  rintro e w5 ⟨a4, c4, rfl, hI, _, _, hb⟩
  have HI4 := Lib.hid hI; have HI34 := Lib.hid (HI3.out.keep hb); have HB5 := Lib.hid (HB4.out.trans (hb.mono HB4.out.size))
  clear hI hb HI3 HB4
  go_wp2_with fail
  refine (rsame_any a3 a4 ff.length c3 ff.length c4 ff ff _ HI34.out HI4.out (by omega) (by omega)).mono ?_
  rintro e w6 ⟨rfl, hb⟩
  rw [decide_eq_true (rfl : ff = ff)]
  have HB6 := Lib.hid (HB5.out.trans (hb.mono HB5.out.size))
  clear hb HI34 HI4 HB5
  go_wp2_with fail
  refine (awake_in HB6.out).mono ?_
  rintro e w7 ⟨rfl, hb⟩
  have HB7 := Lib.hid hb
  clear hb
  go_wp2_with fail
  go_ret
  exact ⟨rfl, HB7.out⟩
end Go.Proofs.Ytklklcohbfnpjaa
