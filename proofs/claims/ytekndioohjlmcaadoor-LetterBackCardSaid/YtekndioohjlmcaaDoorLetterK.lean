/-
  The laws' awake, and LetterTurns; what was there stays as it was.
-/
import Derived.Test.YtekndioohjlmcaaDoorLetterG
import Derived.Test.YtekndioohjlmcaaDoorLetterJ
import Derived.Test.YtekndioohjlmcaaDoorLetterFr
set_option linter.unusedVariables false
set_option linter.unusedSimpArgs false
set_option maxRecDepth 4000
namespace Go.Proofs.YtekndioohjlmcaaDoor.Letter
open Go.RowKit LeP
open Go.Proofs.YtekndioohjlmcaaDoor.Kt

theorem aw1 : putL [] (⟨3, 1, false, 8, 9⟩ : Lt) = ([(⟨3, 1, false, 8, 9⟩ : Lt)], 0) := by rfl
theorem aw2 : putL [(⟨3, 1, false, 8, 9⟩ : Lt)] (⟨3, 1, false, 8, 9⟩ : Lt) = ([], 3) := by rfl
theorem aw3 : fitB [(⟨3, 1, false, 8, 9⟩ : Lt)] = true := by rfl
theorem aw4 : bs (textL (⟨3, 1, false, 8, 9⟩ : Lt)) = ⟨#[115, 97, 103, 97, 32, 51, 32, 115, 116, 101, 112, 32, 49, 32, 112, 97, 114, 107, 101, 100, 32, 97, 116, 32, 57]⟩ := by
  unfold textL
  rw [if_pos (by rfl : oneL (⟨3, 1, false, 8, 9⟩ : Lt) = true), join_words]
  simp only [itoa_nat (by decide : (0 : Int) ≤ 3), itoa_nat (by decide : (0 : Int) ≤ 1), tailL, itoa_nat (by decide : (0 : Int) ≤ 9)]
  rw [NumP.dec_small (by decide), NumP.dec_small (by decide), NumP.dec_small (by decide)]
  rfl
set_option maxHeartbeats 2000000 in
theorem awake_any (w : World) (ht : Num.Tab w) : Calls Tryd.prog 6 #[] w fun e w' => e = .returned (.bool true) ∧ Below w.heap.size w w' := by
  have hB0 := bx5_new 24 w (.int .i64 3) (.int .i64 1) (.bool false) (.int .i64 8) (.int .i64 9)
  obtain ⟨w0, hw0⟩ : ∃ w0, w.alloc (.cells #[.int .i64 3, .int .i64 1, .bool false, .int .i64 8, .int .i64 9] 24) = w0 := ⟨_, rfl⟩
  rw [hw0] at hB0
  have HW := Lib.hid hw0
  have HB0 := Lib.hid hB0
  have HT := Lib.hid ht
  have C1 := Lib.hid (put_any none 0 0 [] (Nat.le_refl _) 3 1 false 8 9 _ aw1 w0 (Rw.At.nil _ _ _))
  obtain ⟨d0, d1, d2, d3, d4⟩ := cells5 hB0.box
  clear hw0 hB0 ht
  go_enter Tryd.func6, Tryd.ntmps6
  go_wp2_with fail
  rw [show w.alloc (.cells #[.int .i64 3, .int .i64 1, .bool false, .int .i64 8, .int .i64 9] 24) = w0 from HW.out]
  go_wp2_with fail
  refine C1.out.mono ?_
  rintro e w1 ⟨a1, n1, c1, rfl, hc1, hA1, hb1⟩
  obtain rfl : 1 = n1 := hA1.1
  have B1 := Lib.hid (HB0.out.keep hb1)
  have HA1 := Lib.hid hA1
  have C2 := Lib.hid (put_any a1 1 c1 _ hc1 3 1 false 8 9 _ aw2 w1 hA1)
  clear hc1 hA1 hb1 C1 d0 d1 d2 d3 d4
  obtain ⟨d0, d1, d2, d3, d4⟩ := cells5 B1.out.box
  go_wp2_with fail
  refine C2.out.mono ?_
  rintro e w2 ⟨a2, n2, c2, rfl, hc2, hA2, hb2⟩
  have B2 := Lib.hid (B1.out.keep hb2)
  have HA2 := Lib.hid (HA1.out.keep hb2)
  have C3 := text_any 3 1 false 8 9 w2 (HT.out.keep (B1.out.keep hb2).bel)
  rw [aw4] at C3
  have C3 := Lib.hid C3
  clear hc2 hA2 hb2 C2 d0 d1 d2 d3 d4
  obtain ⟨d0, d1, d2, d3, d4⟩ := cells5 B2.out.box
  go_wp2_with fail
  refine C3.out.mono ?_
  rintro e w3 ⟨rfl, hb3⟩
  have B3 := Lib.hid (B2.out.keep hb3)
  have C4 := Lib.hid (fit_any a1 1 c1 _ true aw3 w3 (HA2.out.keep hb3))
  clear hb3 C3 d0 d1 d2 d3 d4
  go_wp2_with fail
  refine C4.out.mono ?_
  rintro e w4 ⟨rfl, hb4⟩
  have B4 := Lib.hid (B3.out.keep hb4)
  clear hb4
  go_wp2_with fail
  go_ret
  exact ⟨rfl, B4.out.bel⟩

set_option maxHeartbeats 4000000 in
theorem turns_any (a : Option Addr) (len cap : Nat) (l : List Lt) (hcap : len ≤ cap) (x0 x1 : Int) (x2 : Bool) (x3 x4 : Int) (g : Int) (w : World) (h : LtAt w a len l) (ht : Num.Tab w) :
    Calls Tryd.prog 4 #[.slice a len cap, .agg #[.int .i64 x0, .int .i64 x1, .bool x2, .int .i64 x3, .int .i64 x4], .int .i64 g] w fun e w' => e = .returned (.bool true) ∧ Below w.heap.size w w' := by
  have hB0 := bx5_new 24 w (.int .i64 x0) (.int .i64 x1) (.bool x2) (.int .i64 x3) (.int .i64 x4)
  obtain ⟨w0, hw0⟩ : ∃ w0, w.alloc (.cells #[.int .i64 x0, .int .i64 x1, .bool x2, .int .i64 x3, .int .i64 x4] 24) = w0 := ⟨_, rfl⟩
  rw [hw0] at hB0
  have HW := Lib.hid hw0
  have B0 := Lib.hid hB0
  have HX := Lib.hid h
  have HT := Lib.hid ht
  have hl := h.2.1
  clear hw0 hB0 h ht
  by_cases h20 : 20 < len
  · have e0 : (20 : Int) < (len : Int) := by omega
    have CA := Lib.hid (awake_any w0 (HT.out.keep B0.out.bel))
    go_enter Tryd.func4, Tryd.ntmps4
    go_wp2_with fail
    rw [show w.alloc (.cells #[.int .i64 x0, .int .i64 x1, .bool x2, .int .i64 x3, .int .i64 x4] 24) = w0 from HW.out]
    go_wp2_with fail
    refine CA.out.mono ?_
    rintro e w1 ⟨rfl, hb⟩
    have B1 := Lib.hid (B0.out.keep hb)
    clear hb
    go_wp2_with fail
    go_ret
    exact ⟨rfl, B1.out.bel⟩
  have e0 : ¬ (20 : Int) < (len : Int) := by omega
  obtain ⟨⟨m, er⟩, hs⟩ : ∃ r, putL l ⟨x0, x1, x2, x3, x4⟩ = r := ⟨_, rfl⟩
  obtain ⟨⟨q, fr⟩, hd⟩ : ∃ r, dropL l g = r := ⟨_, rfl⟩
  have C1 := Lib.hid (fun W (hW : Below w.heap.size w W) => put_any a len cap l hcap x0 x1 x2 x3 x4 _ hs W (Rw.At.keep HX.out hW))
  have C2 := Lib.hid (fun W (hW : Below w.heap.size w W) => rput_any a len cap l hcap x0 x1 x2 x3 x4 _ hs W (Rw.At.keep HX.out hW))
  have C3 := Lib.hid (fun W (hW : Below w.heap.size w W) => drop_any a len cap l hcap g _ hd W (Rw.At.keep HX.out hW))
  have C4 := Lib.hid (fun W (hW : Below w.heap.size w W) => rdrop_any a len cap l g _ hd W (Rw.At.keep HX.out hW))
  clear hs hd
  go_enter Tryd.func4, Tryd.ntmps4
  go_wp2_with fail
  rw [show w.alloc (.cells #[.int .i64 x0, .int .i64 x1, .bool x2, .int .i64 x3, .int .i64 x4] 24) = w0 from HW.out]
  obtain ⟨d0, d1, d2, d3, d4⟩ := cells5 B0.out.box
  go_wp2_with fail
  refine (C1.out w0 B0.out.bel).mono ?_
  rintro e w1 ⟨a1, n1, k1, rfl, _, hA, hb⟩
  have B1 := Lib.hid (B0.out.keep hb)
  have A1_1 := Lib.hid hA
  clear hb hA d0 d1 d2 d3 d4
  obtain ⟨d0, d1, d2, d3, d4⟩ := cells5 B1.out.box
  go_wp2_with fail
  refine (C2.out w1 B1.out.bel).mono ?_
  rintro e w2 ⟨a2, n2, k2, rfl, _, hA, hb⟩
  have B2 := Lib.hid (B1.out.keep hb)
  have A1_2 := Lib.hid (Rw.At.keep A1_1.out hb)
  have A2_2 := Lib.hid hA
  clear hb hA d0 d1 d2 d3 d4
  obtain ⟨d0, d1, d2, d3, d4⟩ := cells5 B2.out.box
  go_wp2_with fail
  refine (C3.out w2 B2.out.bel).mono ?_
  rintro e w3 ⟨a3, n3, k3, rfl, _, hA, hb⟩
  have B3 := Lib.hid (B2.out.keep hb)
  have A1_3 := Lib.hid (Rw.At.keep A1_2.out hb)
  have A2_3 := Lib.hid (Rw.At.keep A2_2.out hb)
  have A3_3 := Lib.hid hA
  clear hb hA d0 d1 d2 d3 d4
  obtain ⟨d0, d1, d2, d3, d4⟩ := cells5 B3.out.box
  go_wp2_with fail
  refine (C4.out w3 B3.out.bel).mono ?_
  rintro e w4 ⟨a4, n4, k4, rfl, _, hA, hb⟩
  have B4 := Lib.hid (B3.out.keep hb)
  have A1_4 := Lib.hid (Rw.At.keep A1_3.out hb)
  have A2_4 := Lib.hid (Rw.At.keep A2_3.out hb)
  have A3_4 := Lib.hid (Rw.At.keep A3_3.out hb)
  have A4_4 := Lib.hid hA
  clear hb hA d0 d1 d2 d3 d4
  have S1 := Lib.hid (rsame_any a1 a2 n1 k1 n2 k2 _ _ true (eqLs_iff.2 rfl) w4 A1_4.out A2_4.out)
  have her : (er == er) = true := by simp
  have hfr : (fr == fr) = true := by simp
  clear C1 C2 C3 C4
  go_wp2_with fail
  refine S1.out.mono ?_
  rintro e w5 ⟨rfl, hb⟩
  have B5 := Lib.hid (B4.out.keep hb)
  have S2 := Lib.hid (rsame_any a3 a4 n3 k3 n4 k4 _ _ true (eqLs_iff.2 rfl) w5 (A3_4.out.keep hb) (A4_4.out.keep hb))
  clear hb S1
  go_wp2_with fail
  refine S2.out.mono ?_
  rintro e w6 ⟨rfl, hb⟩
  have B6 := Lib.hid (B5.out.keep hb)
  have CA := Lib.hid (awake_any w6 (HT.out.keep B6.out.bel))
  clear hb S2
  go_wp2_with fail
  refine CA.out.mono ?_
  rintro e w7 ⟨rfl, hb⟩
  have B7 := Lib.hid (B6.out.keep hb)
  clear hb CA
  go_wp2_with fail
  go_ret
  exact ⟨rfl, B7.out.bel⟩
end Go.Proofs.YtekndioohjlmcaaDoor.Letter
namespace Go.Proofs.YtekndioohjlmcaaDoor
open Go.RowKit
theorem Contract.letterTurns (a : Option Addr) (len cap : Nat) (x0 x1 : Int) (x2 : Bool) (x3 x4 : Int) (g : Int) (W : World) (h : IsLetter W a len cap) (_hg : (Lit.int .i64 g).wf = true) (ht : Laid W) :
    Calls Tryd.prog 4 #[.slice a len cap, .agg #[.int .i64 x0, .int .i64 x1, .bool x2, .int .i64 x3, .int .i64 x4], .int .i64 g] W fun e W' => e = .returned (.bool true) ∧ Below W.heap.size W W' := by
  obtain ⟨l, hl, hc⟩ := h
  exact Go.Proofs.YtekndioohjlmcaaDoor.Letter.turns_any a len cap l hc x0 x1 x2 x3 x4 g W hl ht
theorem laid_of {W : World} (h : laidMetH Tryd.prog Rows.letterTurnsRow.laid W) : Laid W := laid_list (by kernel_rfl) h
end Go.Proofs.YtekndioohjlmcaaDoor
