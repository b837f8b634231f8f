/-
  The walk of StockBack.
-/
import Derived.Test.YtjhfhklgmbghnaaStockM
set_option linter.unusedVariables false
set_option maxRecDepth 4000
namespace Go.Proofs.Ytjhfhklgmbghnaa
open Go.RowKit Go.Sort StockP

theorem lmove_bad {x : Sk} {wh n : Int} (hs : x.nm.size ≤ 4398046511104) {er : Int} (h : moveV x wh n = (sk0, er)) (w : World) :
    Calls Try.prog 8 #[.agg #[.string x.nm, .int .i64 x.hand, .int .i64 x.held, .int .i64 x.kept, .int .i64 x.sent, .int .i64 x.inn], .int .i64 wh, .int .i64 n] w fun z w' => z = .returned (.tuple #[.agg #[.string ⟨#[]⟩, .int .i64 0, .int .i64 0, .int .i64 0, .int .i64 0, .int .i64 0], .int .i64 er]) ∧ Below w.heap.size w w' := lmove_is x wh n sk0 er w hs h
theorem srestock_bad0 {x : Sk} {n : Int} (hs : x.nm.size ≤ 4398046511104) {er : Int} (h : restockV x n = (sk0, er)) (w : World) :
    Calls Try.prog 12 #[.agg #[.string x.nm, .int .i64 x.hand, .int .i64 x.held, .int .i64 x.kept, .int .i64 x.sent, .int .i64 x.inn], .int .i64 n] w fun z w' => z = .returned (.tuple #[.agg #[.string ⟨#[]⟩, .int .i64 0, .int .i64 0, .int .i64 0, .int .i64 0, .int .i64 0], .int .i64 er]) ∧ Below w.heap.size w w' := srestock_is x n sk0 er w hs h

theorem stockBack_long (s : ByteArray) (a b c d e : Int) (n : Int) (w : World) (hl : 60 < s.size) (hs : s.size ≤ 9223372036854775807) :
    Calls Try.prog 6 #[.agg #[.string s, .int .i64 a, .int .i64 b, .int .i64 c, .int .i64 d, .int .i64 e], .int .i64 n] w fun z w' => z = .returned (.bool true) ∧ Below w.heap.size w w' := by
  have HB := Lib.hid (bx_new w (.string s) (.int .i64 a) (.int .i64 b) (.int .i64 c) (.int .i64 d) (.int .i64 e))
  go_enter Try.func6, Try.ntmps6
  go_wp2_with fail
  refine (awake_any _).mono ?_
  rintro z w1 ⟨rfl, hb⟩
  have HB1 := Lib.hid (HB.out.keep hb)
  clear hb HB
  go_wp2_with fail
  go_ret
  exact ⟨rfl, HB1.out.bel⟩
set_option maxHeartbeats 4000000 in
theorem stockBack_walk (s : ByteArray) (a b c d e : Int) (n : Int) (w : World) (hl : s.size ≤ 60) :
    Calls Try.prog 6 #[.agg #[.string s, .int .i64 a, .int .i64 b, .int .i64 c, .int .i64 d, .int .i64 e], .int .i64 n] w fun z w' => z = .returned (.bool true) ∧ Below w.heap.size w w' := by
  have hs : s.size ≤ 4398046511104 := by omega
  have HS := Lib.hid hs
  clear hs
  have HX := Lib.hid (bx_new w (.string s) (.int .i64 a) (.int .i64 b) (.int .i64 c) (.int .i64 d) (.int .i64 e))
  go_enter Try.func6, Try.ntmps6
  go_wp2_with fail
  go_loopw [5] (fun i wr => ∃ j : Nat, j ≤ 2 ∧ i = .int .i64 (j : Int) ∧ Hid (Bx w wr (.string s) (.int .i64 a) (.int .i64 b) (.int .i64 c) (.int .i64 d) (.int .i64 e))) (fun i _ => 2 - (intOf i).toNat)
  case atStart => exact ⟨0, Nat.zero_le _, rfl, HX⟩
  case round =>
    obtain ⟨j, hj, rfl, hbx⟩ := hrel
    have A0 := Lib.hid hbx.out.box
    have HB0 := Lib.hid hbx.out.bel
    clear hbx HX
    obtain ⟨p0_0, p0_1, p0_2, p0_3, p0_4, p0_5⟩ := cells6 A0.out
    by_cases hlt : j < 2
    · obtain rfl | rfl : j = 0 ∨ j = 1 := by omega
      · rcases move_cases ⟨s, a, b, c, d, e⟩ 1 n with ⟨er, hm, hne, _, _⟩ | ⟨hm, hf, h1, h2, ho⟩
        · have H1 := Lib.hid (lmove_bad HS.out hm)
          have hne2 : (er != 0) = true := bne_iff_ne.2 hne
          dsimp only at H1
          clear hm hne
          go_wp2_with fail
          refine (H1.out _).mono ?_
          rintro z w1 ⟨rfl, hb⟩
          have HB1 := Lib.hid (below_on HB0.out HB0.out.size hb)
          have A0x := Lib.hid (A0.out.keep hb)
          clear A0
          have A0 := A0x; clear A0x
          clear hb HB0
          go_wp2_with fail
          go_roundw
          case rel => exact ⟨1, by omega, rfl, Lib.hid ⟨HB1.out.alloc HB1.out.size _, A0.out.alloc _⟩⟩
          case measure => simp [intOf]
        · have hbk := (move_back 1 (.inl rfl) hf h1 h2 ho).1
          have H1 := Lib.hid (fun w => lmove_is ⟨s, a, b, c, d, e⟩ 1 n ⟨s, a - n, b + n, c, d, e⟩ 0 w HS.out hm)
          have H2 := Lib.hid (fun w => lmove_is ⟨s, a - n, b + n, c, d, e⟩ 2 n ⟨s, a, b, c, d, e⟩ 0 w HS.out hbk)
          have hne2 : (a - n == a) = false := beq_eq_false_iff_ne.2 (by omega)
          have hfh := hf.hand; have hfd := hf.held; have hfk := hf.kept; have hfu := hf.up
          dsimp only at H1 H2 hfh hfd hfk hfu
          clear hm hbk ho hf h1 h2 hfh hfd hfk hfu
          go_wp2_with fail
          refine (H1.out _).mono ?_
          rintro z w1 ⟨rfl, hb⟩
          have HB1 := Lib.hid (below_on HB0.out HB0.out.size hb)
          have A0x := Lib.hid (A0.out.keep hb)
          clear A0
          have A0 := A0x; clear A0x
          clear hb HB0
          go_wp2_with fail
          refine (H2.out _).mono ?_
          rintro z w2 ⟨rfl, hb⟩
          have HB2 := Lib.hid (below_on (HB1.out.alloc HB1.out.size _) (by have := HB1.out.size; rw [World.size_alloc]; omega) hb)
          have A0x := Lib.hid ((A0.out.alloc _).keep hb)
          clear A0
          have A0 := A0x; clear A0x
          have A1 := Lib.hid ((at6_new w1 (.string s) (.int .i64 (a - n)) (.int .i64 (b + n)) (.int .i64 c) (.int .i64 d) (.int .i64 e)).keep hb)
          clear hb HB1
          obtain ⟨p0_0, p0_1, p0_2, p0_3, p0_4, p0_5⟩ := cells6 A0.out
          have r0_0 := fun o => Lib.cell?_alloc_some o p0_0
          have r0_1 := fun o => Lib.cell?_alloc_some o p0_1
          have r0_2 := fun o => Lib.cell?_alloc_some o p0_2
          have r0_3 := fun o => Lib.cell?_alloc_some o p0_3
          have r0_4 := fun o => Lib.cell?_alloc_some o p0_4
          have r0_5 := fun o => Lib.cell?_alloc_some o p0_5
          obtain ⟨p1_0, p1_1, p1_2, p1_3, p1_4, p1_5⟩ := cells6 A1.out
          have r1_0 := fun o => Lib.cell?_alloc_some o p1_0
          have r1_1 := fun o => Lib.cell?_alloc_some o p1_1
          have r1_2 := fun o => Lib.cell?_alloc_some o p1_2
          have r1_3 := fun o => Lib.cell?_alloc_some o p1_3
          have r1_4 := fun o => Lib.cell?_alloc_some o p1_4
          have r1_5 := fun o => Lib.cell?_alloc_some o p1_5
          go_wp2_with fail
          go_roundw
          case rel => exact ⟨1, by omega, rfl, Lib.hid ⟨HB2.out.alloc HB2.out.size _, A0.out.alloc _⟩⟩
          case measure => simp [intOf]
      · rcases move_cases ⟨s, a, b, c, d, e⟩ 3 n with ⟨er, hm, hne, _, _⟩ | ⟨hm, hf, h1, h2, ho⟩
        · have H1 := Lib.hid (lmove_bad HS.out hm)
          have hne2 : (er != 0) = true := bne_iff_ne.2 hne
          dsimp only at H1
          clear hm hne
          go_wp2_with fail
          refine (H1.out _).mono ?_
          rintro z w1 ⟨rfl, hb⟩
          have HB1 := Lib.hid (below_on HB0.out HB0.out.size hb)
          have A0x := Lib.hid (A0.out.keep hb)
          clear A0
          have A0 := A0x; clear A0x
          clear hb HB0
          go_wp2_with fail
          go_roundw
          case rel => exact ⟨2, by omega, rfl, Lib.hid ⟨HB1.out.alloc HB1.out.size _, A0.out.alloc _⟩⟩
          case measure => simp [intOf]
        · have hbk := (move_back 3 (.inr rfl) hf h1 h2 ho).1
          have H1 := Lib.hid (fun w => lmove_is ⟨s, a, b, c, d, e⟩ 3 n ⟨s, a, b - n, c + n, d, e⟩ 0 w HS.out hm)
          have H2 := Lib.hid (fun w => lmove_is ⟨s, a, b - n, c + n, d, e⟩ 4 n ⟨s, a, b, c, d, e⟩ 0 w HS.out hbk)
          have hne2 : (b - n == b) = false := beq_eq_false_iff_ne.2 (by omega)
          have hfh := hf.hand; have hfd := hf.held; have hfk := hf.kept; have hfu := hf.up
          dsimp only at H1 H2 hfh hfd hfk hfu
          clear hm hbk ho hf h1 h2 hfh hfd hfk hfu
          go_wp2_with fail
          refine (H1.out _).mono ?_
          rintro z w1 ⟨rfl, hb⟩
          have HB1 := Lib.hid (below_on HB0.out HB0.out.size hb)
          have A0x := Lib.hid (A0.out.keep hb)
          clear A0
          have A0 := A0x; clear A0x
          clear hb HB0
          go_wp2_with fail
          refine (H2.out _).mono ?_
          rintro z w2 ⟨rfl, hb⟩
          have HB2 := Lib.hid (below_on (HB1.out.alloc HB1.out.size _) (by have := HB1.out.size; rw [World.size_alloc]; omega) hb)
          have A0x := Lib.hid ((A0.out.alloc _).keep hb)
          clear A0
          have A0 := A0x; clear A0x
          have A1 := Lib.hid ((at6_new w1 (.string s) (.int .i64 a) (.int .i64 (b - n)) (.int .i64 (c + n)) (.int .i64 d) (.int .i64 e)).keep hb)
          clear hb HB1
          obtain ⟨p0_0, p0_1, p0_2, p0_3, p0_4, p0_5⟩ := cells6 A0.out
          have r0_0 := fun o => Lib.cell?_alloc_some o p0_0
          have r0_1 := fun o => Lib.cell?_alloc_some o p0_1
          have r0_2 := fun o => Lib.cell?_alloc_some o p0_2
          have r0_3 := fun o => Lib.cell?_alloc_some o p0_3
          have r0_4 := fun o => Lib.cell?_alloc_some o p0_4
          have r0_5 := fun o => Lib.cell?_alloc_some o p0_5
          obtain ⟨p1_0, p1_1, p1_2, p1_3, p1_4, p1_5⟩ := cells6 A1.out
          have r1_0 := fun o => Lib.cell?_alloc_some o p1_0
          have r1_1 := fun o => Lib.cell?_alloc_some o p1_1
          have r1_2 := fun o => Lib.cell?_alloc_some o p1_2
          have r1_3 := fun o => Lib.cell?_alloc_some o p1_3
          have r1_4 := fun o => Lib.cell?_alloc_some o p1_4
          have r1_5 := fun o => Lib.cell?_alloc_some o p1_5
          go_wp2_with fail
          go_roundw
          case rel => exact ⟨2, by omega, rfl, Lib.hid ⟨HB2.out.alloc HB2.out.size _, A0.out.alloc _⟩⟩
          case measure => simp [intOf]
    · have H7 := Lib.hid awake_any
      rcases restock_cases ⟨s, a, b, c, d, e⟩ n with ⟨er, hm, hne, _, _⟩ | ⟨hm, hf, h1, h2, ho⟩
      · have H1 := Lib.hid (srestock_bad0 HS.out hm)
        have hne2 : (er == 0) = false := beq_eq_false_iff_ne.2 hne
        dsimp only at H1
        clear hm hne
        go_wp2_with fail
        refine (H1.out _).mono ?_
        rintro z w1 ⟨rfl, hb⟩
        have HB1 := Lib.hid (below_on HB0.out HB0.out.size hb)
        have A0x := Lib.hid (A0.out.keep hb)
        clear A0
        have A0 := A0x; clear A0x
        clear hb HB0
        go_wp2_with fail
        refine (H7.out _).mono ?_
        rintro z wz ⟨rfl, hb⟩
        have HBz := Lib.hid (below_on (HB1.out.alloc HB1.out.size _) (by have := HB1.out.size; rw [World.size_alloc]; omega) hb)
        go_wp2_with fail
        go_ret
        exact ⟨rfl, HBz.out⟩
      · have hbk := restock_back hf h1 h2 ho
        have H1 := Lib.hid (fun w => srestock_is ⟨s, a, b, c, d, e⟩ n ⟨s, a + n, b, c, d, e + n⟩ 0 w HS.out hm)
        have H2 := Lib.hid (fun w => sadjust_is ⟨s, a + n, b, c, d, e + n⟩ (-n) ⟨s, a, b, c, d, e⟩ 0 w HS.out hbk)
        dsimp only at H1 H2
        clear hm hbk ho hf
        go_wp2_with fail
        refine (H1.out _).mono ?_
        rintro z w1 ⟨rfl, hb⟩
        have HB1 := Lib.hid (below_on HB0.out HB0.out.size hb)
        have A0x := Lib.hid (A0.out.keep hb)
        clear A0
        have A0 := A0x; clear A0x
        clear hb HB0
        go_wp2_with fail
        refine (H2.out _).mono ?_
        rintro z w2 ⟨rfl, hb⟩
        have HB2 := Lib.hid (below_on (HB1.out.alloc HB1.out.size _) (by have := HB1.out.size; rw [World.size_alloc]; omega) hb)
        have A0x := Lib.hid ((A0.out.alloc _).keep hb)
        clear A0
        have A0 := A0x; clear A0x
        have A1 := Lib.hid ((at6_new w1 (.string s) (.int .i64 (a + n)) (.int .i64 b) (.int .i64 c) (.int .i64 d) (.int .i64 (e + n))).keep hb)
        clear hb HB1
        obtain ⟨p0_0, p0_1, p0_2, p0_3, p0_4, p0_5⟩ := cells6 A0.out
        have r0_0 := fun o => Lib.cell?_alloc_some o p0_0
        have r0_1 := fun o => Lib.cell?_alloc_some o p0_1
        have r0_2 := fun o => Lib.cell?_alloc_some o p0_2
        have r0_3 := fun o => Lib.cell?_alloc_some o p0_3
        have r0_4 := fun o => Lib.cell?_alloc_some o p0_4
        have r0_5 := fun o => Lib.cell?_alloc_some o p0_5
        obtain ⟨p1_0, p1_1, p1_2, p1_3, p1_4, p1_5⟩ := cells6 A1.out
        have r1_0 := fun o => Lib.cell?_alloc_some o p1_0
        have r1_1 := fun o => Lib.cell?_alloc_some o p1_1
        have r1_2 := fun o => Lib.cell?_alloc_some o p1_2
        have r1_3 := fun o => Lib.cell?_alloc_some o p1_3
        have r1_4 := fun o => Lib.cell?_alloc_some o p1_4
        have r1_5 := fun o => Lib.cell?_alloc_some o p1_5
        go_wp2_with fail
        refine (H7.out _).mono ?_
        rintro z wz ⟨rfl, hb⟩
        have HBz := Lib.hid (below_on (HB2.out.alloc HB2.out.size _) (by have := HB2.out.size; rw [World.size_alloc]; omega) hb)
        go_wp2_with fail
        go_ret
        exact ⟨rfl, HBz.out⟩
end Go.Proofs.Ytjhfhklgmbghnaa
