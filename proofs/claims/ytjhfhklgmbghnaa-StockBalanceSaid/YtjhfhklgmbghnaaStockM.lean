/-
  The walks of StockMoves and StockPuts.
-/
import Derived.Test.YtjhfhklgmbghnaaStockE
import Derived.Lib.QuietBelow
set_option linter.unusedVariables false
set_option maxRecDepth 4000
namespace Go.Proofs.Ytjhfhklgmbghnaa
open Go.RowKit Go.Sort StockP

theorem stockMoves_long (s : ByteArray) (a b c d e : Int) (wh n : Int) (w : World) (hl : 60 < s.size) (hs : s.size ≤ 9223372036854775807) :
    Calls Try.prog 3 #[.agg #[.string s, .int .i64 a, .int .i64 b, .int .i64 c, .int .i64 d, .int .i64 e], .int .i64 wh, .int .i64 n] w fun z w' => z = .returned (.bool true) ∧ Below w.heap.size w w' := by
  have HB := Lib.hid (bx_new w (.string s) (.int .i64 a) (.int .i64 b) (.int .i64 c) (.int .i64 d) (.int .i64 e))
  go_enter Try.func3, Try.ntmps3
  go_wp2_with fail
  refine (awake_any _).mono ?_
  rintro z w1 ⟨rfl, hb⟩
  have HB1 := Lib.hid (HB.out.keep hb)
  clear hb HB
  go_wp2_with fail
  go_ret
  exact ⟨rfl, HB1.out.bel⟩
set_option maxHeartbeats 4000000 in
theorem stockMoves_walk (s : ByteArray) (a b c d e : Int) (wh n : Int) (w : World) (hl : s.size ≤ 60) :
    Calls Try.prog 3 #[.agg #[.string s, .int .i64 a, .int .i64 b, .int .i64 c, .int .i64 d, .int .i64 e], .int .i64 wh, .int .i64 n] w fun z w' => z = .returned (.bool true) ∧ Below w.heap.size w w' := by
  obtain ⟨y, er, hm⟩ : ∃ y er, moveV ⟨s, a, b, c, d, e⟩ wh n = (y, er) := ⟨_, _, rfl⟩
  obtain ⟨v, hv⟩ : ∃ v, fitS ⟨s, a, b, c, d, e⟩ = v := ⟨_, rfl⟩
  have hs : s.size ≤ 4398046511104 := by omega
  have H1 := Lib.hid (fun w => lmove_is ⟨s, a, b, c, d, e⟩ wh n y er w hs hm)
  have H2 := Lib.hid (fun w => rmove_is ⟨s, a, b, c, d, e⟩ wh n y er w hs hm)
  have HF := Lib.hid (fun w => sfit_is s a b c d e v w hs hv)
  have HG := Lib.hid (fun w => rsfit_is s a b c d e v w hs hv)
  clear hm hv hs
  dsimp only at H1 H2
  go_enter Try.func3, Try.ntmps3
  have A0 := Lib.hid (bx_new w (.string s) (.int .i64 a) (.int .i64 b) (.int .i64 c) (.int .i64 d) (.int .i64 e)).box
  have HB0 := Lib.hid (bx_new w (.string s) (.int .i64 a) (.int .i64 b) (.int .i64 c) (.int .i64 d) (.int .i64 e)).bel
  go_wp2_with fail
  refine (H1.out _).mono ?_
  rintro z w1 ⟨rfl, hb⟩
  have HB1 := Lib.hid (below_on HB0.out HB0.out.size hb)
  have A0x := Lib.hid (A0.out.keep hb)
  clear A0
  have A0 := A0x; clear A0x
  clear hb HB0
  obtain ⟨p0_0, p0_1, p0_2, p0_3, p0_4, p0_5⟩ := cells6 A0.out
  have r0_0 := fun o => Lib.cell?_alloc_some o p0_0
  have r0_1 := fun o => Lib.cell?_alloc_some o p0_1
  have r0_2 := fun o => Lib.cell?_alloc_some o p0_2
  have r0_3 := fun o => Lib.cell?_alloc_some o p0_3
  have r0_4 := fun o => Lib.cell?_alloc_some o p0_4
  have r0_5 := fun o => Lib.cell?_alloc_some o p0_5
  go_wp2_with fail
  refine (H2.out _).mono ?_
  rintro z w2 ⟨rfl, hb⟩
  have HB2 := Lib.hid (below_on (HB1.out.alloc HB1.out.size _) (by have := HB1.out.size; rw [World.size_alloc]; omega) hb)
  clear p0_0 r0_0 p0_1 r0_1 p0_2 r0_2 p0_3 r0_3 p0_4 r0_4 p0_5 r0_5
  have A0x := Lib.hid ((A0.out.alloc _).keep hb)
  clear A0
  have A0 := A0x; clear A0x
  have A1 := Lib.hid ((at6_new w1 (.string y.nm) (.int .i64 (y.hand)) (.int .i64 (y.held)) (.int .i64 (y.kept)) (.int .i64 (y.sent)) (.int .i64 (y.inn))).keep hb)
  clear hb HB1
  obtain ⟨p0_0, p0_1, p0_2, p0_3, p0_4, p0_5⟩ := cells6 A0.out
  have r0_0 := fun o => Lib.cell?_alloc_some o p0_0
  have r0_1 := fun o => Lib.cell?_alloc_some o p0_1
  have r0_2 := fun o => Lib.cell?_alloc_some o p0_2
  have r0_3 := fun o => Lib.cell?_alloc_some o p0_3
  have r0_4 := fun o => Lib.cell?_alloc_some o p0_4
  have r0_5 := fun o => Lib.cell?_alloc_some o p0_5
  obtain ⟨p1_0, p1_1, p1_2, p1_3, p1_4, p1_5⟩ := cells6 A1.out
  have r1_0 := fun o => Lib.cell?_alloc_some o p1_0
  have r1_1 := fun o => Lib.cell?_alloc_some o p1_1
  have r1_2 := fun o => Lib.cell?_alloc_some o p1_2
  have r1_3 := fun o => Lib.cell?_alloc_some o p1_3
  have r1_4 := fun o => Lib.cell?_alloc_some o p1_4
  have r1_5 := fun o => Lib.cell?_alloc_some o p1_5
  go_wp2_with fail
  have HBc := Lib.hid (HB2.out.alloc HB2.out.size (.cells #[.string y.nm, .int .i64 (y.hand), .int .i64 (y.held), .int .i64 (y.kept), .int .i64 (y.sent), .int .i64 (y.inn)] 23))
  have B0 := Lib.hid (A0.out.alloc (.cells #[.string y.nm, .int .i64 (y.hand), .int .i64 (y.held), .int .i64 (y.kept), .int .i64 (y.sent), .int .i64 (y.inn)] 23))
  have B1 := Lib.hid (A1.out.alloc (.cells #[.string y.nm, .int .i64 (y.hand), .int .i64 (y.held), .int .i64 (y.kept), .int .i64 (y.sent), .int .i64 (y.inn)] 23))
  have B2 := Lib.hid (at6_new w2 (.string y.nm) (.int .i64 (y.hand)) (.int .i64 (y.held)) (.int .i64 (y.kept)) (.int .i64 (y.sent)) (.int .i64 (y.inn)))
  clear p0_0 r0_0 p0_1 r0_1 p0_2 r0_2 p0_3 r0_3 p0_4 r0_4 p0_5 r0_5 p1_0 r1_0 p1_1 r1_1 p1_2 r1_2 p1_3 r1_3 p1_4 r1_4 p1_5 r1_5 A0 A1 HB2
  generalize w2.alloc (.cells #[.string y.nm, .int .i64 (y.hand), .int .i64 (y.held), .int .i64 (y.kept), .int .i64 (y.sent), .int .i64 (y.inn)] 23) = c2 at *
  obtain ⟨p0_0, p0_1, p0_2, p0_3, p0_4, p0_5⟩ := cells6 B0.out
  have r0_0 := fun d os => cell_regrown p0_0 d os
  have r0_1 := fun d os => cell_regrown p0_1 d os
  have r0_2 := fun d os => cell_regrown p0_2 d os
  have r0_3 := fun d os => cell_regrown p0_3 d os
  have r0_4 := fun d os => cell_regrown p0_4 d os
  have r0_5 := fun d os => cell_regrown p0_5 d os
  obtain ⟨p1_0, p1_1, p1_2, p1_3, p1_4, p1_5⟩ := cells6 B1.out
  have r1_0 := fun d os => cell_regrown p1_0 d os
  have r1_1 := fun d os => cell_regrown p1_1 d os
  have r1_2 := fun d os => cell_regrown p1_2 d os
  have r1_3 := fun d os => cell_regrown p1_3 d os
  have r1_4 := fun d os => cell_regrown p1_4 d os
  have r1_5 := fun d os => cell_regrown p1_5 d os
  obtain ⟨p2_0, p2_1, p2_2, p2_3, p2_4, p2_5⟩ := cells6 B2.out
  have r2_0 := fun d os => cell_regrown p2_0 d os
  have r2_1 := fun d os => cell_regrown p2_1 d os
  have r2_2 := fun d os => cell_regrown p2_2 d os
  have r2_3 := fun d os => cell_regrown p2_3 d os
  have r2_4 := fun d os => cell_regrown p2_4 d os
  have r2_5 := fun d os => cell_regrown p2_5 d os
  clear p0_0 p0_1 p0_2 p0_3 p0_4 p0_5 p1_0 p1_1 p1_2 p1_3 p1_4 p1_5 p2_0 p2_1 p2_2 p2_3 p2_4 p2_5 B0 B1 B2
  have C1 := Lib.hid (fun d os => Calls.regrown_of (HF.out (grow (redrawn c2 d) os)))
  have C2 := Lib.hid (fun d os => Calls.regrown_of (HG.out (grow (redrawn c2 d) os)))
  have C3 := Lib.hid (fun d os => Calls.regrown_of (awake_any (grow (redrawn c2 d) os)))
  clear HF HG H1 H2
  refine wp_region_quiet_below (by kernel_rfl) (by kernel_rfl) ?_
  repeat (quiet_step (first | with_reducible exact C1.out _ _ | with_reducible exact C2.out _ _ | with_reducible exact C3.out _ _))
  refine wpQuiet_nil ?_
  intro _ hw'
  obtain ⟨⟨dq, osq⟩, hw''⟩ := hw'
  subst hw''
  go_wp2_with fail
  go_ret
  exact ⟨rfl, HBc.out.trans ((below_regrown c2 dq osq).mono HBc.out.size)⟩
theorem stockPuts_long1 (s : ByteArray) (a b c d e : Int) (n : Int) (t : ByteArray) (w : World) (hl : 60 < s.size) (hs : s.size ≤ 9223372036854775807) (ht : t.size ≤ 9223372036854775807) :
    Calls Try.prog 4 #[.agg #[.string s, .int .i64 a, .int .i64 b, .int .i64 c, .int .i64 d, .int .i64 e], .int .i64 n, .string t] w fun z w' => z = .returned (.bool true) ∧ Below w.heap.size w w' := by
  have HB := Lib.hid (bx_new w (.string s) (.int .i64 a) (.int .i64 b) (.int .i64 c) (.int .i64 d) (.int .i64 e))
  go_enter Try.func4, Try.ntmps4
  go_wp2_with fail
  refine (awake_any _).mono ?_
  rintro z w1 ⟨rfl, hb⟩
  have HB1 := Lib.hid (HB.out.keep hb)
  clear hb HB
  go_wp2_with fail
  go_ret
  exact ⟨rfl, HB1.out.bel⟩
theorem stockPuts_long2 (s : ByteArray) (a b c d e : Int) (n : Int) (t : ByteArray) (w : World) (hl : s.size ≤ 60) (ht : 60 < t.size) (hs : t.size ≤ 9223372036854775807) :
    Calls Try.prog 4 #[.agg #[.string s, .int .i64 a, .int .i64 b, .int .i64 c, .int .i64 d, .int .i64 e], .int .i64 n, .string t] w fun z w' => z = .returned (.bool true) ∧ Below w.heap.size w w' := by
  have HB := Lib.hid (bx_new w (.string s) (.int .i64 a) (.int .i64 b) (.int .i64 c) (.int .i64 d) (.int .i64 e))
  go_enter Try.func4, Try.ntmps4
  go_wp2_with fail
  refine (awake_any _).mono ?_
  rintro z w1 ⟨rfl, hb⟩
  have HB1 := Lib.hid (HB.out.keep hb)
  clear hb HB
  go_wp2_with fail
  go_ret
  exact ⟨rfl, HB1.out.bel⟩
set_option maxHeartbeats 4000000 in
theorem stockPuts_walk (s : ByteArray) (a b c d e : Int) (n : Int) (t : ByteArray) (w : World) (hl : s.size ≤ 60) (ht : t.size ≤ 60) :
    Calls Try.prog 4 #[.agg #[.string s, .int .i64 a, .int .i64 b, .int .i64 c, .int .i64 d, .int .i64 e], .int .i64 n, .string t] w fun z w' => z = .returned (.bool true) ∧ Below w.heap.size w w' := by
  obtain ⟨y1, er1, h1⟩ : ∃ y er, restockV ⟨s, a, b, c, d, e⟩ n = (y, er) := ⟨_, _, rfl⟩
  obtain ⟨y2, er2, h2⟩ : ∃ y er, adjustV ⟨s, a, b, c, d, e⟩ n = (y, er) := ⟨_, _, rfl⟩
  obtain ⟨y3, er3, h3⟩ : ∃ y er, newV t = (y, er) := ⟨_, _, rfl⟩
  have hs : s.size ≤ 4398046511104 := by omega
  have hst : t.size ≤ 4398046511104 := by omega
  have H1 := Lib.hid (fun w => srestock_is ⟨s, a, b, c, d, e⟩ n y1 er1 w hs h1)
  have H2 := Lib.hid (fun w => rrestock_is ⟨s, a, b, c, d, e⟩ n y1 er1 w hs h1)
  have H3 := Lib.hid (fun w => sadjust_is ⟨s, a, b, c, d, e⟩ n y2 er2 w hs h2)
  have H4 := Lib.hid (fun w => radjust_is ⟨s, a, b, c, d, e⟩ n y2 er2 w hs h2)
  have H5 := Lib.hid (fun w => snew_is t y3 er3 w hst h3)
  have H6 := Lib.hid (fun w => rnew_is t y3 er3 w hst h3)
  have H7 := Lib.hid awake_any
  clear h1 h2 h3 hs hst
  dsimp only at H1 H2 H3 H4
  go_enter Try.func4, Try.ntmps4
  have A0 := Lib.hid (bx_new w (.string s) (.int .i64 a) (.int .i64 b) (.int .i64 c) (.int .i64 d) (.int .i64 e)).box
  have HB0 := Lib.hid (bx_new w (.string s) (.int .i64 a) (.int .i64 b) (.int .i64 c) (.int .i64 d) (.int .i64 e)).bel
  go_wp2_with fail
  refine (H1.out _).mono ?_
  rintro z w1 ⟨rfl, hb⟩
  have HB1 := Lib.hid (below_on HB0.out HB0.out.size hb)
  have A0x := Lib.hid (A0.out.keep hb)
  clear A0
  have A0 := A0x; clear A0x
  clear hb HB0
  obtain ⟨p0_0, p0_1, p0_2, p0_3, p0_4, p0_5⟩ := cells6 A0.out
  have r0_0 := fun o => Lib.cell?_alloc_some o p0_0
  have r0_1 := fun o => Lib.cell?_alloc_some o p0_1
  have r0_2 := fun o => Lib.cell?_alloc_some o p0_2
  have r0_3 := fun o => Lib.cell?_alloc_some o p0_3
  have r0_4 := fun o => Lib.cell?_alloc_some o p0_4
  have r0_5 := fun o => Lib.cell?_alloc_some o p0_5
  go_wp2_with fail
  refine (H2.out _).mono ?_
  rintro z w2 ⟨rfl, hb⟩
  have HB2 := Lib.hid (below_on (HB1.out.alloc HB1.out.size _) (by have := HB1.out.size; rw [World.size_alloc]; omega) hb)
  clear p0_0 r0_0 p0_1 r0_1 p0_2 r0_2 p0_3 r0_3 p0_4 r0_4 p0_5 r0_5
  have A0x := Lib.hid ((A0.out.alloc _).keep hb)
  clear A0
  have A0 := A0x; clear A0x
  have A1 := Lib.hid ((at6_new w1 (.string y1.nm) (.int .i64 (y1.hand)) (.int .i64 (y1.held)) (.int .i64 (y1.kept)) (.int .i64 (y1.sent)) (.int .i64 (y1.inn))).keep hb)
  clear hb HB1
  obtain ⟨p0_0, p0_1, p0_2, p0_3, p0_4, p0_5⟩ := cells6 A0.out
  have r0_0 := fun o => Lib.cell?_alloc_some o p0_0
  have r0_1 := fun o => Lib.cell?_alloc_some o p0_1
  have r0_2 := fun o => Lib.cell?_alloc_some o p0_2
  have r0_3 := fun o => Lib.cell?_alloc_some o p0_3
  have r0_4 := fun o => Lib.cell?_alloc_some o p0_4
  have r0_5 := fun o => Lib.cell?_alloc_some o p0_5
  go_wp2_with fail
  refine (H3.out _).mono ?_
  rintro z w3 ⟨rfl, hb⟩
  have HB3 := Lib.hid (below_on (HB2.out.alloc HB2.out.size _) (by have := HB2.out.size; rw [World.size_alloc]; omega) hb)
  clear p0_0 r0_0 p0_1 r0_1 p0_2 r0_2 p0_3 r0_3 p0_4 r0_4 p0_5 r0_5
  have A0x := Lib.hid ((A0.out.alloc _).keep hb)
  clear A0
  have A0 := A0x; clear A0x
  have A1x := Lib.hid ((A1.out.alloc _).keep hb)
  clear A1
  have A1 := A1x; clear A1x
  have A2 := Lib.hid ((at6_new w2 (.string y1.nm) (.int .i64 (y1.hand)) (.int .i64 (y1.held)) (.int .i64 (y1.kept)) (.int .i64 (y1.sent)) (.int .i64 (y1.inn))).keep hb)
  clear hb HB2
  obtain ⟨p0_0, p0_1, p0_2, p0_3, p0_4, p0_5⟩ := cells6 A0.out
  have r0_0 := fun o => Lib.cell?_alloc_some o p0_0
  have r0_1 := fun o => Lib.cell?_alloc_some o p0_1
  have r0_2 := fun o => Lib.cell?_alloc_some o p0_2
  have r0_3 := fun o => Lib.cell?_alloc_some o p0_3
  have r0_4 := fun o => Lib.cell?_alloc_some o p0_4
  have r0_5 := fun o => Lib.cell?_alloc_some o p0_5
  go_wp2_with fail
  refine (H4.out _).mono ?_
  rintro z w4 ⟨rfl, hb⟩
  have HB4 := Lib.hid (below_on (HB3.out.alloc HB3.out.size _) (by have := HB3.out.size; rw [World.size_alloc]; omega) hb)
  clear p0_0 r0_0 p0_1 r0_1 p0_2 r0_2 p0_3 r0_3 p0_4 r0_4 p0_5 r0_5
  have A0x := Lib.hid ((A0.out.alloc _).keep hb)
  clear A0
  have A0 := A0x; clear A0x
  have A1x := Lib.hid ((A1.out.alloc _).keep hb)
  clear A1
  have A1 := A1x; clear A1x
  have A2x := Lib.hid ((A2.out.alloc _).keep hb)
  clear A2
  have A2 := A2x; clear A2x
  have A3 := Lib.hid ((at6_new w3 (.string y2.nm) (.int .i64 (y2.hand)) (.int .i64 (y2.held)) (.int .i64 (y2.kept)) (.int .i64 (y2.sent)) (.int .i64 (y2.inn))).keep hb)
  clear hb HB3
  obtain ⟨p0_0, p0_1, p0_2, p0_3, p0_4, p0_5⟩ := cells6 A0.out
  have r0_0 := fun o => Lib.cell?_alloc_some o p0_0
  have r0_1 := fun o => Lib.cell?_alloc_some o p0_1
  have r0_2 := fun o => Lib.cell?_alloc_some o p0_2
  have r0_3 := fun o => Lib.cell?_alloc_some o p0_3
  have r0_4 := fun o => Lib.cell?_alloc_some o p0_4
  have r0_5 := fun o => Lib.cell?_alloc_some o p0_5
  go_wp2_with fail
  refine (H5.out _).mono ?_
  rintro z w5 ⟨rfl, hb⟩
  have HB5 := Lib.hid (below_on (HB4.out.alloc HB4.out.size _) (by have := HB4.out.size; rw [World.size_alloc]; omega) hb)
  clear p0_0 r0_0 p0_1 r0_1 p0_2 r0_2 p0_3 r0_3 p0_4 r0_4 p0_5 r0_5
  have A0x := Lib.hid ((A0.out.alloc _).keep hb)
  clear A0
  have A0 := A0x; clear A0x
  have A1x := Lib.hid ((A1.out.alloc _).keep hb)
  clear A1
  have A1 := A1x; clear A1x
  have A2x := Lib.hid ((A2.out.alloc _).keep hb)
  clear A2
  have A2 := A2x; clear A2x
  have A3x := Lib.hid ((A3.out.alloc _).keep hb)
  clear A3
  have A3 := A3x; clear A3x
  have A4 := Lib.hid ((at6_new w4 (.string y2.nm) (.int .i64 (y2.hand)) (.int .i64 (y2.held)) (.int .i64 (y2.kept)) (.int .i64 (y2.sent)) (.int .i64 (y2.inn))).keep hb)
  clear hb HB4
  go_wp2_with fail
  refine (H6.out _).mono ?_
  rintro z w6 ⟨rfl, hb⟩
  have HB6 := Lib.hid (below_on (HB5.out.alloc HB5.out.size _) (by have := HB5.out.size; rw [World.size_alloc]; omega) hb)
  have A0x := Lib.hid ((A0.out.alloc _).keep hb)
  clear A0
  have A0 := A0x; clear A0x
  have A1x := Lib.hid ((A1.out.alloc _).keep hb)
  clear A1
  have A1 := A1x; clear A1x
  have A2x := Lib.hid ((A2.out.alloc _).keep hb)
  clear A2
  have A2 := A2x; clear A2x
  have A3x := Lib.hid ((A3.out.alloc _).keep hb)
  clear A3
  have A3 := A3x; clear A3x
  have A4x := Lib.hid ((A4.out.alloc _).keep hb)
  clear A4
  have A4 := A4x; clear A4x
  have A5 := Lib.hid ((at6_new w5 (.string y3.nm) (.int .i64 (y3.hand)) (.int .i64 (y3.held)) (.int .i64 (y3.kept)) (.int .i64 (y3.sent)) (.int .i64 (y3.inn))).keep hb)
  clear hb HB5
  obtain ⟨p1_0, p1_1, p1_2, p1_3, p1_4, p1_5⟩ := cells6 A1.out
  have r1_0 := fun o => Lib.cell?_alloc_some o p1_0
  have r1_1 := fun o => Lib.cell?_alloc_some o p1_1
  have r1_2 := fun o => Lib.cell?_alloc_some o p1_2
  have r1_3 := fun o => Lib.cell?_alloc_some o p1_3
  have r1_4 := fun o => Lib.cell?_alloc_some o p1_4
  have r1_5 := fun o => Lib.cell?_alloc_some o p1_5
  obtain ⟨p2_0, p2_1, p2_2, p2_3, p2_4, p2_5⟩ := cells6 A2.out
  have r2_0 := fun o => Lib.cell?_alloc_some o p2_0
  have r2_1 := fun o => Lib.cell?_alloc_some o p2_1
  have r2_2 := fun o => Lib.cell?_alloc_some o p2_2
  have r2_3 := fun o => Lib.cell?_alloc_some o p2_3
  have r2_4 := fun o => Lib.cell?_alloc_some o p2_4
  have r2_5 := fun o => Lib.cell?_alloc_some o p2_5
  obtain ⟨p3_0, p3_1, p3_2, p3_3, p3_4, p3_5⟩ := cells6 A3.out
  have r3_0 := fun o => Lib.cell?_alloc_some o p3_0
  have r3_1 := fun o => Lib.cell?_alloc_some o p3_1
  have r3_2 := fun o => Lib.cell?_alloc_some o p3_2
  have r3_3 := fun o => Lib.cell?_alloc_some o p3_3
  have r3_4 := fun o => Lib.cell?_alloc_some o p3_4
  have r3_5 := fun o => Lib.cell?_alloc_some o p3_5
  obtain ⟨p4_0, p4_1, p4_2, p4_3, p4_4, p4_5⟩ := cells6 A4.out
  have r4_0 := fun o => Lib.cell?_alloc_some o p4_0
  have r4_1 := fun o => Lib.cell?_alloc_some o p4_1
  have r4_2 := fun o => Lib.cell?_alloc_some o p4_2
  have r4_3 := fun o => Lib.cell?_alloc_some o p4_3
  have r4_4 := fun o => Lib.cell?_alloc_some o p4_4
  have r4_5 := fun o => Lib.cell?_alloc_some o p4_5
  obtain ⟨p5_0, p5_1, p5_2, p5_3, p5_4, p5_5⟩ := cells6 A5.out
  have r5_0 := fun o => Lib.cell?_alloc_some o p5_0
  have r5_1 := fun o => Lib.cell?_alloc_some o p5_1
  have r5_2 := fun o => Lib.cell?_alloc_some o p5_2
  have r5_3 := fun o => Lib.cell?_alloc_some o p5_3
  have r5_4 := fun o => Lib.cell?_alloc_some o p5_4
  have r5_5 := fun o => Lib.cell?_alloc_some o p5_5
  go_wp2_with fail
  refine (H7.out _).mono ?_
  rintro z wz ⟨rfl, hb⟩
  have HBz := Lib.hid (below_on (HB6.out.alloc HB6.out.size _) (by have := HB6.out.size; rw [World.size_alloc]; omega) hb)
  go_wp2_with fail
  go_ret
  exact ⟨rfl, HBz.out⟩
end Go.Proofs.Ytjhfhklgmbghnaa
