/-
  The contracts of the document's Move, of the law's own move and awake.
-/
import Derived.Test.YtjclkiabgemfpaaGreatPdStockC
set_option linter.unusedVariables false
set_option maxRecDepth 4000
set_option maxRecDepth 4000
namespace Go.Proofs.YtjclkiabgemfpaaGreat
open Go.RowKit StockP
theorem rmove_bad (s : ByteArray) (a b c d e : Int) (n : Int) (wh : Int) (w : World) (hs : s.size ≤ 4398046511104) (hf : fitS ⟨s, a, b, c, d, e⟩ = false) :
    Calls Tryz.prog 105 #[.agg #[.string s, .int .i64 a, .int .i64 b, .int .i64 c, .int .i64 d, .int .i64 e], .int .i64 wh, .int .i64 n] w fun z w' => z = .returned (.tuple #[.agg #[.string ⟨#[]⟩, .int .i64 0, .int .i64 0, .int .i64 0, .int .i64 0, .int .i64 0], .int .i64 12]) ∧ Below w.heap.size w w' := by
  have HF := Lib.hid (fun w => rsfit_is s a b c d e false w hs hf)
  clear hf
  have HB := Lib.hid (in2_new w (.string s) (.int .i64 a) (.int .i64 b) (.int .i64 c) (.int .i64 d) (.int .i64 e) (.string ⟨#[]⟩) (.int .i64 0) (.int .i64 0) (.int .i64 0) (.int .i64 0) (.int .i64 0))
  go_enter Tryz.func105, Tryz.ntmps105
  go_wp2_with fail
  refine (HF.out _).mono ?_
  rintro z w1 ⟨rfl, hb⟩
  have HB1 := Lib.hid (HB.out.keep hb)
  clear hb HB
  have HB := HB1; clear HB1
  obtain ⟨q0, q1, q2, q3, q4, q5⟩ := cells6 HB.out.box
  obtain ⟨z0, z1, z2, z3, z4, z5⟩ := cells6 HB.out.res
  obtain ⟨f0, f1, f2, f3, f4, f5⟩ := free6 HB.out.res
  obtain ⟨k0, k1, k2, k3, k4, k5⟩ := free6 HB.out.box
  go_wp2_with fail
  have HRS := Lib.hid (heap_put6 HB.out.res (.string ⟨#[]⟩) (.int .i64 0) (.int .i64 0) (.int .i64 0) (.int .i64 0) (.int .i64 0))
  have HW := Lib.hid (below_put6 HB.out.bel (Nat.le_succ _) (.string ⟨#[]⟩) (.int .i64 0) (.int .i64 0) (.int .i64 0) (.int .i64 0) (.int .i64 0))
  exact bodyPost_ret (results_sku rfl _ _ (w.heap.size + 1) _ _ _ _ _ _ rfl HRS.out) rfl ⟨rfl, HW.out⟩
theorem rmove_less (s : ByteArray) (a b c d e : Int) (n : Int) (wh : Int) (w : World) (hs : s.size ≤ 4398046511104) (hf : fitS ⟨s, a, b, c, d, e⟩ = true) (hn : n < 1) :
    Calls Tryz.prog 105 #[.agg #[.string s, .int .i64 a, .int .i64 b, .int .i64 c, .int .i64 d, .int .i64 e], .int .i64 wh, .int .i64 n] w fun z w' => z = .returned (.tuple #[.agg #[.string ⟨#[]⟩, .int .i64 0, .int .i64 0, .int .i64 0, .int .i64 0, .int .i64 0], .int .i64 11]) ∧ Below w.heap.size w w' := by
  have HF := Lib.hid (fun w => rsfit_is s a b c d e true w hs hf)
  clear hf
  have HB := Lib.hid (in2_new w (.string s) (.int .i64 a) (.int .i64 b) (.int .i64 c) (.int .i64 d) (.int .i64 e) (.string ⟨#[]⟩) (.int .i64 0) (.int .i64 0) (.int .i64 0) (.int .i64 0) (.int .i64 0))
  go_enter Tryz.func105, Tryz.ntmps105
  go_wp2_with fail
  refine (HF.out _).mono ?_
  rintro z w1 ⟨rfl, hb⟩
  have HB1 := Lib.hid (HB.out.keep hb)
  clear hb HB
  have HB := HB1; clear HB1
  obtain ⟨q0, q1, q2, q3, q4, q5⟩ := cells6 HB.out.box
  obtain ⟨z0, z1, z2, z3, z4, z5⟩ := cells6 HB.out.res
  obtain ⟨f0, f1, f2, f3, f4, f5⟩ := free6 HB.out.res
  obtain ⟨k0, k1, k2, k3, k4, k5⟩ := free6 HB.out.box
  go_wp2_with fail
  have HRS := Lib.hid (heap_put6 HB.out.res (.string ⟨#[]⟩) (.int .i64 0) (.int .i64 0) (.int .i64 0) (.int .i64 0) (.int .i64 0))
  have HW := Lib.hid (below_put6 HB.out.bel (Nat.le_succ _) (.string ⟨#[]⟩) (.int .i64 0) (.int .i64 0) (.int .i64 0) (.int .i64 0) (.int .i64 0))
  exact bodyPost_ret (results_sku rfl _ _ (w.heap.size + 1) _ _ _ _ _ _ rfl HRS.out) rfl ⟨rfl, HW.out⟩
theorem rmove_more (s : ByteArray) (a b c d e : Int) (n : Int) (wh : Int) (w : World) (hs : s.size ≤ 4398046511104) (hf : fitS ⟨s, a, b, c, d, e⟩ = true) (hn : ¬ n < 1) (hm : 1048576 < n) :
    Calls Tryz.prog 105 #[.agg #[.string s, .int .i64 a, .int .i64 b, .int .i64 c, .int .i64 d, .int .i64 e], .int .i64 wh, .int .i64 n] w fun z w' => z = .returned (.tuple #[.agg #[.string ⟨#[]⟩, .int .i64 0, .int .i64 0, .int .i64 0, .int .i64 0, .int .i64 0], .int .i64 11]) ∧ Below w.heap.size w w' := by
  have HF := Lib.hid (fun w => rsfit_is s a b c d e true w hs hf)
  clear hf
  have HB := Lib.hid (in2_new w (.string s) (.int .i64 a) (.int .i64 b) (.int .i64 c) (.int .i64 d) (.int .i64 e) (.string ⟨#[]⟩) (.int .i64 0) (.int .i64 0) (.int .i64 0) (.int .i64 0) (.int .i64 0))
  go_enter Tryz.func105, Tryz.ntmps105
  go_wp2_with fail
  refine (HF.out _).mono ?_
  rintro z w1 ⟨rfl, hb⟩
  have HB1 := Lib.hid (HB.out.keep hb)
  clear hb HB
  have HB := HB1; clear HB1
  obtain ⟨q0, q1, q2, q3, q4, q5⟩ := cells6 HB.out.box
  obtain ⟨z0, z1, z2, z3, z4, z5⟩ := cells6 HB.out.res
  obtain ⟨f0, f1, f2, f3, f4, f5⟩ := free6 HB.out.res
  obtain ⟨k0, k1, k2, k3, k4, k5⟩ := free6 HB.out.box
  go_wp2_with fail
  have HRS := Lib.hid (heap_put6 HB.out.res (.string ⟨#[]⟩) (.int .i64 0) (.int .i64 0) (.int .i64 0) (.int .i64 0) (.int .i64 0))
  have HW := Lib.hid (below_put6 HB.out.bel (Nat.le_succ _) (.string ⟨#[]⟩) (.int .i64 0) (.int .i64 0) (.int .i64 0) (.int .i64 0) (.int .i64 0))
  exact bodyPost_ret (results_sku rfl _ _ (w.heap.size + 1) _ _ _ _ _ _ rfl HRS.out) rfl ⟨rfl, HW.out⟩
theorem rmove1_short (s : ByteArray) (a b c d e : Int) (n : Int) (w : World) (hs : s.size ≤ 4398046511104) (hf : fitS ⟨s, a, b, c, d, e⟩ = true) (hn : ¬ n < 1) (hm : n ≤ 1048576) (g1 : 0 ≤ a) (h1 : a ≤ 1099511627776) (ho : a < n) :
    Calls Tryz.prog 105 #[.agg #[.string s, .int .i64 a, .int .i64 b, .int .i64 c, .int .i64 d, .int .i64 e], .int .i64 1, .int .i64 n] w fun z w' => z = .returned (.tuple #[.agg #[.string ⟨#[]⟩, .int .i64 0, .int .i64 0, .int .i64 0, .int .i64 0, .int .i64 0], .int .i64 6]) ∧ Below w.heap.size w w' := by
  have HF := Lib.hid (fun w => rsfit_is s a b c d e true w hs hf)
  clear hf
  have HB := Lib.hid (in2_new w (.string s) (.int .i64 a) (.int .i64 b) (.int .i64 c) (.int .i64 d) (.int .i64 e) (.string ⟨#[]⟩) (.int .i64 0) (.int .i64 0) (.int .i64 0) (.int .i64 0) (.int .i64 0))
  go_enter Tryz.func105, Tryz.ntmps105
  go_wp2_with fail
  refine (HF.out _).mono ?_
  rintro z w1 ⟨rfl, hb⟩
  have HB1 := Lib.hid (HB.out.keep hb)
  clear hb HB
  have HB := HB1; clear HB1
  obtain ⟨q0, q1, q2, q3, q4, q5⟩ := cells6 HB.out.box
  obtain ⟨z0, z1, z2, z3, z4, z5⟩ := cells6 HB.out.res
  obtain ⟨f0, f1, f2, f3, f4, f5⟩ := free6 HB.out.res
  obtain ⟨k0, k1, k2, k3, k4, k5⟩ := free6 HB.out.box
  go_wp2_with fail
  have HRS := Lib.hid (heap_put6 HB.out.res (.string ⟨#[]⟩) (.int .i64 0) (.int .i64 0) (.int .i64 0) (.int .i64 0) (.int .i64 0))
  have HW := Lib.hid (below_put6 HB.out.bel (Nat.le_succ _) (.string ⟨#[]⟩) (.int .i64 0) (.int .i64 0) (.int .i64 0) (.int .i64 0) (.int .i64 0))
  exact bodyPost_ret (results_sku rfl _ _ (w.heap.size + 1) _ _ _ _ _ _ rfl HRS.out) rfl ⟨rfl, HW.out⟩
theorem rmove1_yes (s : ByteArray) (a b c d e : Int) (n : Int) (w : World) (hs : s.size ≤ 4398046511104) (hf : fitS ⟨s, a, b, c, d, e⟩ = true) (hn : ¬ n < 1) (hm : n ≤ 1048576) (g1 : 0 ≤ a) (h1 : a ≤ 1099511627776) (g2 : 0 ≤ b) (h2 : b ≤ 1099511627776) (ho : ¬ a < n) :
    Calls Tryz.prog 105 #[.agg #[.string s, .int .i64 a, .int .i64 b, .int .i64 c, .int .i64 d, .int .i64 e], .int .i64 1, .int .i64 n] w fun z w' => z = .returned (.tuple #[.agg #[.string s, .int .i64 (a - n), .int .i64 (b + n), .int .i64 (c), .int .i64 (d), .int .i64 (e)], .int .i64 0]) ∧ Below w.heap.size w w' := by
  have HF := Lib.hid (fun w => rsfit_is s a b c d e true w hs hf)
  clear hf
  have HB := Lib.hid (in2_new w (.string s) (.int .i64 a) (.int .i64 b) (.int .i64 c) (.int .i64 d) (.int .i64 e) (.string ⟨#[]⟩) (.int .i64 0) (.int .i64 0) (.int .i64 0) (.int .i64 0) (.int .i64 0))
  go_enter Tryz.func105, Tryz.ntmps105
  go_wp2_with fail
  refine (HF.out _).mono ?_
  rintro z w1 ⟨rfl, hb⟩
  have HB1 := Lib.hid (HB.out.keep hb)
  clear hb HB
  have HB := HB1; clear HB1
  obtain ⟨q0, q1, q2, q3, q4, q5⟩ := cells6 HB.out.box
  obtain ⟨z0, z1, z2, z3, z4, z5⟩ := cells6 HB.out.res
  obtain ⟨f0, f1, f2, f3, f4, f5⟩ := free6 HB.out.res
  obtain ⟨k0, k1, k2, k3, k4, k5⟩ := free6 HB.out.box
  go_wp2_with fail
  have HRS := Lib.hid (heap_put6 (HB.out.set 1 2 (.int .i64 (a - n)) (.int .i64 (b + n))) (.string s) (.int .i64 (a - n)) (.int .i64 (b + n)) (.int .i64 (c)) (.int .i64 (d)) (.int .i64 (e)))
  have HW := Lib.hid (below_put6 (HB.out.setB 1 2 (.int .i64 (a - n)) (.int .i64 (b + n))) (Nat.le_succ _) (.string s) (.int .i64 (a - n)) (.int .i64 (b + n)) (.int .i64 (c)) (.int .i64 (d)) (.int .i64 (e)))
  exact bodyPost_ret (results_sku rfl _ _ (w.heap.size + 1) _ _ _ _ _ _ rfl HRS.out) rfl ⟨rfl, HW.out⟩
theorem rmove1_any (x : Sk) (n : Int) (w : World) (hs : x.nm.size ≤ 4398046511104) :
    Calls Tryz.prog 105 #[skV x, .int .i64 1, .int .i64 n] w fun z w' => z = .returned (.tuple #[skV (moveV x 1 n).1, .int .i64 (moveV x 1 n).2]) ∧ Below w.heap.size w w' := by
  obtain ⟨s, a, b, c, d, e⟩ := x
  unfold moveV
  cases hf : fitS ⟨s, a, b, c, d, e⟩ with
  | false =>
    rw [if_neg (by decide)]
    exact rmove_bad s a b c d e n _ w hs hf
  | true =>
    have g := fitS_iff.1 hf
    have u := g.up; have g1 := g.hand; have g2 := g.held; have g3 := g.kept; have g4 := g.sent; have g5 := g.most
    dsimp only at u g1 g2 g3 g4 g5
    rw [if_pos rfl]
    by_cases hn : n < 1
    · rw [if_neg (by omega)]
      exact rmove_less s a b c d e n _ w hs hf hn
    · by_cases hm : n ≤ 1048576
      · rw [if_pos ⟨by omega, hm⟩]
        rw [show fromV ⟨s, a, b, c, d, e⟩ 1 = a from rfl]
        by_cases ho : a < n
        · rw [if_pos ho]
          exact rmove1_short s a b c d e n w hs hf hn hm g1 u.1 ho
        · rw [if_neg ho]
          exact rmove1_yes s a b c d e n w hs hf hn hm g1 u.1 g2 u.2.1 ho
      · rw [if_neg (by omega)]
        exact rmove_more s a b c d e n _ w hs hf hn (by omega)
theorem rmove2_short (s : ByteArray) (a b c d e : Int) (n : Int) (w : World) (hs : s.size ≤ 4398046511104) (hf : fitS ⟨s, a, b, c, d, e⟩ = true) (hn : ¬ n < 1) (hm : n ≤ 1048576) (g2 : 0 ≤ b) (h2 : b ≤ 1099511627776) (ho : b < n) :
    Calls Tryz.prog 105 #[.agg #[.string s, .int .i64 a, .int .i64 b, .int .i64 c, .int .i64 d, .int .i64 e], .int .i64 2, .int .i64 n] w fun z w' => z = .returned (.tuple #[.agg #[.string ⟨#[]⟩, .int .i64 0, .int .i64 0, .int .i64 0, .int .i64 0, .int .i64 0], .int .i64 6]) ∧ Below w.heap.size w w' := by
  have HF := Lib.hid (fun w => rsfit_is s a b c d e true w hs hf)
  clear hf
  have HB := Lib.hid (in2_new w (.string s) (.int .i64 a) (.int .i64 b) (.int .i64 c) (.int .i64 d) (.int .i64 e) (.string ⟨#[]⟩) (.int .i64 0) (.int .i64 0) (.int .i64 0) (.int .i64 0) (.int .i64 0))
  go_enter Tryz.func105, Tryz.ntmps105
  go_wp2_with fail
  refine (HF.out _).mono ?_
  rintro z w1 ⟨rfl, hb⟩
  have HB1 := Lib.hid (HB.out.keep hb)
  clear hb HB
  have HB := HB1; clear HB1
  obtain ⟨q0, q1, q2, q3, q4, q5⟩ := cells6 HB.out.box
  obtain ⟨z0, z1, z2, z3, z4, z5⟩ := cells6 HB.out.res
  obtain ⟨f0, f1, f2, f3, f4, f5⟩ := free6 HB.out.res
  obtain ⟨k0, k1, k2, k3, k4, k5⟩ := free6 HB.out.box
  go_wp2_with fail
  have HRS := Lib.hid (heap_put6 HB.out.res (.string ⟨#[]⟩) (.int .i64 0) (.int .i64 0) (.int .i64 0) (.int .i64 0) (.int .i64 0))
  have HW := Lib.hid (below_put6 HB.out.bel (Nat.le_succ _) (.string ⟨#[]⟩) (.int .i64 0) (.int .i64 0) (.int .i64 0) (.int .i64 0) (.int .i64 0))
  exact bodyPost_ret (results_sku rfl _ _ (w.heap.size + 1) _ _ _ _ _ _ rfl HRS.out) rfl ⟨rfl, HW.out⟩
theorem rmove2_yes (s : ByteArray) (a b c d e : Int) (n : Int) (w : World) (hs : s.size ≤ 4398046511104) (hf : fitS ⟨s, a, b, c, d, e⟩ = true) (hn : ¬ n < 1) (hm : n ≤ 1048576) (g2 : 0 ≤ b) (h2 : b ≤ 1099511627776) (g1 : 0 ≤ a) (h1 : a ≤ 1099511627776) (ho : ¬ b < n) :
    Calls Tryz.prog 105 #[.agg #[.string s, .int .i64 a, .int .i64 b, .int .i64 c, .int .i64 d, .int .i64 e], .int .i64 2, .int .i64 n] w fun z w' => z = .returned (.tuple #[.agg #[.string s, .int .i64 (a + n), .int .i64 (b - n), .int .i64 (c), .int .i64 (d), .int .i64 (e)], .int .i64 0]) ∧ Below w.heap.size w w' := by
  have HF := Lib.hid (fun w => rsfit_is s a b c d e true w hs hf)
  clear hf
  have HB := Lib.hid (in2_new w (.string s) (.int .i64 a) (.int .i64 b) (.int .i64 c) (.int .i64 d) (.int .i64 e) (.string ⟨#[]⟩) (.int .i64 0) (.int .i64 0) (.int .i64 0) (.int .i64 0) (.int .i64 0))
  go_enter Tryz.func105, Tryz.ntmps105
  go_wp2_with fail
  refine (HF.out _).mono ?_
  rintro z w1 ⟨rfl, hb⟩
  have HB1 := Lib.hid (HB.out.keep hb)
  clear hb HB
  have HB := HB1; clear HB1
  obtain ⟨q0, q1, q2, q3, q4, q5⟩ := cells6 HB.out.box
  obtain ⟨z0, z1, z2, z3, z4, z5⟩ := cells6 HB.out.res
  obtain ⟨f0, f1, f2, f3, f4, f5⟩ := free6 HB.out.res
  obtain ⟨k0, k1, k2, k3, k4, k5⟩ := free6 HB.out.box
  go_wp2_with fail
  have HRS := Lib.hid (heap_put6 (HB.out.set 2 1 (.int .i64 (b - n)) (.int .i64 (a + n))) (.string s) (.int .i64 (a + n)) (.int .i64 (b - n)) (.int .i64 (c)) (.int .i64 (d)) (.int .i64 (e)))
  have HW := Lib.hid (below_put6 (HB.out.setB 2 1 (.int .i64 (b - n)) (.int .i64 (a + n))) (Nat.le_succ _) (.string s) (.int .i64 (a + n)) (.int .i64 (b - n)) (.int .i64 (c)) (.int .i64 (d)) (.int .i64 (e)))
  exact bodyPost_ret (results_sku rfl _ _ (w.heap.size + 1) _ _ _ _ _ _ rfl HRS.out) rfl ⟨rfl, HW.out⟩
theorem rmove2_any (x : Sk) (n : Int) (w : World) (hs : x.nm.size ≤ 4398046511104) :
    Calls Tryz.prog 105 #[skV x, .int .i64 2, .int .i64 n] w fun z w' => z = .returned (.tuple #[skV (moveV x 2 n).1, .int .i64 (moveV x 2 n).2]) ∧ Below w.heap.size w w' := by
  obtain ⟨s, a, b, c, d, e⟩ := x
  unfold moveV
  cases hf : fitS ⟨s, a, b, c, d, e⟩ with
  | false =>
    rw [if_neg (by decide)]
    exact rmove_bad s a b c d e n _ w hs hf
  | true =>
    have g := fitS_iff.1 hf
    have u := g.up; have g1 := g.hand; have g2 := g.held; have g3 := g.kept; have g4 := g.sent; have g5 := g.most
    dsimp only at u g1 g2 g3 g4 g5
    rw [if_pos rfl]
    by_cases hn : n < 1
    · rw [if_neg (by omega)]
      exact rmove_less s a b c d e n _ w hs hf hn
    · by_cases hm : n ≤ 1048576
      · rw [if_pos ⟨by omega, hm⟩]
        rw [show fromV ⟨s, a, b, c, d, e⟩ 2 = b from rfl]
        by_cases ho : b < n
        · rw [if_pos ho]
          exact rmove2_short s a b c d e n w hs hf hn hm g2 u.2.1 ho
        · rw [if_neg ho]
          exact rmove2_yes s a b c d e n w hs hf hn hm g2 u.2.1 g1 u.1 ho
      · rw [if_neg (by omega)]
        exact rmove_more s a b c d e n _ w hs hf hn (by omega)
theorem rmove3_short (s : ByteArray) (a b c d e : Int) (n : Int) (w : World) (hs : s.size ≤ 4398046511104) (hf : fitS ⟨s, a, b, c, d, e⟩ = true) (hn : ¬ n < 1) (hm : n ≤ 1048576) (g2 : 0 ≤ b) (h2 : b ≤ 1099511627776) (ho : b < n) :
    Calls Tryz.prog 105 #[.agg #[.string s, .int .i64 a, .int .i64 b, .int .i64 c, .int .i64 d, .int .i64 e], .int .i64 3, .int .i64 n] w fun z w' => z = .returned (.tuple #[.agg #[.string ⟨#[]⟩, .int .i64 0, .int .i64 0, .int .i64 0, .int .i64 0, .int .i64 0], .int .i64 6]) ∧ Below w.heap.size w w' := by
  have HF := Lib.hid (fun w => rsfit_is s a b c d e true w hs hf)
  clear hf
  have HB := Lib.hid (in2_new w (.string s) (.int .i64 a) (.int .i64 b) (.int .i64 c) (.int .i64 d) (.int .i64 e) (.string ⟨#[]⟩) (.int .i64 0) (.int .i64 0) (.int .i64 0) (.int .i64 0) (.int .i64 0))
  go_enter Tryz.func105, Tryz.ntmps105
  go_wp2_with fail
  refine (HF.out _).mono ?_
  rintro z w1 ⟨rfl, hb⟩
  have HB1 := Lib.hid (HB.out.keep hb)
  clear hb HB
  have HB := HB1; clear HB1
  obtain ⟨q0, q1, q2, q3, q4, q5⟩ := cells6 HB.out.box
  obtain ⟨z0, z1, z2, z3, z4, z5⟩ := cells6 HB.out.res
  obtain ⟨f0, f1, f2, f3, f4, f5⟩ := free6 HB.out.res
  obtain ⟨k0, k1, k2, k3, k4, k5⟩ := free6 HB.out.box
  go_wp2_with fail
  have HRS := Lib.hid (heap_put6 HB.out.res (.string ⟨#[]⟩) (.int .i64 0) (.int .i64 0) (.int .i64 0) (.int .i64 0) (.int .i64 0))
  have HW := Lib.hid (below_put6 HB.out.bel (Nat.le_succ _) (.string ⟨#[]⟩) (.int .i64 0) (.int .i64 0) (.int .i64 0) (.int .i64 0) (.int .i64 0))
  exact bodyPost_ret (results_sku rfl _ _ (w.heap.size + 1) _ _ _ _ _ _ rfl HRS.out) rfl ⟨rfl, HW.out⟩
theorem rmove3_yes (s : ByteArray) (a b c d e : Int) (n : Int) (w : World) (hs : s.size ≤ 4398046511104) (hf : fitS ⟨s, a, b, c, d, e⟩ = true) (hn : ¬ n < 1) (hm : n ≤ 1048576) (g2 : 0 ≤ b) (h2 : b ≤ 1099511627776) (g3 : 0 ≤ c) (h3 : c ≤ 1099511627776) (ho : ¬ b < n) :
    Calls Tryz.prog 105 #[.agg #[.string s, .int .i64 a, .int .i64 b, .int .i64 c, .int .i64 d, .int .i64 e], .int .i64 3, .int .i64 n] w fun z w' => z = .returned (.tuple #[.agg #[.string s, .int .i64 (a), .int .i64 (b - n), .int .i64 (c + n), .int .i64 (d), .int .i64 (e)], .int .i64 0]) ∧ Below w.heap.size w w' := by
  have HF := Lib.hid (fun w => rsfit_is s a b c d e true w hs hf)
  clear hf
  have HB := Lib.hid (in2_new w (.string s) (.int .i64 a) (.int .i64 b) (.int .i64 c) (.int .i64 d) (.int .i64 e) (.string ⟨#[]⟩) (.int .i64 0) (.int .i64 0) (.int .i64 0) (.int .i64 0) (.int .i64 0))
  go_enter Tryz.func105, Tryz.ntmps105
  go_wp2_with fail
  refine (HF.out _).mono ?_
  rintro z w1 ⟨rfl, hb⟩
  have HB1 := Lib.hid (HB.out.keep hb)
  clear hb HB
  have HB := HB1; clear HB1
  obtain ⟨q0, q1, q2, q3, q4, q5⟩ := cells6 HB.out.box
  obtain ⟨z0, z1, z2, z3, z4, z5⟩ := cells6 HB.out.res
  obtain ⟨f0, f1, f2, f3, f4, f5⟩ := free6 HB.out.res
  obtain ⟨k0, k1, k2, k3, k4, k5⟩ := free6 HB.out.box
  go_wp2_with fail
  have HRS := Lib.hid (heap_put6 (HB.out.set 2 3 (.int .i64 (b - n)) (.int .i64 (c + n))) (.string s) (.int .i64 (a)) (.int .i64 (b - n)) (.int .i64 (c + n)) (.int .i64 (d)) (.int .i64 (e)))
  have HW := Lib.hid (below_put6 (HB.out.setB 2 3 (.int .i64 (b - n)) (.int .i64 (c + n))) (Nat.le_succ _) (.string s) (.int .i64 (a)) (.int .i64 (b - n)) (.int .i64 (c + n)) (.int .i64 (d)) (.int .i64 (e)))
  exact bodyPost_ret (results_sku rfl _ _ (w.heap.size + 1) _ _ _ _ _ _ rfl HRS.out) rfl ⟨rfl, HW.out⟩
theorem rmove3_any (x : Sk) (n : Int) (w : World) (hs : x.nm.size ≤ 4398046511104) :
    Calls Tryz.prog 105 #[skV x, .int .i64 3, .int .i64 n] w fun z w' => z = .returned (.tuple #[skV (moveV x 3 n).1, .int .i64 (moveV x 3 n).2]) ∧ Below w.heap.size w w' := by
  obtain ⟨s, a, b, c, d, e⟩ := x
  unfold moveV
  cases hf : fitS ⟨s, a, b, c, d, e⟩ with
  | false =>
    rw [if_neg (by decide)]
    exact rmove_bad s a b c d e n _ w hs hf
  | true =>
    have g := fitS_iff.1 hf
    have u := g.up; have g1 := g.hand; have g2 := g.held; have g3 := g.kept; have g4 := g.sent; have g5 := g.most
    dsimp only at u g1 g2 g3 g4 g5
    rw [if_pos rfl]
    by_cases hn : n < 1
    · rw [if_neg (by omega)]
      exact rmove_less s a b c d e n _ w hs hf hn
    · by_cases hm : n ≤ 1048576
      · rw [if_pos ⟨by omega, hm⟩]
        rw [show fromV ⟨s, a, b, c, d, e⟩ 3 = b from rfl]
        by_cases ho : b < n
        · rw [if_pos ho]
          exact rmove3_short s a b c d e n w hs hf hn hm g2 u.2.1 ho
        · rw [if_neg ho]
          exact rmove3_yes s a b c d e n w hs hf hn hm g2 u.2.1 g3 u.2.2.1 ho
      · rw [if_neg (by omega)]
        exact rmove_more s a b c d e n _ w hs hf hn (by omega)
theorem rmove4_short (s : ByteArray) (a b c d e : Int) (n : Int) (w : World) (hs : s.size ≤ 4398046511104) (hf : fitS ⟨s, a, b, c, d, e⟩ = true) (hn : ¬ n < 1) (hm : n ≤ 1048576) (g3 : 0 ≤ c) (h3 : c ≤ 1099511627776) (ho : c < n) :
    Calls Tryz.prog 105 #[.agg #[.string s, .int .i64 a, .int .i64 b, .int .i64 c, .int .i64 d, .int .i64 e], .int .i64 4, .int .i64 n] w fun z w' => z = .returned (.tuple #[.agg #[.string ⟨#[]⟩, .int .i64 0, .int .i64 0, .int .i64 0, .int .i64 0, .int .i64 0], .int .i64 6]) ∧ Below w.heap.size w w' := by
  have HF := Lib.hid (fun w => rsfit_is s a b c d e true w hs hf)
  clear hf
  have HB := Lib.hid (in2_new w (.string s) (.int .i64 a) (.int .i64 b) (.int .i64 c) (.int .i64 d) (.int .i64 e) (.string ⟨#[]⟩) (.int .i64 0) (.int .i64 0) (.int .i64 0) (.int .i64 0) (.int .i64 0))
  go_enter Tryz.func105, Tryz.ntmps105
  go_wp2_with fail
  refine (HF.out _).mono ?_
  rintro z w1 ⟨rfl, hb⟩
  have HB1 := Lib.hid (HB.out.keep hb)
  clear hb HB
  have HB := HB1; clear HB1
  obtain ⟨q0, q1, q2, q3, q4, q5⟩ := cells6 HB.out.box
  obtain ⟨z0, z1, z2, z3, z4, z5⟩ := cells6 HB.out.res
  obtain ⟨f0, f1, f2, f3, f4, f5⟩ := free6 HB.out.res
  obtain ⟨k0, k1, k2, k3, k4, k5⟩ := free6 HB.out.box
  go_wp2_with fail
  have HRS := Lib.hid (heap_put6 HB.out.res (.string ⟨#[]⟩) (.int .i64 0) (.int .i64 0) (.int .i64 0) (.int .i64 0) (.int .i64 0))
  have HW := Lib.hid (below_put6 HB.out.bel (Nat.le_succ _) (.string ⟨#[]⟩) (.int .i64 0) (.int .i64 0) (.int .i64 0) (.int .i64 0) (.int .i64 0))
  exact bodyPost_ret (results_sku rfl _ _ (w.heap.size + 1) _ _ _ _ _ _ rfl HRS.out) rfl ⟨rfl, HW.out⟩
theorem rmove4_yes (s : ByteArray) (a b c d e : Int) (n : Int) (w : World) (hs : s.size ≤ 4398046511104) (hf : fitS ⟨s, a, b, c, d, e⟩ = true) (hn : ¬ n < 1) (hm : n ≤ 1048576) (g3 : 0 ≤ c) (h3 : c ≤ 1099511627776) (g2 : 0 ≤ b) (h2 : b ≤ 1099511627776) (ho : ¬ c < n) :
    Calls Tryz.prog 105 #[.agg #[.string s, .int .i64 a, .int .i64 b, .int .i64 c, .int .i64 d, .int .i64 e], .int .i64 4, .int .i64 n] w fun z w' => z = .returned (.tuple #[.agg #[.string s, .int .i64 (a), .int .i64 (b + n), .int .i64 (c - n), .int .i64 (d), .int .i64 (e)], .int .i64 0]) ∧ Below w.heap.size w w' := by
  have HF := Lib.hid (fun w => rsfit_is s a b c d e true w hs hf)
  clear hf
  have HB := Lib.hid (in2_new w (.string s) (.int .i64 a) (.int .i64 b) (.int .i64 c) (.int .i64 d) (.int .i64 e) (.string ⟨#[]⟩) (.int .i64 0) (.int .i64 0) (.int .i64 0) (.int .i64 0) (.int .i64 0))
  go_enter Tryz.func105, Tryz.ntmps105
  go_wp2_with fail
  refine (HF.out _).mono ?_
  rintro z w1 ⟨rfl, hb⟩
  have HB1 := Lib.hid (HB.out.keep hb)
  clear hb HB
  have HB := HB1; clear HB1
  obtain ⟨q0, q1, q2, q3, q4, q5⟩ := cells6 HB.out.box
  obtain ⟨z0, z1, z2, z3, z4, z5⟩ := cells6 HB.out.res
  obtain ⟨f0, f1, f2, f3, f4, f5⟩ := free6 HB.out.res
  obtain ⟨k0, k1, k2, k3, k4, k5⟩ := free6 HB.out.box
  go_wp2_with fail
  have HRS := Lib.hid (heap_put6 (HB.out.set 3 2 (.int .i64 (c - n)) (.int .i64 (b + n))) (.string s) (.int .i64 (a)) (.int .i64 (b + n)) (.int .i64 (c - n)) (.int .i64 (d)) (.int .i64 (e)))
  have HW := Lib.hid (below_put6 (HB.out.setB 3 2 (.int .i64 (c - n)) (.int .i64 (b + n))) (Nat.le_succ _) (.string s) (.int .i64 (a)) (.int .i64 (b + n)) (.int .i64 (c - n)) (.int .i64 (d)) (.int .i64 (e)))
  exact bodyPost_ret (results_sku rfl _ _ (w.heap.size + 1) _ _ _ _ _ _ rfl HRS.out) rfl ⟨rfl, HW.out⟩
theorem rmove4_any (x : Sk) (n : Int) (w : World) (hs : x.nm.size ≤ 4398046511104) :
    Calls Tryz.prog 105 #[skV x, .int .i64 4, .int .i64 n] w fun z w' => z = .returned (.tuple #[skV (moveV x 4 n).1, .int .i64 (moveV x 4 n).2]) ∧ Below w.heap.size w w' := by
  obtain ⟨s, a, b, c, d, e⟩ := x
  unfold moveV
  cases hf : fitS ⟨s, a, b, c, d, e⟩ with
  | false =>
    rw [if_neg (by decide)]
    exact rmove_bad s a b c d e n _ w hs hf
  | true =>
    have g := fitS_iff.1 hf
    have u := g.up; have g1 := g.hand; have g2 := g.held; have g3 := g.kept; have g4 := g.sent; have g5 := g.most
    dsimp only at u g1 g2 g3 g4 g5
    rw [if_pos rfl]
    by_cases hn : n < 1
    · rw [if_neg (by omega)]
      exact rmove_less s a b c d e n _ w hs hf hn
    · by_cases hm : n ≤ 1048576
      · rw [if_pos ⟨by omega, hm⟩]
        rw [show fromV ⟨s, a, b, c, d, e⟩ 4 = c from rfl]
        by_cases ho : c < n
        · rw [if_pos ho]
          exact rmove4_short s a b c d e n w hs hf hn hm g3 u.2.2.1 ho
        · rw [if_neg ho]
          exact rmove4_yes s a b c d e n w hs hf hn hm g3 u.2.2.1 g2 u.2.1 ho
      · rw [if_neg (by omega)]
        exact rmove_more s a b c d e n _ w hs hf hn (by omega)
theorem rmove5_short (s : ByteArray) (a b c d e : Int) (n : Int) (wh : Int) (w : World) (hs : s.size ≤ 4398046511104) (hf : fitS ⟨s, a, b, c, d, e⟩ = true) (e1 : wh ≠ 1) (e2 : wh ≠ 2) (e3 : wh ≠ 3) (e4 : wh ≠ 4) (hn : ¬ n < 1) (hm : n ≤ 1048576) (g3 : 0 ≤ c) (h3 : c ≤ 1099511627776) (ho : c < n) :
    Calls Tryz.prog 105 #[.agg #[.string s, .int .i64 a, .int .i64 b, .int .i64 c, .int .i64 d, .int .i64 e], .int .i64 wh, .int .i64 n] w fun z w' => z = .returned (.tuple #[.agg #[.string ⟨#[]⟩, .int .i64 0, .int .i64 0, .int .i64 0, .int .i64 0, .int .i64 0], .int .i64 6]) ∧ Below w.heap.size w w' := by
  have t1 : (wh == 1) = false := beq_eq_false_iff_ne.2 e1
  have t2 : (wh == 2) = false := beq_eq_false_iff_ne.2 e2
  have t3 : (wh == 3) = false := beq_eq_false_iff_ne.2 e3
  have t4 : (wh == 4) = false := beq_eq_false_iff_ne.2 e4
  clear e1 e2 e3 e4
  have HF := Lib.hid (fun w => rsfit_is s a b c d e true w hs hf)
  clear hf
  have HB := Lib.hid (in2_new w (.string s) (.int .i64 a) (.int .i64 b) (.int .i64 c) (.int .i64 d) (.int .i64 e) (.string ⟨#[]⟩) (.int .i64 0) (.int .i64 0) (.int .i64 0) (.int .i64 0) (.int .i64 0))
  go_enter Tryz.func105, Tryz.ntmps105
  go_wp2_with fail
  refine (HF.out _).mono ?_
  rintro z w1 ⟨rfl, hb⟩
  have HB1 := Lib.hid (HB.out.keep hb)
  clear hb HB
  have HB := HB1; clear HB1
  obtain ⟨q0, q1, q2, q3, q4, q5⟩ := cells6 HB.out.box
  obtain ⟨z0, z1, z2, z3, z4, z5⟩ := cells6 HB.out.res
  obtain ⟨f0, f1, f2, f3, f4, f5⟩ := free6 HB.out.res
  obtain ⟨k0, k1, k2, k3, k4, k5⟩ := free6 HB.out.box
  go_wp2_with fail
  have HRS := Lib.hid (heap_put6 HB.out.res (.string ⟨#[]⟩) (.int .i64 0) (.int .i64 0) (.int .i64 0) (.int .i64 0) (.int .i64 0))
  have HW := Lib.hid (below_put6 HB.out.bel (Nat.le_succ _) (.string ⟨#[]⟩) (.int .i64 0) (.int .i64 0) (.int .i64 0) (.int .i64 0) (.int .i64 0))
  exact bodyPost_ret (results_sku rfl _ _ (w.heap.size + 1) _ _ _ _ _ _ rfl HRS.out) rfl ⟨rfl, HW.out⟩
theorem rmove5_yes (s : ByteArray) (a b c d e : Int) (n : Int) (wh : Int) (w : World) (hs : s.size ≤ 4398046511104) (hf : fitS ⟨s, a, b, c, d, e⟩ = true) (e1 : wh ≠ 1) (e2 : wh ≠ 2) (e3 : wh ≠ 3) (e4 : wh ≠ 4) (hn : ¬ n < 1) (hm : n ≤ 1048576) (g3 : 0 ≤ c) (h3 : c ≤ 1099511627776) (g4 : 0 ≤ d) (h4 : d ≤ 1099511627776) (ho : ¬ c < n) :
    Calls Tryz.prog 105 #[.agg #[.string s, .int .i64 a, .int .i64 b, .int .i64 c, .int .i64 d, .int .i64 e], .int .i64 wh, .int .i64 n] w fun z w' => z = .returned (.tuple #[.agg #[.string s, .int .i64 (a), .int .i64 (b), .int .i64 (c - n), .int .i64 (d + n), .int .i64 (e)], .int .i64 0]) ∧ Below w.heap.size w w' := by
  have t1 : (wh == 1) = false := beq_eq_false_iff_ne.2 e1
  have t2 : (wh == 2) = false := beq_eq_false_iff_ne.2 e2
  have t3 : (wh == 3) = false := beq_eq_false_iff_ne.2 e3
  have t4 : (wh == 4) = false := beq_eq_false_iff_ne.2 e4
  clear e1 e2 e3 e4
  have HF := Lib.hid (fun w => rsfit_is s a b c d e true w hs hf)
  clear hf
  have HB := Lib.hid (in2_new w (.string s) (.int .i64 a) (.int .i64 b) (.int .i64 c) (.int .i64 d) (.int .i64 e) (.string ⟨#[]⟩) (.int .i64 0) (.int .i64 0) (.int .i64 0) (.int .i64 0) (.int .i64 0))
  go_enter Tryz.func105, Tryz.ntmps105
  go_wp2_with fail
  refine (HF.out _).mono ?_
  rintro z w1 ⟨rfl, hb⟩
  have HB1 := Lib.hid (HB.out.keep hb)
  clear hb HB
  have HB := HB1; clear HB1
  obtain ⟨q0, q1, q2, q3, q4, q5⟩ := cells6 HB.out.box
  obtain ⟨z0, z1, z2, z3, z4, z5⟩ := cells6 HB.out.res
  obtain ⟨f0, f1, f2, f3, f4, f5⟩ := free6 HB.out.res
  obtain ⟨k0, k1, k2, k3, k4, k5⟩ := free6 HB.out.box
  go_wp2_with fail
  have HRS := Lib.hid (heap_put6 (HB.out.set 3 4 (.int .i64 (c - n)) (.int .i64 (d + n))) (.string s) (.int .i64 (a)) (.int .i64 (b)) (.int .i64 (c - n)) (.int .i64 (d + n)) (.int .i64 (e)))
  have HW := Lib.hid (below_put6 (HB.out.setB 3 4 (.int .i64 (c - n)) (.int .i64 (d + n))) (Nat.le_succ _) (.string s) (.int .i64 (a)) (.int .i64 (b)) (.int .i64 (c - n)) (.int .i64 (d + n)) (.int .i64 (e)))
  exact bodyPost_ret (results_sku rfl _ _ (w.heap.size + 1) _ _ _ _ _ _ rfl HRS.out) rfl ⟨rfl, HW.out⟩
theorem rmove5_any (x : Sk) (wh : Int) (n : Int) (w : World) (e1 : wh ≠ 1) (e2 : wh ≠ 2) (e3 : wh ≠ 3) (e4 : wh ≠ 4) (hs : x.nm.size ≤ 4398046511104) :
    Calls Tryz.prog 105 #[skV x, .int .i64 wh, .int .i64 n] w fun z w' => z = .returned (.tuple #[skV (moveV x 5 n).1, .int .i64 (moveV x 5 n).2]) ∧ Below w.heap.size w w' := by
  obtain ⟨s, a, b, c, d, e⟩ := x
  unfold moveV
  cases hf : fitS ⟨s, a, b, c, d, e⟩ with
  | false =>
    rw [if_neg (by decide)]
    exact rmove_bad s a b c d e n _ w hs hf
  | true =>
    have g := fitS_iff.1 hf
    have u := g.up; have g1 := g.hand; have g2 := g.held; have g3 := g.kept; have g4 := g.sent; have g5 := g.most
    dsimp only at u g1 g2 g3 g4 g5
    rw [if_pos rfl]
    by_cases hn : n < 1
    · rw [if_neg (by omega)]
      exact rmove_less s a b c d e n _ w hs hf hn
    · by_cases hm : n ≤ 1048576
      · rw [if_pos ⟨by omega, hm⟩]
        rw [show fromV ⟨s, a, b, c, d, e⟩ 5 = c from rfl]
        by_cases ho : c < n
        · rw [if_pos ho]
          exact rmove5_short s a b c d e n wh w hs hf e1 e2 e3 e4 hn hm g3 u.2.2.1 ho
        · rw [if_neg ho]
          exact rmove5_yes s a b c d e n wh w hs hf e1 e2 e3 e4 hn hm g3 u.2.2.1 g4 u.2.2.2.1 ho
      · rw [if_neg (by omega)]
        exact rmove_more s a b c d e n _ w hs hf hn (by omega)
theorem moveV_other {x : Sk} {wh n : Int} (e1 : wh ≠ 1) (e2 : wh ≠ 2) (e3 : wh ≠ 3) (e4 : wh ≠ 4) : moveV x wh n = moveV x 5 n := by
  have h1 : fromV x wh = fromV x 5 := by unfold fromV; simp [e1, e2, e3]
  have h2 : turnV x wh n = turnV x 5 n := by unfold turnV; simp [e1, e2, e3, e4]
  unfold moveV; rw [h1, h2]
theorem rmove_any (x : Sk) (wh n : Int) (w : World) (hs : x.nm.size ≤ 4398046511104) :
    Calls Tryz.prog 105 #[skV x, .int .i64 wh, .int .i64 n] w fun z w' => z = .returned (.tuple #[skV (moveV x wh n).1, .int .i64 (moveV x wh n).2]) ∧ Below w.heap.size w w' := by
  by_cases e1 : wh = 1
  · subst e1; exact rmove1_any x n w hs
  by_cases e2 : wh = 2
  · subst e2; exact rmove2_any x n w hs
  by_cases e3 : wh = 3
  · subst e3; exact rmove3_any x n w hs
  by_cases e4 : wh = 4
  · subst e4; exact rmove4_any x n w hs
  rw [moveV_other e1 e2 e3 e4]
  exact rmove5_any x wh n w e1 e2 e3 e4 hs
theorem srestock_is (x : Sk) (n : Int) (y : Sk) (er : Int) (w : World) (hs : x.nm.size ≤ 4398046511104) (h : restockV x n = (y, er)) :
    Calls Tryz.prog 50 #[.agg #[.string x.nm, .int .i64 x.hand, .int .i64 x.held, .int .i64 x.kept, .int .i64 x.sent, .int .i64 x.inn], .int .i64 n] w fun z w' => z = .returned (.tuple #[.agg #[.string y.nm, .int .i64 y.hand, .int .i64 y.held, .int .i64 y.kept, .int .i64 y.sent, .int .i64 y.inn], .int .i64 er]) ∧ Below w.heap.size w w' := by
  have h2 := srestock_any x n w hs; rw [h] at h2; exact h2
theorem sadjust_is (x : Sk) (n : Int) (y : Sk) (er : Int) (w : World) (hs : x.nm.size ≤ 4398046511104) (h : adjustV x n = (y, er)) :
    Calls Tryz.prog 59 #[.agg #[.string x.nm, .int .i64 x.hand, .int .i64 x.held, .int .i64 x.kept, .int .i64 x.sent, .int .i64 x.inn], .int .i64 n] w fun z w' => z = .returned (.tuple #[.agg #[.string y.nm, .int .i64 y.hand, .int .i64 y.held, .int .i64 y.kept, .int .i64 y.sent, .int .i64 y.inn], .int .i64 er]) ∧ Below w.heap.size w w' := by
  have h2 := sadjust_any x n w hs; rw [h] at h2; exact h2
theorem rrestock_is (x : Sk) (n : Int) (y : Sk) (er : Int) (w : World) (hs : x.nm.size ≤ 4398046511104) (h : restockV x n = (y, er)) :
    Calls Tryz.prog 63 #[.agg #[.string x.nm, .int .i64 x.hand, .int .i64 x.held, .int .i64 x.kept, .int .i64 x.sent, .int .i64 x.inn], .int .i64 n] w fun z w' => z = .returned (.tuple #[.agg #[.string y.nm, .int .i64 y.hand, .int .i64 y.held, .int .i64 y.kept, .int .i64 y.sent, .int .i64 y.inn], .int .i64 er]) ∧ Below w.heap.size w w' := by
  have h2 := rrestock_any x n w hs; rw [h] at h2; exact h2
theorem radjust_is (x : Sk) (n : Int) (y : Sk) (er : Int) (w : World) (hs : x.nm.size ≤ 4398046511104) (h : adjustV x n = (y, er)) :
    Calls Tryz.prog 65 #[.agg #[.string x.nm, .int .i64 x.hand, .int .i64 x.held, .int .i64 x.kept, .int .i64 x.sent, .int .i64 x.inn], .int .i64 n] w fun z w' => z = .returned (.tuple #[.agg #[.string y.nm, .int .i64 y.hand, .int .i64 y.held, .int .i64 y.kept, .int .i64 y.sent, .int .i64 y.inn], .int .i64 er]) ∧ Below w.heap.size w w' := by
  have h2 := radjust_any x n w hs; rw [h] at h2; exact h2
theorem rmove_is (x : Sk) (wh n : Int) (y : Sk) (er : Int) (w : World) (hs : x.nm.size ≤ 4398046511104) (h : moveV x wh n = (y, er)) :
    Calls Tryz.prog 105 #[.agg #[.string x.nm, .int .i64 x.hand, .int .i64 x.held, .int .i64 x.kept, .int .i64 x.sent, .int .i64 x.inn], .int .i64 wh, .int .i64 n] w fun z w' => z = .returned (.tuple #[.agg #[.string y.nm, .int .i64 y.hand, .int .i64 y.held, .int .i64 y.kept, .int .i64 y.sent, .int .i64 y.inn], .int .i64 er]) ∧ Below w.heap.size w w' := by
  have h2 := rmove_any x wh n w hs; rw [h] at h2; exact h2
end Go.Proofs.YtjclkiabgemfpaaGreat
