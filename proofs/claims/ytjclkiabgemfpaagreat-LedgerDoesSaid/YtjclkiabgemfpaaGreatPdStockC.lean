/-
  The contracts of stock's closures, of its move and of Hold, Release, Keep, Unkeep, Send.
-/
import Derived.Test.YtjclkiabgemfpaaGreatPdStockB
import Derived.Deep.QuietTactic
import Derived.BigQuiet
set_option linter.unusedVariables false
set_option maxRecDepth 4000
set_option maxRecDepth 4000
namespace Go.Proofs.YtjclkiabgemfpaaGreat
open Go.RowKit StockP
theorem pick1 (b : Nat) (w : World) :
    Calls Tryz.prog 92 #[.pointer (some ⟨b, 0, none⟩)] w fun z w' => z = .returned (.tuple #[.pointer (some ⟨b, 1, none⟩), .pointer (some ⟨b, 2, none⟩)]) ∧ Below w.heap.size w w' := by
  go_enter Tryz.func92, Tryz.ntmps92
  go_wp2
  go_quiet (fail)
  go_wp2
  go_ret2
  exact ⟨rfl, below_drewN (Below.refl _ _) _⟩
theorem pick2 (b : Nat) (w : World) :
    Calls Tryz.prog 100 #[.pointer (some ⟨b, 0, none⟩)] w fun z w' => z = .returned (.tuple #[.pointer (some ⟨b, 2, none⟩), .pointer (some ⟨b, 1, none⟩)]) ∧ Below w.heap.size w w' := by
  go_enter Tryz.func100, Tryz.ntmps100
  go_wp2
  go_quiet (fail)
  go_wp2
  go_ret2
  exact ⟨rfl, below_drewN (Below.refl _ _) _⟩
theorem pick3 (b : Nat) (w : World) :
    Calls Tryz.prog 95 #[.pointer (some ⟨b, 0, none⟩)] w fun z w' => z = .returned (.tuple #[.pointer (some ⟨b, 2, none⟩), .pointer (some ⟨b, 3, none⟩)]) ∧ Below w.heap.size w w' := by
  go_enter Tryz.func95, Tryz.ntmps95
  go_wp2
  go_quiet (fail)
  go_wp2
  go_ret2
  exact ⟨rfl, below_drewN (Below.refl _ _) _⟩
theorem pick4 (b : Nat) (w : World) :
    Calls Tryz.prog 101 #[.pointer (some ⟨b, 0, none⟩)] w fun z w' => z = .returned (.tuple #[.pointer (some ⟨b, 3, none⟩), .pointer (some ⟨b, 2, none⟩)]) ∧ Below w.heap.size w w' := by
  go_enter Tryz.func101, Tryz.ntmps101
  go_wp2
  go_quiet (fail)
  go_wp2
  go_ret2
  exact ⟨rfl, below_drewN (Below.refl _ _) _⟩
theorem pick5 (b : Nat) (w : World) :
    Calls Tryz.prog 97 #[.pointer (some ⟨b, 0, none⟩)] w fun z w' => z = .returned (.tuple #[.pointer (some ⟨b, 3, none⟩), .pointer (some ⟨b, 4, none⟩)]) ∧ Below w.heap.size w w' := by
  go_enter Tryz.func97, Tryz.ntmps97
  go_wp2
  go_quiet (fail)
  go_wp2
  go_ret2
  exact ⟨rfl, below_drewN (Below.refl _ _) _⟩
theorem move_bad (s : ByteArray) (a b c d e : Int) (n : Int) (f : Value) (w : World) (hs : s.size ≤ 4398046511104) (hf : fitS ⟨s, a, b, c, d, e⟩ = false) :
    Calls Tryz.prog 91 #[.agg #[.string s, .int .i64 a, .int .i64 b, .int .i64 c, .int .i64 d, .int .i64 e], .int .i64 n, f] w fun z w' => z = .returned (.tuple #[.agg #[.string ⟨#[]⟩, .int .i64 0, .int .i64 0, .int .i64 0, .int .i64 0, .int .i64 0], .int .i64 12]) ∧ Below w.heap.size w w' := by
  have HF := Lib.hid (fun w => sfit_is s a b c d e false w hs hf)
  clear hf
  have HB := Lib.hid (in2_new w (.string s) (.int .i64 a) (.int .i64 b) (.int .i64 c) (.int .i64 d) (.int .i64 e) (.string ⟨#[]⟩) (.int .i64 0) (.int .i64 0) (.int .i64 0) (.int .i64 0) (.int .i64 0))
  go_enter Tryz.func91, Tryz.ntmps91
  go_wp2_with fail
  refine (HF.out _).mono ?_
  rintro z w1 ⟨rfl, hb⟩
  have HB1 := Lib.hid (HB.out.keep hb)
  clear hb HB
  have HB := HB1; clear HB1
  obtain ⟨q0, q1, q2, q3, q4, q5⟩ := cells6 HB.out.box
  obtain ⟨z0, z1, z2, z3, z4, z5⟩ := cells6 HB.out.res
  obtain ⟨f0, f1, f2, f3, f4, f5⟩ := free6 HB.out.res
  obtain ⟨k0, k1, k2, k3, k4, k5⟩ := free6 HB.out.box
  go_wp2_with fail
  have HRS := Lib.hid (heap_put6 HB.out.res (.string ⟨#[]⟩) (.int .i64 0) (.int .i64 0) (.int .i64 0) (.int .i64 0) (.int .i64 0))
  have HW := Lib.hid (below_put6 HB.out.bel (Nat.le_succ _) (.string ⟨#[]⟩) (.int .i64 0) (.int .i64 0) (.int .i64 0) (.int .i64 0) (.int .i64 0))
  exact bodyPost_ret (results_sku rfl _ _ (w.heap.size + 1) _ _ _ _ _ _ rfl HRS.out) rfl ⟨rfl, HW.out⟩
theorem move_less (s : ByteArray) (a b c d e : Int) (n : Int) (f : Value) (w : World) (hs : s.size ≤ 4398046511104) (hf : fitS ⟨s, a, b, c, d, e⟩ = true) (hn : n < 1) :
    Calls Tryz.prog 91 #[.agg #[.string s, .int .i64 a, .int .i64 b, .int .i64 c, .int .i64 d, .int .i64 e], .int .i64 n, f] w fun z w' => z = .returned (.tuple #[.agg #[.string ⟨#[]⟩, .int .i64 0, .int .i64 0, .int .i64 0, .int .i64 0, .int .i64 0], .int .i64 11]) ∧ Below w.heap.size w w' := by
  have HF := Lib.hid (fun w => sfit_is s a b c d e true w hs hf)
  clear hf
  have HB := Lib.hid (in2_new w (.string s) (.int .i64 a) (.int .i64 b) (.int .i64 c) (.int .i64 d) (.int .i64 e) (.string ⟨#[]⟩) (.int .i64 0) (.int .i64 0) (.int .i64 0) (.int .i64 0) (.int .i64 0))
  go_enter Tryz.func91, Tryz.ntmps91
  go_wp2_with fail
  refine (HF.out _).mono ?_
  rintro z w1 ⟨rfl, hb⟩
  have HB1 := Lib.hid (HB.out.keep hb)
  clear hb HB
  have HB := HB1; clear HB1
  obtain ⟨q0, q1, q2, q3, q4, q5⟩ := cells6 HB.out.box
  obtain ⟨z0, z1, z2, z3, z4, z5⟩ := cells6 HB.out.res
  obtain ⟨f0, f1, f2, f3, f4, f5⟩ := free6 HB.out.res
  obtain ⟨k0, k1, k2, k3, k4, k5⟩ := free6 HB.out.box
  go_wp2_with fail
  have HRS := Lib.hid (heap_put6 HB.out.res (.string ⟨#[]⟩) (.int .i64 0) (.int .i64 0) (.int .i64 0) (.int .i64 0) (.int .i64 0))
  have HW := Lib.hid (below_put6 HB.out.bel (Nat.le_succ _) (.string ⟨#[]⟩) (.int .i64 0) (.int .i64 0) (.int .i64 0) (.int .i64 0) (.int .i64 0))
  exact bodyPost_ret (results_sku rfl _ _ (w.heap.size + 1) _ _ _ _ _ _ rfl HRS.out) rfl ⟨rfl, HW.out⟩
theorem move_more (s : ByteArray) (a b c d e : Int) (n : Int) (f : Value) (w : World) (hs : s.size ≤ 4398046511104) (hf : fitS ⟨s, a, b, c, d, e⟩ = true) (hn : ¬ n < 1) (hm : 1048576 < n) :
    Calls Tryz.prog 91 #[.agg #[.string s, .int .i64 a, .int .i64 b, .int .i64 c, .int .i64 d, .int .i64 e], .int .i64 n, f] w fun z w' => z = .returned (.tuple #[.agg #[.string ⟨#[]⟩, .int .i64 0, .int .i64 0, .int .i64 0, .int .i64 0, .int .i64 0], .int .i64 11]) ∧ Below w.heap.size w w' := by
  have HF := Lib.hid (fun w => sfit_is s a b c d e true w hs hf)
  clear hf
  have HB := Lib.hid (in2_new w (.string s) (.int .i64 a) (.int .i64 b) (.int .i64 c) (.int .i64 d) (.int .i64 e) (.string ⟨#[]⟩) (.int .i64 0) (.int .i64 0) (.int .i64 0) (.int .i64 0) (.int .i64 0))
  go_enter Tryz.func91, Tryz.ntmps91
  go_wp2_with fail
  refine (HF.out _).mono ?_
  rintro z w1 ⟨rfl, hb⟩
  have HB1 := Lib.hid (HB.out.keep hb)
  clear hb HB
  have HB := HB1; clear HB1
  obtain ⟨q0, q1, q2, q3, q4, q5⟩ := cells6 HB.out.box
  obtain ⟨z0, z1, z2, z3, z4, z5⟩ := cells6 HB.out.res
  obtain ⟨f0, f1, f2, f3, f4, f5⟩ := free6 HB.out.res
  obtain ⟨k0, k1, k2, k3, k4, k5⟩ := free6 HB.out.box
  go_wp2_with fail
  have HRS := Lib.hid (heap_put6 HB.out.res (.string ⟨#[]⟩) (.int .i64 0) (.int .i64 0) (.int .i64 0) (.int .i64 0) (.int .i64 0))
  have HW := Lib.hid (below_put6 HB.out.bel (Nat.le_succ _) (.string ⟨#[]⟩) (.int .i64 0) (.int .i64 0) (.int .i64 0) (.int .i64 0) (.int .i64 0))
  exact bodyPost_ret (results_sku rfl _ _ (w.heap.size + 1) _ _ _ _ _ _ rfl HRS.out) rfl ⟨rfl, HW.out⟩
theorem move1_short (s : ByteArray) (a b c d e : Int) (n : Int) (w : World) (hs : s.size ≤ 4398046511104) (hf : fitS ⟨s, a, b, c, d, e⟩ = true) (hn : ¬ n < 1) (hm : n ≤ 1048576) (g1 : 0 ≤ a) (h1 : a ≤ 1099511627776) (ho : a < n) :
    Calls Tryz.prog 91 #[.agg #[.string s, .int .i64 a, .int .i64 b, .int .i64 c, .int .i64 d, .int .i64 e], .int .i64 n, .func (.func 92) #[] #[]] w fun z w' => z = .returned (.tuple #[.agg #[.string ⟨#[]⟩, .int .i64 0, .int .i64 0, .int .i64 0, .int .i64 0, .int .i64 0], .int .i64 6]) ∧ Below w.heap.size w w' := by
  have HP := Lib.hid (pick1 w.heap.size)
  have HF := Lib.hid (fun w => sfit_is s a b c d e true w hs hf)
  clear hf
  have HB := Lib.hid (in2_new w (.string s) (.int .i64 a) (.int .i64 b) (.int .i64 c) (.int .i64 d) (.int .i64 e) (.string ⟨#[]⟩) (.int .i64 0) (.int .i64 0) (.int .i64 0) (.int .i64 0) (.int .i64 0))
  go_enter Tryz.func91, Tryz.ntmps91
  go_wp2_with fail
  refine (HF.out _).mono ?_
  rintro z w1 ⟨rfl, hb⟩
  have HB1 := Lib.hid (HB.out.keep hb)
  clear hb HB
  have HB := HB1; clear HB1
  obtain ⟨q0, q1, q2, q3, q4, q5⟩ := cells6 HB.out.box
  obtain ⟨z0, z1, z2, z3, z4, z5⟩ := cells6 HB.out.res
  obtain ⟨f0, f1, f2, f3, f4, f5⟩ := free6 HB.out.res
  obtain ⟨k0, k1, k2, k3, k4, k5⟩ := free6 HB.out.box
  go_wp2_with fail
  refine (HP.out _).mono ?_
  rintro z w2 ⟨rfl, hb⟩
  clear q0 q1 q2 q3 q4 q5 z0 z1 z2 z3 z4 z5 f0 f1 f2 f3 f4 f5 k0 k1 k2 k3 k4 k5
  have HB2 := Lib.hid (HB.out.keep hb)
  clear hb HB
  have HB := HB2; clear HB2
  obtain ⟨q0, q1, q2, q3, q4, q5⟩ := cells6 HB.out.box
  obtain ⟨z0, z1, z2, z3, z4, z5⟩ := cells6 HB.out.res
  obtain ⟨f0, f1, f2, f3, f4, f5⟩ := free6 HB.out.res
  obtain ⟨k0, k1, k2, k3, k4, k5⟩ := free6 HB.out.box
  go_wp2_with fail
  have HRS := Lib.hid (heap_put6 HB.out.res (.string ⟨#[]⟩) (.int .i64 0) (.int .i64 0) (.int .i64 0) (.int .i64 0) (.int .i64 0))
  have HW := Lib.hid (below_put6 HB.out.bel (Nat.le_succ _) (.string ⟨#[]⟩) (.int .i64 0) (.int .i64 0) (.int .i64 0) (.int .i64 0) (.int .i64 0))
  exact bodyPost_ret (results_sku rfl _ _ (w.heap.size + 1) _ _ _ _ _ _ rfl HRS.out) rfl ⟨rfl, HW.out⟩
theorem move1_yes (s : ByteArray) (a b c d e : Int) (n : Int) (w : World) (hs : s.size ≤ 4398046511104) (hf : fitS ⟨s, a, b, c, d, e⟩ = true) (hn : ¬ n < 1) (hm : n ≤ 1048576) (g1 : 0 ≤ a) (h1 : a ≤ 1099511627776) (g2 : 0 ≤ b) (h2 : b ≤ 1099511627776) (ho : ¬ a < n) :
    Calls Tryz.prog 91 #[.agg #[.string s, .int .i64 a, .int .i64 b, .int .i64 c, .int .i64 d, .int .i64 e], .int .i64 n, .func (.func 92) #[] #[]] w fun z w' => z = .returned (.tuple #[.agg #[.string s, .int .i64 (a - n), .int .i64 (b + n), .int .i64 (c), .int .i64 (d), .int .i64 (e)], .int .i64 0]) ∧ Below w.heap.size w w' := by
  have HP := Lib.hid (pick1 w.heap.size)
  have HF := Lib.hid (fun w => sfit_is s a b c d e true w hs hf)
  clear hf
  have HB := Lib.hid (in2_new w (.string s) (.int .i64 a) (.int .i64 b) (.int .i64 c) (.int .i64 d) (.int .i64 e) (.string ⟨#[]⟩) (.int .i64 0) (.int .i64 0) (.int .i64 0) (.int .i64 0) (.int .i64 0))
  go_enter Tryz.func91, Tryz.ntmps91
  go_wp2_with fail
  refine (HF.out _).mono ?_
  rintro z w1 ⟨rfl, hb⟩
  have HB1 := Lib.hid (HB.out.keep hb)
  clear hb HB
  have HB := HB1; clear HB1
  obtain ⟨q0, q1, q2, q3, q4, q5⟩ := cells6 HB.out.box
  obtain ⟨z0, z1, z2, z3, z4, z5⟩ := cells6 HB.out.res
  obtain ⟨f0, f1, f2, f3, f4, f5⟩ := free6 HB.out.res
  obtain ⟨k0, k1, k2, k3, k4, k5⟩ := free6 HB.out.box
  go_wp2_with fail
  refine (HP.out _).mono ?_
  rintro z w2 ⟨rfl, hb⟩
  clear q0 q1 q2 q3 q4 q5 z0 z1 z2 z3 z4 z5 f0 f1 f2 f3 f4 f5 k0 k1 k2 k3 k4 k5
  have HB2 := Lib.hid (HB.out.keep hb)
  clear hb HB
  have HB := HB2; clear HB2
  obtain ⟨q0, q1, q2, q3, q4, q5⟩ := cells6 HB.out.box
  obtain ⟨z0, z1, z2, z3, z4, z5⟩ := cells6 HB.out.res
  obtain ⟨f0, f1, f2, f3, f4, f5⟩ := free6 HB.out.res
  obtain ⟨k0, k1, k2, k3, k4, k5⟩ := free6 HB.out.box
  go_wp2_with fail
  have HRS := Lib.hid (heap_put6 (HB.out.set 1 2 (.int .i64 (a - n)) (.int .i64 (b + n))) (.string s) (.int .i64 (a - n)) (.int .i64 (b + n)) (.int .i64 (c)) (.int .i64 (d)) (.int .i64 (e)))
  have HW := Lib.hid (below_put6 (HB.out.setB 1 2 (.int .i64 (a - n)) (.int .i64 (b + n))) (Nat.le_succ _) (.string s) (.int .i64 (a - n)) (.int .i64 (b + n)) (.int .i64 (c)) (.int .i64 (d)) (.int .i64 (e)))
  exact bodyPost_ret (results_sku rfl _ _ (w.heap.size + 1) _ _ _ _ _ _ rfl HRS.out) rfl ⟨rfl, HW.out⟩
theorem move1_any (x : Sk) (n : Int) (w : World) (hs : x.nm.size ≤ 4398046511104) :
    Calls Tryz.prog 91 #[skV x, .int .i64 n, .func (.func 92) #[] #[]] w fun z w' => z = .returned (.tuple #[skV (moveV x 1 n).1, .int .i64 (moveV x 1 n).2]) ∧ Below w.heap.size w w' := by
  obtain ⟨s, a, b, c, d, e⟩ := x
  unfold moveV
  cases hf : fitS ⟨s, a, b, c, d, e⟩ with
  | false =>
    rw [if_neg (by decide)]
    exact move_bad s a b c d e n _ w hs hf
  | true =>
    have g := fitS_iff.1 hf
    have u := g.up; have g1 := g.hand; have g2 := g.held; have g3 := g.kept; have g4 := g.sent; have g5 := g.most
    dsimp only at u g1 g2 g3 g4 g5
    rw [if_pos rfl]
    by_cases hn : n < 1
    · rw [if_neg (by omega)]
      exact move_less s a b c d e n _ w hs hf hn
    · by_cases hm : n ≤ 1048576
      · rw [if_pos ⟨by omega, hm⟩]
        rw [show fromV ⟨s, a, b, c, d, e⟩ 1 = a from rfl]
        by_cases ho : a < n
        · rw [if_pos ho]
          exact move1_short s a b c d e n w hs hf hn hm g1 u.1 ho
        · rw [if_neg ho]
          exact move1_yes s a b c d e n w hs hf hn hm g1 u.1 g2 u.2.1 ho
      · rw [if_neg (by omega)]
        exact move_more s a b c d e n _ w hs hf hn (by omega)
theorem shold_any (x : Sk) (n : Int) (w : World) (hs : x.nm.size ≤ 4398046511104) :
    Calls Tryz.prog 52 #[skV x, .int .i64 n] w fun z w' => z = .returned (.tuple #[skV (moveV x 1 n).1, .int .i64 (moveV x 1 n).2]) ∧ Below w.heap.size w w' := by
  have HM := Lib.hid (fun w => move1_any x n w hs)
  generalize moveV x 1 n = m at *
  obtain ⟨y, er⟩ := m
  obtain ⟨s, a, b, c, d, e⟩ := x
  unfold skV at *
  dsimp only at *
  clear hs
  have HB := Lib.hid (in2_new w (.string s) (.int .i64 a) (.int .i64 b) (.int .i64 c) (.int .i64 d) (.int .i64 e) (.string ⟨#[]⟩) (.int .i64 0) (.int .i64 0) (.int .i64 0) (.int .i64 0) (.int .i64 0))
  go_enter Tryz.func52, Tryz.ntmps52
  go_wp2_with fail
  refine (HM.out _).mono ?_
  rintro z w1 ⟨rfl, hb⟩
  have HB1 := Lib.hid (HB.out.keep hb)
  clear hb HB
  have HB := HB1; clear HB1
  obtain ⟨q0, q1, q2, q3, q4, q5⟩ := cells6 HB.out.box
  obtain ⟨z0, z1, z2, z3, z4, z5⟩ := cells6 HB.out.res
  obtain ⟨f0, f1, f2, f3, f4, f5⟩ := free6 HB.out.res
  obtain ⟨k0, k1, k2, k3, k4, k5⟩ := free6 HB.out.box
  go_wp2_with fail
  have HRS := Lib.hid (heap_put6 HB.out.res (.string y.nm) (.int .i64 (y.hand)) (.int .i64 (y.held)) (.int .i64 (y.kept)) (.int .i64 (y.sent)) (.int .i64 (y.inn)))
  have HW := Lib.hid (below_put6 HB.out.bel (Nat.le_succ _) (.string y.nm) (.int .i64 (y.hand)) (.int .i64 (y.held)) (.int .i64 (y.kept)) (.int .i64 (y.sent)) (.int .i64 (y.inn)))
  exact bodyPost_ret (results_sku rfl _ _ (w.heap.size + 1) _ _ _ _ _ _ rfl HRS.out) rfl ⟨rfl, HW.out⟩
theorem move2_short (s : ByteArray) (a b c d e : Int) (n : Int) (w : World) (hs : s.size ≤ 4398046511104) (hf : fitS ⟨s, a, b, c, d, e⟩ = true) (hn : ¬ n < 1) (hm : n ≤ 1048576) (g2 : 0 ≤ b) (h2 : b ≤ 1099511627776) (ho : b < n) :
    Calls Tryz.prog 91 #[.agg #[.string s, .int .i64 a, .int .i64 b, .int .i64 c, .int .i64 d, .int .i64 e], .int .i64 n, .func (.func 100) #[] #[]] w fun z w' => z = .returned (.tuple #[.agg #[.string ⟨#[]⟩, .int .i64 0, .int .i64 0, .int .i64 0, .int .i64 0, .int .i64 0], .int .i64 6]) ∧ Below w.heap.size w w' := by
  have HP := Lib.hid (pick2 w.heap.size)
  have HF := Lib.hid (fun w => sfit_is s a b c d e true w hs hf)
  clear hf
  have HB := Lib.hid (in2_new w (.string s) (.int .i64 a) (.int .i64 b) (.int .i64 c) (.int .i64 d) (.int .i64 e) (.string ⟨#[]⟩) (.int .i64 0) (.int .i64 0) (.int .i64 0) (.int .i64 0) (.int .i64 0))
  go_enter Tryz.func91, Tryz.ntmps91
  go_wp2_with fail
  refine (HF.out _).mono ?_
  rintro z w1 ⟨rfl, hb⟩
  have HB1 := Lib.hid (HB.out.keep hb)
  clear hb HB
  have HB := HB1; clear HB1
  obtain ⟨q0, q1, q2, q3, q4, q5⟩ := cells6 HB.out.box
  obtain ⟨z0, z1, z2, z3, z4, z5⟩ := cells6 HB.out.res
  obtain ⟨f0, f1, f2, f3, f4, f5⟩ := free6 HB.out.res
  obtain ⟨k0, k1, k2, k3, k4, k5⟩ := free6 HB.out.box
  go_wp2_with fail
  refine (HP.out _).mono ?_
  rintro z w2 ⟨rfl, hb⟩
  clear q0 q1 q2 q3 q4 q5 z0 z1 z2 z3 z4 z5 f0 f1 f2 f3 f4 f5 k0 k1 k2 k3 k4 k5
  have HB2 := Lib.hid (HB.out.keep hb)
  clear hb HB
  have HB := HB2; clear HB2
  obtain ⟨q0, q1, q2, q3, q4, q5⟩ := cells6 HB.out.box
  obtain ⟨z0, z1, z2, z3, z4, z5⟩ := cells6 HB.out.res
  obtain ⟨f0, f1, f2, f3, f4, f5⟩ := free6 HB.out.res
  obtain ⟨k0, k1, k2, k3, k4, k5⟩ := free6 HB.out.box
  go_wp2_with fail
  have HRS := Lib.hid (heap_put6 HB.out.res (.string ⟨#[]⟩) (.int .i64 0) (.int .i64 0) (.int .i64 0) (.int .i64 0) (.int .i64 0))
  have HW := Lib.hid (below_put6 HB.out.bel (Nat.le_succ _) (.string ⟨#[]⟩) (.int .i64 0) (.int .i64 0) (.int .i64 0) (.int .i64 0) (.int .i64 0))
  exact bodyPost_ret (results_sku rfl _ _ (w.heap.size + 1) _ _ _ _ _ _ rfl HRS.out) rfl ⟨rfl, HW.out⟩
theorem move2_yes (s : ByteArray) (a b c d e : Int) (n : Int) (w : World) (hs : s.size ≤ 4398046511104) (hf : fitS ⟨s, a, b, c, d, e⟩ = true) (hn : ¬ n < 1) (hm : n ≤ 1048576) (g2 : 0 ≤ b) (h2 : b ≤ 1099511627776) (g1 : 0 ≤ a) (h1 : a ≤ 1099511627776) (ho : ¬ b < n) :
    Calls Tryz.prog 91 #[.agg #[.string s, .int .i64 a, .int .i64 b, .int .i64 c, .int .i64 d, .int .i64 e], .int .i64 n, .func (.func 100) #[] #[]] w fun z w' => z = .returned (.tuple #[.agg #[.string s, .int .i64 (a + n), .int .i64 (b - n), .int .i64 (c), .int .i64 (d), .int .i64 (e)], .int .i64 0]) ∧ Below w.heap.size w w' := by
  have HP := Lib.hid (pick2 w.heap.size)
  have HF := Lib.hid (fun w => sfit_is s a b c d e true w hs hf)
  clear hf
  have HB := Lib.hid (in2_new w (.string s) (.int .i64 a) (.int .i64 b) (.int .i64 c) (.int .i64 d) (.int .i64 e) (.string ⟨#[]⟩) (.int .i64 0) (.int .i64 0) (.int .i64 0) (.int .i64 0) (.int .i64 0))
  go_enter Tryz.func91, Tryz.ntmps91
  go_wp2_with fail
  refine (HF.out _).mono ?_
  rintro z w1 ⟨rfl, hb⟩
  have HB1 := Lib.hid (HB.out.keep hb)
  clear hb HB
  have HB := HB1; clear HB1
  obtain ⟨q0, q1, q2, q3, q4, q5⟩ := cells6 HB.out.box
  obtain ⟨z0, z1, z2, z3, z4, z5⟩ := cells6 HB.out.res
  obtain ⟨f0, f1, f2, f3, f4, f5⟩ := free6 HB.out.res
  obtain ⟨k0, k1, k2, k3, k4, k5⟩ := free6 HB.out.box
  go_wp2_with fail
  refine (HP.out _).mono ?_
  rintro z w2 ⟨rfl, hb⟩
  clear q0 q1 q2 q3 q4 q5 z0 z1 z2 z3 z4 z5 f0 f1 f2 f3 f4 f5 k0 k1 k2 k3 k4 k5
  have HB2 := Lib.hid (HB.out.keep hb)
  clear hb HB
  have HB := HB2; clear HB2
  obtain ⟨q0, q1, q2, q3, q4, q5⟩ := cells6 HB.out.box
  obtain ⟨z0, z1, z2, z3, z4, z5⟩ := cells6 HB.out.res
  obtain ⟨f0, f1, f2, f3, f4, f5⟩ := free6 HB.out.res
  obtain ⟨k0, k1, k2, k3, k4, k5⟩ := free6 HB.out.box
  go_wp2_with fail
  have HRS := Lib.hid (heap_put6 (HB.out.set 2 1 (.int .i64 (b - n)) (.int .i64 (a + n))) (.string s) (.int .i64 (a + n)) (.int .i64 (b - n)) (.int .i64 (c)) (.int .i64 (d)) (.int .i64 (e)))
  have HW := Lib.hid (below_put6 (HB.out.setB 2 1 (.int .i64 (b - n)) (.int .i64 (a + n))) (Nat.le_succ _) (.string s) (.int .i64 (a + n)) (.int .i64 (b - n)) (.int .i64 (c)) (.int .i64 (d)) (.int .i64 (e)))
  exact bodyPost_ret (results_sku rfl _ _ (w.heap.size + 1) _ _ _ _ _ _ rfl HRS.out) rfl ⟨rfl, HW.out⟩
theorem move2_any (x : Sk) (n : Int) (w : World) (hs : x.nm.size ≤ 4398046511104) :
    Calls Tryz.prog 91 #[skV x, .int .i64 n, .func (.func 100) #[] #[]] w fun z w' => z = .returned (.tuple #[skV (moveV x 2 n).1, .int .i64 (moveV x 2 n).2]) ∧ Below w.heap.size w w' := by
  obtain ⟨s, a, b, c, d, e⟩ := x
  unfold moveV
  cases hf : fitS ⟨s, a, b, c, d, e⟩ with
  | false =>
    rw [if_neg (by decide)]
    exact move_bad s a b c d e n _ w hs hf
  | true =>
    have g := fitS_iff.1 hf
    have u := g.up; have g1 := g.hand; have g2 := g.held; have g3 := g.kept; have g4 := g.sent; have g5 := g.most
    dsimp only at u g1 g2 g3 g4 g5
    rw [if_pos rfl]
    by_cases hn : n < 1
    · rw [if_neg (by omega)]
      exact move_less s a b c d e n _ w hs hf hn
    · by_cases hm : n ≤ 1048576
      · rw [if_pos ⟨by omega, hm⟩]
        rw [show fromV ⟨s, a, b, c, d, e⟩ 2 = b from rfl]
        by_cases ho : b < n
        · rw [if_pos ho]
          exact move2_short s a b c d e n w hs hf hn hm g2 u.2.1 ho
        · rw [if_neg ho]
          exact move2_yes s a b c d e n w hs hf hn hm g2 u.2.1 g1 u.1 ho
      · rw [if_neg (by omega)]
        exact move_more s a b c d e n _ w hs hf hn (by omega)
theorem srelease_any (x : Sk) (n : Int) (w : World) (hs : x.nm.size ≤ 4398046511104) :
    Calls Tryz.prog 60 #[skV x, .int .i64 n] w fun z w' => z = .returned (.tuple #[skV (moveV x 2 n).1, .int .i64 (moveV x 2 n).2]) ∧ Below w.heap.size w w' := by
  have HM := Lib.hid (fun w => move2_any x n w hs)
  generalize moveV x 2 n = m at *
  obtain ⟨y, er⟩ := m
  obtain ⟨s, a, b, c, d, e⟩ := x
  unfold skV at *
  dsimp only at *
  clear hs
  have HB := Lib.hid (in2_new w (.string s) (.int .i64 a) (.int .i64 b) (.int .i64 c) (.int .i64 d) (.int .i64 e) (.string ⟨#[]⟩) (.int .i64 0) (.int .i64 0) (.int .i64 0) (.int .i64 0) (.int .i64 0))
  go_enter Tryz.func60, Tryz.ntmps60
  go_wp2_with fail
  refine (HM.out _).mono ?_
  rintro z w1 ⟨rfl, hb⟩
  have HB1 := Lib.hid (HB.out.keep hb)
  clear hb HB
  have HB := HB1; clear HB1
  obtain ⟨q0, q1, q2, q3, q4, q5⟩ := cells6 HB.out.box
  obtain ⟨z0, z1, z2, z3, z4, z5⟩ := cells6 HB.out.res
  obtain ⟨f0, f1, f2, f3, f4, f5⟩ := free6 HB.out.res
  obtain ⟨k0, k1, k2, k3, k4, k5⟩ := free6 HB.out.box
  go_wp2_with fail
  have HRS := Lib.hid (heap_put6 HB.out.res (.string y.nm) (.int .i64 (y.hand)) (.int .i64 (y.held)) (.int .i64 (y.kept)) (.int .i64 (y.sent)) (.int .i64 (y.inn)))
  have HW := Lib.hid (below_put6 HB.out.bel (Nat.le_succ _) (.string y.nm) (.int .i64 (y.hand)) (.int .i64 (y.held)) (.int .i64 (y.kept)) (.int .i64 (y.sent)) (.int .i64 (y.inn)))
  exact bodyPost_ret (results_sku rfl _ _ (w.heap.size + 1) _ _ _ _ _ _ rfl HRS.out) rfl ⟨rfl, HW.out⟩
theorem move3_short (s : ByteArray) (a b c d e : Int) (n : Int) (w : World) (hs : s.size ≤ 4398046511104) (hf : fitS ⟨s, a, b, c, d, e⟩ = true) (hn : ¬ n < 1) (hm : n ≤ 1048576) (g2 : 0 ≤ b) (h2 : b ≤ 1099511627776) (ho : b < n) :
    Calls Tryz.prog 91 #[.agg #[.string s, .int .i64 a, .int .i64 b, .int .i64 c, .int .i64 d, .int .i64 e], .int .i64 n, .func (.func 95) #[] #[]] w fun z w' => z = .returned (.tuple #[.agg #[.string ⟨#[]⟩, .int .i64 0, .int .i64 0, .int .i64 0, .int .i64 0, .int .i64 0], .int .i64 6]) ∧ Below w.heap.size w w' := by
  have HP := Lib.hid (pick3 w.heap.size)
  have HF := Lib.hid (fun w => sfit_is s a b c d e true w hs hf)
  clear hf
  have HB := Lib.hid (in2_new w (.string s) (.int .i64 a) (.int .i64 b) (.int .i64 c) (.int .i64 d) (.int .i64 e) (.string ⟨#[]⟩) (.int .i64 0) (.int .i64 0) (.int .i64 0) (.int .i64 0) (.int .i64 0))
  go_enter Tryz.func91, Tryz.ntmps91
  go_wp2_with fail
  refine (HF.out _).mono ?_
  rintro z w1 ⟨rfl, hb⟩
  have HB1 := Lib.hid (HB.out.keep hb)
  clear hb HB
  have HB := HB1; clear HB1
  obtain ⟨q0, q1, q2, q3, q4, q5⟩ := cells6 HB.out.box
  obtain ⟨z0, z1, z2, z3, z4, z5⟩ := cells6 HB.out.res
  obtain ⟨f0, f1, f2, f3, f4, f5⟩ := free6 HB.out.res
  obtain ⟨k0, k1, k2, k3, k4, k5⟩ := free6 HB.out.box
  go_wp2_with fail
  refine (HP.out _).mono ?_
  rintro z w2 ⟨rfl, hb⟩
  clear q0 q1 q2 q3 q4 q5 z0 z1 z2 z3 z4 z5 f0 f1 f2 f3 f4 f5 k0 k1 k2 k3 k4 k5
  have HB2 := Lib.hid (HB.out.keep hb)
  clear hb HB
  have HB := HB2; clear HB2
  obtain ⟨q0, q1, q2, q3, q4, q5⟩ := cells6 HB.out.box
  obtain ⟨z0, z1, z2, z3, z4, z5⟩ := cells6 HB.out.res
  obtain ⟨f0, f1, f2, f3, f4, f5⟩ := free6 HB.out.res
  obtain ⟨k0, k1, k2, k3, k4, k5⟩ := free6 HB.out.box
  go_wp2_with fail
  have HRS := Lib.hid (heap_put6 HB.out.res (.string ⟨#[]⟩) (.int .i64 0) (.int .i64 0) (.int .i64 0) (.int .i64 0) (.int .i64 0))
  have HW := Lib.hid (below_put6 HB.out.bel (Nat.le_succ _) (.string ⟨#[]⟩) (.int .i64 0) (.int .i64 0) (.int .i64 0) (.int .i64 0) (.int .i64 0))
  exact bodyPost_ret (results_sku rfl _ _ (w.heap.size + 1) _ _ _ _ _ _ rfl HRS.out) rfl ⟨rfl, HW.out⟩
theorem move3_yes (s : ByteArray) (a b c d e : Int) (n : Int) (w : World) (hs : s.size ≤ 4398046511104) (hf : fitS ⟨s, a, b, c, d, e⟩ = true) (hn : ¬ n < 1) (hm : n ≤ 1048576) (g2 : 0 ≤ b) (h2 : b ≤ 1099511627776) (g3 : 0 ≤ c) (h3 : c ≤ 1099511627776) (ho : ¬ b < n) :
    Calls Tryz.prog 91 #[.agg #[.string s, .int .i64 a, .int .i64 b, .int .i64 c, .int .i64 d, .int .i64 e], .int .i64 n, .func (.func 95) #[] #[]] w fun z w' => z = .returned (.tuple #[.agg #[.string s, .int .i64 (a), .int .i64 (b - n), .int .i64 (c + n), .int .i64 (d), .int .i64 (e)], .int .i64 0]) ∧ Below w.heap.size w w' := by
  have HP := Lib.hid (pick3 w.heap.size)
  have HF := Lib.hid (fun w => sfit_is s a b c d e true w hs hf)
  clear hf
  have HB := Lib.hid (in2_new w (.string s) (.int .i64 a) (.int .i64 b) (.int .i64 c) (.int .i64 d) (.int .i64 e) (.string ⟨#[]⟩) (.int .i64 0) (.int .i64 0) (.int .i64 0) (.int .i64 0) (.int .i64 0))
  go_enter Tryz.func91, Tryz.ntmps91
  go_wp2_with fail
  refine (HF.out _).mono ?_
  rintro z w1 ⟨rfl, hb⟩
  have HB1 := Lib.hid (HB.out.keep hb)
  clear hb HB
  have HB := HB1; clear HB1
  obtain ⟨q0, q1, q2, q3, q4, q5⟩ := cells6 HB.out.box
  obtain ⟨z0, z1, z2, z3, z4, z5⟩ := cells6 HB.out.res
  obtain ⟨f0, f1, f2, f3, f4, f5⟩ := free6 HB.out.res
  obtain ⟨k0, k1, k2, k3, k4, k5⟩ := free6 HB.out.box
  go_wp2_with fail
  refine (HP.out _).mono ?_
  rintro z w2 ⟨rfl, hb⟩
  clear q0 q1 q2 q3 q4 q5 z0 z1 z2 z3 z4 z5 f0 f1 f2 f3 f4 f5 k0 k1 k2 k3 k4 k5
  have HB2 := Lib.hid (HB.out.keep hb)
  clear hb HB
  have HB := HB2; clear HB2
  obtain ⟨q0, q1, q2, q3, q4, q5⟩ := cells6 HB.out.box
  obtain ⟨z0, z1, z2, z3, z4, z5⟩ := cells6 HB.out.res
  obtain ⟨f0, f1, f2, f3, f4, f5⟩ := free6 HB.out.res
  obtain ⟨k0, k1, k2, k3, k4, k5⟩ := free6 HB.out.box
  go_wp2_with fail
  have HRS := Lib.hid (heap_put6 (HB.out.set 2 3 (.int .i64 (b - n)) (.int .i64 (c + n))) (.string s) (.int .i64 (a)) (.int .i64 (b - n)) (.int .i64 (c + n)) (.int .i64 (d)) (.int .i64 (e)))
  have HW := Lib.hid (below_put6 (HB.out.setB 2 3 (.int .i64 (b - n)) (.int .i64 (c + n))) (Nat.le_succ _) (.string s) (.int .i64 (a)) (.int .i64 (b - n)) (.int .i64 (c + n)) (.int .i64 (d)) (.int .i64 (e)))
  exact bodyPost_ret (results_sku rfl _ _ (w.heap.size + 1) _ _ _ _ _ _ rfl HRS.out) rfl ⟨rfl, HW.out⟩
theorem move3_any (x : Sk) (n : Int) (w : World) (hs : x.nm.size ≤ 4398046511104) :
    Calls Tryz.prog 91 #[skV x, .int .i64 n, .func (.func 95) #[] #[]] w fun z w' => z = .returned (.tuple #[skV (moveV x 3 n).1, .int .i64 (moveV x 3 n).2]) ∧ Below w.heap.size w w' := by
  obtain ⟨s, a, b, c, d, e⟩ := x
  unfold moveV
  cases hf : fitS ⟨s, a, b, c, d, e⟩ with
  | false =>
    rw [if_neg (by decide)]
    exact move_bad s a b c d e n _ w hs hf
  | true =>
    have g := fitS_iff.1 hf
    have u := g.up; have g1 := g.hand; have g2 := g.held; have g3 := g.kept; have g4 := g.sent; have g5 := g.most
    dsimp only at u g1 g2 g3 g4 g5
    rw [if_pos rfl]
    by_cases hn : n < 1
    · rw [if_neg (by omega)]
      exact move_less s a b c d e n _ w hs hf hn
    · by_cases hm : n ≤ 1048576
      · rw [if_pos ⟨by omega, hm⟩]
        rw [show fromV ⟨s, a, b, c, d, e⟩ 3 = b from rfl]
        by_cases ho : b < n
        · rw [if_pos ho]
          exact move3_short s a b c d e n w hs hf hn hm g2 u.2.1 ho
        · rw [if_neg ho]
          exact move3_yes s a b c d e n w hs hf hn hm g2 u.2.1 g3 u.2.2.1 ho
      · rw [if_neg (by omega)]
        exact move_more s a b c d e n _ w hs hf hn (by omega)
theorem skeep_any (x : Sk) (n : Int) (w : World) (hs : x.nm.size ≤ 4398046511104) :
    Calls Tryz.prog 54 #[skV x, .int .i64 n] w fun z w' => z = .returned (.tuple #[skV (moveV x 3 n).1, .int .i64 (moveV x 3 n).2]) ∧ Below w.heap.size w w' := by
  have HM := Lib.hid (fun w => move3_any x n w hs)
  generalize moveV x 3 n = m at *
  obtain ⟨y, er⟩ := m
  obtain ⟨s, a, b, c, d, e⟩ := x
  unfold skV at *
  dsimp only at *
  clear hs
  have HB := Lib.hid (in2_new w (.string s) (.int .i64 a) (.int .i64 b) (.int .i64 c) (.int .i64 d) (.int .i64 e) (.string ⟨#[]⟩) (.int .i64 0) (.int .i64 0) (.int .i64 0) (.int .i64 0) (.int .i64 0))
  go_enter Tryz.func54, Tryz.ntmps54
  go_wp2_with fail
  refine (HM.out _).mono ?_
  rintro z w1 ⟨rfl, hb⟩
  have HB1 := Lib.hid (HB.out.keep hb)
  clear hb HB
  have HB := HB1; clear HB1
  obtain ⟨q0, q1, q2, q3, q4, q5⟩ := cells6 HB.out.box
  obtain ⟨z0, z1, z2, z3, z4, z5⟩ := cells6 HB.out.res
  obtain ⟨f0, f1, f2, f3, f4, f5⟩ := free6 HB.out.res
  obtain ⟨k0, k1, k2, k3, k4, k5⟩ := free6 HB.out.box
  go_wp2_with fail
  have HRS := Lib.hid (heap_put6 HB.out.res (.string y.nm) (.int .i64 (y.hand)) (.int .i64 (y.held)) (.int .i64 (y.kept)) (.int .i64 (y.sent)) (.int .i64 (y.inn)))
  have HW := Lib.hid (below_put6 HB.out.bel (Nat.le_succ _) (.string y.nm) (.int .i64 (y.hand)) (.int .i64 (y.held)) (.int .i64 (y.kept)) (.int .i64 (y.sent)) (.int .i64 (y.inn)))
  exact bodyPost_ret (results_sku rfl _ _ (w.heap.size + 1) _ _ _ _ _ _ rfl HRS.out) rfl ⟨rfl, HW.out⟩
theorem move4_short (s : ByteArray) (a b c d e : Int) (n : Int) (w : World) (hs : s.size ≤ 4398046511104) (hf : fitS ⟨s, a, b, c, d, e⟩ = true) (hn : ¬ n < 1) (hm : n ≤ 1048576) (g3 : 0 ≤ c) (h3 : c ≤ 1099511627776) (ho : c < n) :
    Calls Tryz.prog 91 #[.agg #[.string s, .int .i64 a, .int .i64 b, .int .i64 c, .int .i64 d, .int .i64 e], .int .i64 n, .func (.func 101) #[] #[]] w fun z w' => z = .returned (.tuple #[.agg #[.string ⟨#[]⟩, .int .i64 0, .int .i64 0, .int .i64 0, .int .i64 0, .int .i64 0], .int .i64 6]) ∧ Below w.heap.size w w' := by
  have HP := Lib.hid (pick4 w.heap.size)
  have HF := Lib.hid (fun w => sfit_is s a b c d e true w hs hf)
  clear hf
  have HB := Lib.hid (in2_new w (.string s) (.int .i64 a) (.int .i64 b) (.int .i64 c) (.int .i64 d) (.int .i64 e) (.string ⟨#[]⟩) (.int .i64 0) (.int .i64 0) (.int .i64 0) (.int .i64 0) (.int .i64 0))
  go_enter Tryz.func91, Tryz.ntmps91
  go_wp2_with fail
  refine (HF.out _).mono ?_
  rintro z w1 ⟨rfl, hb⟩
  have HB1 := Lib.hid (HB.out.keep hb)
  clear hb HB
  have HB := HB1; clear HB1
  obtain ⟨q0, q1, q2, q3, q4, q5⟩ := cells6 HB.out.box
  obtain ⟨z0, z1, z2, z3, z4, z5⟩ := cells6 HB.out.res
  obtain ⟨f0, f1, f2, f3, f4, f5⟩ := free6 HB.out.res
  obtain ⟨k0, k1, k2, k3, k4, k5⟩ := free6 HB.out.box
  go_wp2_with fail
  refine (HP.out _).mono ?_
  rintro z w2 ⟨rfl, hb⟩
  clear q0 q1 q2 q3 q4 q5 z0 z1 z2 z3 z4 z5 f0 f1 f2 f3 f4 f5 k0 k1 k2 k3 k4 k5
  have HB2 := Lib.hid (HB.out.keep hb)
  clear hb HB
  have HB := HB2; clear HB2
  obtain ⟨q0, q1, q2, q3, q4, q5⟩ := cells6 HB.out.box
  obtain ⟨z0, z1, z2, z3, z4, z5⟩ := cells6 HB.out.res
  obtain ⟨f0, f1, f2, f3, f4, f5⟩ := free6 HB.out.res
  obtain ⟨k0, k1, k2, k3, k4, k5⟩ := free6 HB.out.box
  go_wp2_with fail
  have HRS := Lib.hid (heap_put6 HB.out.res (.string ⟨#[]⟩) (.int .i64 0) (.int .i64 0) (.int .i64 0) (.int .i64 0) (.int .i64 0))
  have HW := Lib.hid (below_put6 HB.out.bel (Nat.le_succ _) (.string ⟨#[]⟩) (.int .i64 0) (.int .i64 0) (.int .i64 0) (.int .i64 0) (.int .i64 0))
  exact bodyPost_ret (results_sku rfl _ _ (w.heap.size + 1) _ _ _ _ _ _ rfl HRS.out) rfl ⟨rfl, HW.out⟩
theorem move4_yes (s : ByteArray) (a b c d e : Int) (n : Int) (w : World) (hs : s.size ≤ 4398046511104) (hf : fitS ⟨s, a, b, c, d, e⟩ = true) (hn : ¬ n < 1) (hm : n ≤ 1048576) (g3 : 0 ≤ c) (h3 : c ≤ 1099511627776) (g2 : 0 ≤ b) (h2 : b ≤ 1099511627776) (ho : ¬ c < n) :
    Calls Tryz.prog 91 #[.agg #[.string s, .int .i64 a, .int .i64 b, .int .i64 c, .int .i64 d, .int .i64 e], .int .i64 n, .func (.func 101) #[] #[]] w fun z w' => z = .returned (.tuple #[.agg #[.string s, .int .i64 (a), .int .i64 (b + n), .int .i64 (c - n), .int .i64 (d), .int .i64 (e)], .int .i64 0]) ∧ Below w.heap.size w w' := by
  have HP := Lib.hid (pick4 w.heap.size)
  have HF := Lib.hid (fun w => sfit_is s a b c d e true w hs hf)
  clear hf
  have HB := Lib.hid (in2_new w (.string s) (.int .i64 a) (.int .i64 b) (.int .i64 c) (.int .i64 d) (.int .i64 e) (.string ⟨#[]⟩) (.int .i64 0) (.int .i64 0) (.int .i64 0) (.int .i64 0) (.int .i64 0))
  go_enter Tryz.func91, Tryz.ntmps91
  go_wp2_with fail
  refine (HF.out _).mono ?_
  rintro z w1 ⟨rfl, hb⟩
  have HB1 := Lib.hid (HB.out.keep hb)
  clear hb HB
  have HB := HB1; clear HB1
  obtain ⟨q0, q1, q2, q3, q4, q5⟩ := cells6 HB.out.box
  obtain ⟨z0, z1, z2, z3, z4, z5⟩ := cells6 HB.out.res
  obtain ⟨f0, f1, f2, f3, f4, f5⟩ := free6 HB.out.res
  obtain ⟨k0, k1, k2, k3, k4, k5⟩ := free6 HB.out.box
  go_wp2_with fail
  refine (HP.out _).mono ?_
  rintro z w2 ⟨rfl, hb⟩
  clear q0 q1 q2 q3 q4 q5 z0 z1 z2 z3 z4 z5 f0 f1 f2 f3 f4 f5 k0 k1 k2 k3 k4 k5
  have HB2 := Lib.hid (HB.out.keep hb)
  clear hb HB
  have HB := HB2; clear HB2
  obtain ⟨q0, q1, q2, q3, q4, q5⟩ := cells6 HB.out.box
  obtain ⟨z0, z1, z2, z3, z4, z5⟩ := cells6 HB.out.res
  obtain ⟨f0, f1, f2, f3, f4, f5⟩ := free6 HB.out.res
  obtain ⟨k0, k1, k2, k3, k4, k5⟩ := free6 HB.out.box
  go_wp2_with fail
  have HRS := Lib.hid (heap_put6 (HB.out.set 3 2 (.int .i64 (c - n)) (.int .i64 (b + n))) (.string s) (.int .i64 (a)) (.int .i64 (b + n)) (.int .i64 (c - n)) (.int .i64 (d)) (.int .i64 (e)))
  have HW := Lib.hid (below_put6 (HB.out.setB 3 2 (.int .i64 (c - n)) (.int .i64 (b + n))) (Nat.le_succ _) (.string s) (.int .i64 (a)) (.int .i64 (b + n)) (.int .i64 (c - n)) (.int .i64 (d)) (.int .i64 (e)))
  exact bodyPost_ret (results_sku rfl _ _ (w.heap.size + 1) _ _ _ _ _ _ rfl HRS.out) rfl ⟨rfl, HW.out⟩
theorem move4_any (x : Sk) (n : Int) (w : World) (hs : x.nm.size ≤ 4398046511104) :
    Calls Tryz.prog 91 #[skV x, .int .i64 n, .func (.func 101) #[] #[]] w fun z w' => z = .returned (.tuple #[skV (moveV x 4 n).1, .int .i64 (moveV x 4 n).2]) ∧ Below w.heap.size w w' := by
  obtain ⟨s, a, b, c, d, e⟩ := x
  unfold moveV
  cases hf : fitS ⟨s, a, b, c, d, e⟩ with
  | false =>
    rw [if_neg (by decide)]
    exact move_bad s a b c d e n _ w hs hf
  | true =>
    have g := fitS_iff.1 hf
    have u := g.up; have g1 := g.hand; have g2 := g.held; have g3 := g.kept; have g4 := g.sent; have g5 := g.most
    dsimp only at u g1 g2 g3 g4 g5
    rw [if_pos rfl]
    by_cases hn : n < 1
    · rw [if_neg (by omega)]
      exact move_less s a b c d e n _ w hs hf hn
    · by_cases hm : n ≤ 1048576
      · rw [if_pos ⟨by omega, hm⟩]
        rw [show fromV ⟨s, a, b, c, d, e⟩ 4 = c from rfl]
        by_cases ho : c < n
        · rw [if_pos ho]
          exact move4_short s a b c d e n w hs hf hn hm g3 u.2.2.1 ho
        · rw [if_neg ho]
          exact move4_yes s a b c d e n w hs hf hn hm g3 u.2.2.1 g2 u.2.1 ho
      · rw [if_neg (by omega)]
        exact move_more s a b c d e n _ w hs hf hn (by omega)
theorem sunkeep_any (x : Sk) (n : Int) (w : World) (hs : x.nm.size ≤ 4398046511104) :
    Calls Tryz.prog 61 #[skV x, .int .i64 n] w fun z w' => z = .returned (.tuple #[skV (moveV x 4 n).1, .int .i64 (moveV x 4 n).2]) ∧ Below w.heap.size w w' := by
  have HM := Lib.hid (fun w => move4_any x n w hs)
  generalize moveV x 4 n = m at *
  obtain ⟨y, er⟩ := m
  obtain ⟨s, a, b, c, d, e⟩ := x
  unfold skV at *
  dsimp only at *
  clear hs
  have HB := Lib.hid (in2_new w (.string s) (.int .i64 a) (.int .i64 b) (.int .i64 c) (.int .i64 d) (.int .i64 e) (.string ⟨#[]⟩) (.int .i64 0) (.int .i64 0) (.int .i64 0) (.int .i64 0) (.int .i64 0))
  go_enter Tryz.func61, Tryz.ntmps61
  go_wp2_with fail
  refine (HM.out _).mono ?_
  rintro z w1 ⟨rfl, hb⟩
  have HB1 := Lib.hid (HB.out.keep hb)
  clear hb HB
  have HB := HB1; clear HB1
  obtain ⟨q0, q1, q2, q3, q4, q5⟩ := cells6 HB.out.box
  obtain ⟨z0, z1, z2, z3, z4, z5⟩ := cells6 HB.out.res
  obtain ⟨f0, f1, f2, f3, f4, f5⟩ := free6 HB.out.res
  obtain ⟨k0, k1, k2, k3, k4, k5⟩ := free6 HB.out.box
  go_wp2_with fail
  have HRS := Lib.hid (heap_put6 HB.out.res (.string y.nm) (.int .i64 (y.hand)) (.int .i64 (y.held)) (.int .i64 (y.kept)) (.int .i64 (y.sent)) (.int .i64 (y.inn)))
  have HW := Lib.hid (below_put6 HB.out.bel (Nat.le_succ _) (.string y.nm) (.int .i64 (y.hand)) (.int .i64 (y.held)) (.int .i64 (y.kept)) (.int .i64 (y.sent)) (.int .i64 (y.inn)))
  exact bodyPost_ret (results_sku rfl _ _ (w.heap.size + 1) _ _ _ _ _ _ rfl HRS.out) rfl ⟨rfl, HW.out⟩
theorem move5_short (s : ByteArray) (a b c d e : Int) (n : Int) (w : World) (hs : s.size ≤ 4398046511104) (hf : fitS ⟨s, a, b, c, d, e⟩ = true) (hn : ¬ n < 1) (hm : n ≤ 1048576) (g3 : 0 ≤ c) (h3 : c ≤ 1099511627776) (ho : c < n) :
    Calls Tryz.prog 91 #[.agg #[.string s, .int .i64 a, .int .i64 b, .int .i64 c, .int .i64 d, .int .i64 e], .int .i64 n, .func (.func 97) #[] #[]] w fun z w' => z = .returned (.tuple #[.agg #[.string ⟨#[]⟩, .int .i64 0, .int .i64 0, .int .i64 0, .int .i64 0, .int .i64 0], .int .i64 6]) ∧ Below w.heap.size w w' := by
  have HP := Lib.hid (pick5 w.heap.size)
  have HF := Lib.hid (fun w => sfit_is s a b c d e true w hs hf)
  clear hf
  have HB := Lib.hid (in2_new w (.string s) (.int .i64 a) (.int .i64 b) (.int .i64 c) (.int .i64 d) (.int .i64 e) (.string ⟨#[]⟩) (.int .i64 0) (.int .i64 0) (.int .i64 0) (.int .i64 0) (.int .i64 0))
  go_enter Tryz.func91, Tryz.ntmps91
  go_wp2_with fail
  refine (HF.out _).mono ?_
  rintro z w1 ⟨rfl, hb⟩
  have HB1 := Lib.hid (HB.out.keep hb)
  clear hb HB
  have HB := HB1; clear HB1
  obtain ⟨q0, q1, q2, q3, q4, q5⟩ := cells6 HB.out.box
  obtain ⟨z0, z1, z2, z3, z4, z5⟩ := cells6 HB.out.res
  obtain ⟨f0, f1, f2, f3, f4, f5⟩ := free6 HB.out.res
  obtain ⟨k0, k1, k2, k3, k4, k5⟩ := free6 HB.out.box
  go_wp2_with fail
  refine (HP.out _).mono ?_
  rintro z w2 ⟨rfl, hb⟩
  clear q0 q1 q2 q3 q4 q5 z0 z1 z2 z3 z4 z5 f0 f1 f2 f3 f4 f5 k0 k1 k2 k3 k4 k5
  have HB2 := Lib.hid (HB.out.keep hb)
  clear hb HB
  have HB := HB2; clear HB2
  obtain ⟨q0, q1, q2, q3, q4, q5⟩ := cells6 HB.out.box
  obtain ⟨z0, z1, z2, z3, z4, z5⟩ := cells6 HB.out.res
  obtain ⟨f0, f1, f2, f3, f4, f5⟩ := free6 HB.out.res
  obtain ⟨k0, k1, k2, k3, k4, k5⟩ := free6 HB.out.box
  go_wp2_with fail
  have HRS := Lib.hid (heap_put6 HB.out.res (.string ⟨#[]⟩) (.int .i64 0) (.int .i64 0) (.int .i64 0) (.int .i64 0) (.int .i64 0))
  have HW := Lib.hid (below_put6 HB.out.bel (Nat.le_succ _) (.string ⟨#[]⟩) (.int .i64 0) (.int .i64 0) (.int .i64 0) (.int .i64 0) (.int .i64 0))
  exact bodyPost_ret (results_sku rfl _ _ (w.heap.size + 1) _ _ _ _ _ _ rfl HRS.out) rfl ⟨rfl, HW.out⟩
theorem move5_yes (s : ByteArray) (a b c d e : Int) (n : Int) (w : World) (hs : s.size ≤ 4398046511104) (hf : fitS ⟨s, a, b, c, d, e⟩ = true) (hn : ¬ n < 1) (hm : n ≤ 1048576) (g3 : 0 ≤ c) (h3 : c ≤ 1099511627776) (g4 : 0 ≤ d) (h4 : d ≤ 1099511627776) (ho : ¬ c < n) :
    Calls Tryz.prog 91 #[.agg #[.string s, .int .i64 a, .int .i64 b, .int .i64 c, .int .i64 d, .int .i64 e], .int .i64 n, .func (.func 97) #[] #[]] w fun z w' => z = .returned (.tuple #[.agg #[.string s, .int .i64 (a), .int .i64 (b), .int .i64 (c - n), .int .i64 (d + n), .int .i64 (e)], .int .i64 0]) ∧ Below w.heap.size w w' := by
  have HP := Lib.hid (pick5 w.heap.size)
  have HF := Lib.hid (fun w => sfit_is s a b c d e true w hs hf)
  clear hf
  have HB := Lib.hid (in2_new w (.string s) (.int .i64 a) (.int .i64 b) (.int .i64 c) (.int .i64 d) (.int .i64 e) (.string ⟨#[]⟩) (.int .i64 0) (.int .i64 0) (.int .i64 0) (.int .i64 0) (.int .i64 0))
  go_enter Tryz.func91, Tryz.ntmps91
  go_wp2_with fail
  refine (HF.out _).mono ?_
  rintro z w1 ⟨rfl, hb⟩
  have HB1 := Lib.hid (HB.out.keep hb)
  clear hb HB
  have HB := HB1; clear HB1
  obtain ⟨q0, q1, q2, q3, q4, q5⟩ := cells6 HB.out.box
  obtain ⟨z0, z1, z2, z3, z4, z5⟩ := cells6 HB.out.res
  obtain ⟨f0, f1, f2, f3, f4, f5⟩ := free6 HB.out.res
  obtain ⟨k0, k1, k2, k3, k4, k5⟩ := free6 HB.out.box
  go_wp2_with fail
  refine (HP.out _).mono ?_
  rintro z w2 ⟨rfl, hb⟩
  clear q0 q1 q2 q3 q4 q5 z0 z1 z2 z3 z4 z5 f0 f1 f2 f3 f4 f5 k0 k1 k2 k3 k4 k5
  have HB2 := Lib.hid (HB.out.keep hb)
  clear hb HB
  have HB := HB2; clear HB2
  obtain ⟨q0, q1, q2, q3, q4, q5⟩ := cells6 HB.out.box
  obtain ⟨z0, z1, z2, z3, z4, z5⟩ := cells6 HB.out.res
  obtain ⟨f0, f1, f2, f3, f4, f5⟩ := free6 HB.out.res
  obtain ⟨k0, k1, k2, k3, k4, k5⟩ := free6 HB.out.box
  go_wp2_with fail
  have HRS := Lib.hid (heap_put6 (HB.out.set 3 4 (.int .i64 (c - n)) (.int .i64 (d + n))) (.string s) (.int .i64 (a)) (.int .i64 (b)) (.int .i64 (c - n)) (.int .i64 (d + n)) (.int .i64 (e)))
  have HW := Lib.hid (below_put6 (HB.out.setB 3 4 (.int .i64 (c - n)) (.int .i64 (d + n))) (Nat.le_succ _) (.string s) (.int .i64 (a)) (.int .i64 (b)) (.int .i64 (c - n)) (.int .i64 (d + n)) (.int .i64 (e)))
  exact bodyPost_ret (results_sku rfl _ _ (w.heap.size + 1) _ _ _ _ _ _ rfl HRS.out) rfl ⟨rfl, HW.out⟩
theorem move5_any (x : Sk) (n : Int) (w : World) (hs : x.nm.size ≤ 4398046511104) :
    Calls Tryz.prog 91 #[skV x, .int .i64 n, .func (.func 97) #[] #[]] w fun z w' => z = .returned (.tuple #[skV (moveV x 5 n).1, .int .i64 (moveV x 5 n).2]) ∧ Below w.heap.size w w' := by
  obtain ⟨s, a, b, c, d, e⟩ := x
  unfold moveV
  cases hf : fitS ⟨s, a, b, c, d, e⟩ with
  | false =>
    rw [if_neg (by decide)]
    exact move_bad s a b c d e n _ w hs hf
  | true =>
    have g := fitS_iff.1 hf
    have u := g.up; have g1 := g.hand; have g2 := g.held; have g3 := g.kept; have g4 := g.sent; have g5 := g.most
    dsimp only at u g1 g2 g3 g4 g5
    rw [if_pos rfl]
    by_cases hn : n < 1
    · rw [if_neg (by omega)]
      exact move_less s a b c d e n _ w hs hf hn
    · by_cases hm : n ≤ 1048576
      · rw [if_pos ⟨by omega, hm⟩]
        rw [show fromV ⟨s, a, b, c, d, e⟩ 5 = c from rfl]
        by_cases ho : c < n
        · rw [if_pos ho]
          exact move5_short s a b c d e n w hs hf hn hm g3 u.2.2.1 ho
        · rw [if_neg ho]
          exact move5_yes s a b c d e n w hs hf hn hm g3 u.2.2.1 g4 u.2.2.2.1 ho
      · rw [if_neg (by omega)]
        exact move_more s a b c d e n _ w hs hf hn (by omega)
theorem ssend_any (x : Sk) (n : Int) (w : World) (hs : x.nm.size ≤ 4398046511104) :
    Calls Tryz.prog 57 #[skV x, .int .i64 n] w fun z w' => z = .returned (.tuple #[skV (moveV x 5 n).1, .int .i64 (moveV x 5 n).2]) ∧ Below w.heap.size w w' := by
  have HM := Lib.hid (fun w => move5_any x n w hs)
  generalize moveV x 5 n = m at *
  obtain ⟨y, er⟩ := m
  obtain ⟨s, a, b, c, d, e⟩ := x
  unfold skV at *
  dsimp only at *
  clear hs
  have HB := Lib.hid (in2_new w (.string s) (.int .i64 a) (.int .i64 b) (.int .i64 c) (.int .i64 d) (.int .i64 e) (.string ⟨#[]⟩) (.int .i64 0) (.int .i64 0) (.int .i64 0) (.int .i64 0) (.int .i64 0))
  go_enter Tryz.func57, Tryz.ntmps57
  go_wp2_with fail
  refine (HM.out _).mono ?_
  rintro z w1 ⟨rfl, hb⟩
  have HB1 := Lib.hid (HB.out.keep hb)
  clear hb HB
  have HB := HB1; clear HB1
  obtain ⟨q0, q1, q2, q3, q4, q5⟩ := cells6 HB.out.box
  obtain ⟨z0, z1, z2, z3, z4, z5⟩ := cells6 HB.out.res
  obtain ⟨f0, f1, f2, f3, f4, f5⟩ := free6 HB.out.res
  obtain ⟨k0, k1, k2, k3, k4, k5⟩ := free6 HB.out.box
  go_wp2_with fail
  have HRS := Lib.hid (heap_put6 HB.out.res (.string y.nm) (.int .i64 (y.hand)) (.int .i64 (y.held)) (.int .i64 (y.kept)) (.int .i64 (y.sent)) (.int .i64 (y.inn)))
  have HW := Lib.hid (below_put6 HB.out.bel (Nat.le_succ _) (.string y.nm) (.int .i64 (y.hand)) (.int .i64 (y.held)) (.int .i64 (y.kept)) (.int .i64 (y.sent)) (.int .i64 (y.inn)))
  exact bodyPost_ret (results_sku rfl _ _ (w.heap.size + 1) _ _ _ _ _ _ rfl HRS.out) rfl ⟨rfl, HW.out⟩
end Go.Proofs.YtjclkiabgemfpaaGreat
