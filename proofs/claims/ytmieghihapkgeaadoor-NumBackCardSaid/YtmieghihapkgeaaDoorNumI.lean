/-
  The walks of the four laws of layer 1: each returns true; what was there stays as it was. They ask that the table of powers of ten is as the program's text lays it.
-/
import Derived.Test.YtmieghihapkgeaaDoorNumH
namespace Go.Proofs.YtmieghihapkgeaaDoor
open Go.RowKit NumP

theorem numSums_long (a0 : Option Addr) (len cap : Nat) (a b : Int) (w : World) (h : 40 < len) (hbig : len ≤ 9223372036854775807) (ht : Tab w) :
    Calls Tryd.prog 3 #[.slice a0 len cap, .int .i64 a, .int .i64 b] w fun e w' => e = .returned (.bool true) ∧ Below w.heap.size w w' := by
  have HT := Lib.hid ht; clear ht
  go_enter Tryd.func3, Tryd.ntmps3
  go_wp2_with (go_at_call 7; refine (awake_any _ HT.out).mono ?_; rintro e w' ⟨rfl, hb⟩)
  go_ret
  exact ⟨rfl, hb⟩
theorem numSums_walk (a0 : Option Addr) (len cap : Nat) (xs : List Int) (a b : Int) (w : World) (hI : IntsAt w a0 len xs) (h : len ≤ 40) (ht : Tab w) :
    Calls Tryd.prog 3 #[.slice a0 len cap, .int .i64 a, .int .i64 b] w fun e w' => e = .returned (.bool true) ∧ Below w.heap.size w w' := by
  have HT := Lib.hid ht; clear ht
  have HI := Lib.hid hI; clear hI
  go_enter Tryd.func3, Tryd.ntmps3
  go_wp2_with fail
  refine (sum_any _ _ _ xs _ HI.out).mono ?_
  rintro e w' ⟨rfl, rfl⟩
  go_wp2_with fail
  refine (rsum_any _ _ _ xs _ HI.out).mono ?_
  rintro e w' ⟨rfl, rfl⟩
  generalize sumP xs = p1 at *
  go_wp2_with fail
  refine (less_any a b _).mono ?_
  rintro e w1 ⟨rfl, hb1⟩
  go_wp2_with fail
  refine (rless_any a b _).mono ?_
  rintro e w' ⟨rfl, rfl⟩
  generalize lessP a b = p2 at *
  go_wp2_with fail
  refine (fit_any a _).mono ?_
  rintro e w' ⟨rfl, rfl⟩
  go_wp2_with fail
  refine (rfit_any a _).mono ?_
  rintro e w' ⟨rfl, rfl⟩
  generalize amt a = p3 at *
  go_wp2_with fail
  refine (shift_any a b _).mono ?_
  rintro e w' ⟨rfl, rfl⟩
  go_wp2_with fail
  refine (rshift_any a b _).mono ?_
  rintro e w' ⟨rfl, rfl⟩
  generalize shiftP a b = p4 at *
  go_wp2_with fail
  refine (times_any a b _).mono ?_
  rintro e w2 ⟨rfl, hb2⟩
  have hc2 := hb1.trans (hb2.mono hb1.size)
  clear hb2
  go_wp2_with fail
  refine (rtimes_any a b _).mono ?_
  rintro e w' ⟨rfl, rfl⟩
  generalize timesP a b = p5 at *
  go_wp2_with fail
  refine (awake_any _ (HT.out.keep hc2)).mono ?_
  rintro e w3 ⟨rfl, hb3⟩
  have hc3 := hc2.trans (hb3.mono hc2.size)
  clear hb3
  go_wp2_with fail
  go_ret
  exact ⟨rfl, hc3⟩
theorem less_is (a b p q : Int) (w : World) (e1 : lessP a b = (p, q)) :
    Calls Tryd.prog 10 #[.int .i64 a, .int .i64 b] w fun e w' => e = .returned (.tuple #[.int .i64 p, .int .i64 q]) ∧ Below w.heap.size w w' := by
  have := less_any a b w
  rw [e1] at this
  exact this
theorem numThere_walk (a b : Int) (w : World) (ht : Tab w) :
    Calls Tryd.prog 5 #[.int .i64 a, .int .i64 b] w fun e w' => e = .returned (.bool true) ∧ Below w.heap.size w w' := by
  have HT := Lib.hid ht; clear ht
  by_cases hsh : (shiftP a b).2 = 0
  · obtain ⟨_, k1, k2, k3, k4, e1, e2⟩ := shiftP_ok hsh
    clear hsh
    have E1 := Lib.hid e1; have E2 := Lib.hid e2
    clear e1 e2
    by_cases hsu : (sumP [a, b]).2 = 0
    · obtain ⟨e3, e4⟩ := sumP_two_ok hsu
      clear hsu
      have E3 := Lib.hid e3; have E4 := Lib.hid e4
      clear e3 e4
      go_enter Tryd.func5, Tryd.ntmps5
      go_wp2_with fail
      refine (shift_is a b _ _ _ E1.out).mono ?_
      rintro e w' ⟨rfl, rfl⟩
      go_wp2_with fail
      refine (shift_is (a + b) (-b) _ _ _ E2.out).mono ?_
      rintro e w' ⟨rfl, rfl⟩
      go_wp2_with fail
      refine (sum_is _ _ _ [a, b] _ _ _ (intsAt_two w a b) E3.out).mono ?_
      rintro e w' ⟨rfl, rfl⟩
      have hb1 : Below w.heap.size w (w.alloc (.cells #[.int .i64 a, .int .i64 b] 3)) := (Below.refl _ _).alloc (Nat.le_refl _) _
      generalize (w.alloc (.cells #[.int .i64 a, .int .i64 b] 3)) = w1 at *
      go_wp2_with fail
      refine (sum_is _ _ _ [b, a] _ _ _ (intsAt_two w1 b a) ((sumP_comm b a).trans E3.out)).mono ?_
      rintro e w' ⟨rfl, rfl⟩
      have hc1 : Below w.heap.size w (w1.alloc (.cells #[.int .i64 b, .int .i64 a] 3)) := hb1.alloc hb1.size _
      generalize (w1.alloc (.cells #[.int .i64 b, .int .i64 a] 3)) = w2 at *
      go_wp2_with fail
      refine (less_is (a + b) b _ _ _ E4.out).mono ?_
      rintro e w3 ⟨rfl, hb3⟩
      have hc3 := hc1.trans (hb3.mono hc1.size)
      go_wp2_with fail
      refine (awake_any _ (HT.out.keep hc3)).mono ?_
      rintro e w4 ⟨rfl, hb4⟩
      have hc4 := hc3.trans (hb4.mono hc3.size)
      go_wp2_with fail
      go_ret
      exact ⟨rfl, hc4⟩
    · have hz := sumP_two_bad hsu
      have hn : ((sumP [a, b]).2 == 0) = false := beq_eq_false_iff_ne.2 hsu
      obtain ⟨s, g, e3⟩ : ∃ s g, sumP [a, b] = (s, g) := ⟨_, _, rfl⟩
      rw [e3] at hz hn
      have hz2 : s = 0 := hz
      have hn2 : (g == 0) = false := hn
      subst hz2
      clear hz hn hsu
      have E3 := Lib.hid e3
      clear e3
      go_enter Tryd.func5, Tryd.ntmps5
      go_wp2_with fail
      refine (shift_is a b _ _ _ E1.out).mono ?_
      rintro e w' ⟨rfl, rfl⟩
      go_wp2_with fail
      refine (shift_is (a + b) (-b) _ _ _ E2.out).mono ?_
      rintro e w' ⟨rfl, rfl⟩
      go_wp2_with fail
      refine (sum_is _ _ _ [a, b] _ _ _ (intsAt_two w a b) E3.out).mono ?_
      rintro e w' ⟨rfl, rfl⟩
      have hb1 : Below w.heap.size w (w.alloc (.cells #[.int .i64 a, .int .i64 b] 3)) := (Below.refl _ _).alloc (Nat.le_refl _) _
      generalize (w.alloc (.cells #[.int .i64 a, .int .i64 b] 3)) = w1 at *
      go_wp2_with fail
      refine (sum_is _ _ _ [b, a] _ _ _ (intsAt_two w1 b a) ((sumP_comm b a).trans E3.out)).mono ?_
      rintro e w' ⟨rfl, rfl⟩
      have hc1 : Below w.heap.size w (w1.alloc (.cells #[.int .i64 b, .int .i64 a] 3)) := hb1.alloc hb1.size _
      generalize (w1.alloc (.cells #[.int .i64 b, .int .i64 a] 3)) = w2 at *
      go_wp2_with fail
      have hc3 := hc1
      go_wp2_with fail
      refine (awake_any _ (HT.out.keep hc3)).mono ?_
      rintro e w4 ⟨rfl, hb4⟩
      have hc4 := hc3.trans (hb4.mono hc3.size)
      go_wp2_with fail
      go_ret
      exact ⟨rfl, hc4⟩
  · have hn1 : ((shiftP a b).2 == 0) = false := beq_eq_false_iff_ne.2 hsh
    obtain ⟨x, y, e1⟩ : ∃ x y, shiftP a b = (x, y) := ⟨_, _, rfl⟩
    rw [e1] at hn1
    have hn3 : (y == 0) = false := hn1
    clear hn1 hsh
    have E1 := Lib.hid e1
    clear e1
    by_cases hsu : (sumP [a, b]).2 = 0
    · obtain ⟨e3, e4⟩ := sumP_two_ok hsu
      clear hsu
      have E3 := Lib.hid e3; have E4 := Lib.hid e4
      clear e3 e4
      go_enter Tryd.func5, Tryd.ntmps5
      go_wp2_with fail
      refine (shift_is a b _ _ _ E1.out).mono ?_
      rintro e w' ⟨rfl, rfl⟩
      go_wp2_with fail
      refine (sum_is _ _ _ [a, b] _ _ _ (intsAt_two w a b) E3.out).mono ?_
      rintro e w' ⟨rfl, rfl⟩
      have hb1 : Below w.heap.size w (w.alloc (.cells #[.int .i64 a, .int .i64 b] 3)) := (Below.refl _ _).alloc (Nat.le_refl _) _
      generalize (w.alloc (.cells #[.int .i64 a, .int .i64 b] 3)) = w1 at *
      go_wp2_with fail
      refine (sum_is _ _ _ [b, a] _ _ _ (intsAt_two w1 b a) ((sumP_comm b a).trans E3.out)).mono ?_
      rintro e w' ⟨rfl, rfl⟩
      have hc1 : Below w.heap.size w (w1.alloc (.cells #[.int .i64 b, .int .i64 a] 3)) := hb1.alloc hb1.size _
      generalize (w1.alloc (.cells #[.int .i64 b, .int .i64 a] 3)) = w2 at *
      go_wp2_with fail
      refine (less_is (a + b) b _ _ _ E4.out).mono ?_
      rintro e w3 ⟨rfl, hb3⟩
      have hc3 := hc1.trans (hb3.mono hc1.size)
      go_wp2_with fail
      refine (awake_any _ (HT.out.keep hc3)).mono ?_
      rintro e w4 ⟨rfl, hb4⟩
      have hc4 := hc3.trans (hb4.mono hc3.size)
      go_wp2_with fail
      go_ret
      exact ⟨rfl, hc4⟩
    · have hz := sumP_two_bad hsu
      have hn : ((sumP [a, b]).2 == 0) = false := beq_eq_false_iff_ne.2 hsu
      obtain ⟨s, g, e3⟩ : ∃ s g, sumP [a, b] = (s, g) := ⟨_, _, rfl⟩
      rw [e3] at hz hn
      have hz2 : s = 0 := hz
      have hn2 : (g == 0) = false := hn
      subst hz2
      clear hz hn hsu
      have E3 := Lib.hid e3
      clear e3
      go_enter Tryd.func5, Tryd.ntmps5
      go_wp2_with fail
      refine (shift_is a b _ _ _ E1.out).mono ?_
      rintro e w' ⟨rfl, rfl⟩
      go_wp2_with fail
      refine (sum_is _ _ _ [a, b] _ _ _ (intsAt_two w a b) E3.out).mono ?_
      rintro e w' ⟨rfl, rfl⟩
      have hb1 : Below w.heap.size w (w.alloc (.cells #[.int .i64 a, .int .i64 b] 3)) := (Below.refl _ _).alloc (Nat.le_refl _) _
      generalize (w.alloc (.cells #[.int .i64 a, .int .i64 b] 3)) = w1 at *
      go_wp2_with fail
      refine (sum_is _ _ _ [b, a] _ _ _ (intsAt_two w1 b a) ((sumP_comm b a).trans E3.out)).mono ?_
      rintro e w' ⟨rfl, rfl⟩
      have hc1 : Below w.heap.size w (w1.alloc (.cells #[.int .i64 b, .int .i64 a] 3)) := hb1.alloc hb1.size _
      generalize (w1.alloc (.cells #[.int .i64 b, .int .i64 a] 3)) = w2 at *
      go_wp2_with fail
      have hc3 := hc1
      go_wp2_with fail
      refine (awake_any _ (HT.out.keep hc3)).mono ?_
      rintro e w4 ⟨rfl, hb4⟩
      have hc4 := hc3.trans (hb4.mono hc3.size)
      go_wp2_with fail
      go_ret
      exact ⟨rfl, hc4⟩
end Go.Proofs.YtmieghihapkgeaaDoor
