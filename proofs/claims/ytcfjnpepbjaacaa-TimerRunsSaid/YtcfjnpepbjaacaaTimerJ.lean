/-
  The laws' awake, and TimerSets; what was there stays as it was.
-/
import Derived.Test.YtcfjnpepbjaacaaTimerI
import Derived.Test.YtcfjnpepbjaacaaTimerFr
set_option linter.unusedVariables false
set_option linter.unusedSimpArgs false
set_option maxRecDepth 4000
namespace Go.Proofs.Ytcfjnpepbjaacaa.Timer
open Go.RowKit TimerP
open Go.Proofs.Ytcfjnpepbjaacaa.Kt

theorem first_is (a : Option Addr) (len cap : Nat) (l : List Tm) (n z0 z1 z2 : Int) (b : Bool) (hz : getT (firstT n l) = ⟨z0, z1, z2⟩) (hb : (firstT n l).isSome = b) (w : World) (h : TmAt w a len l) :
    Calls Try.prog 9 #[.slice a len cap, .int .i64 n] w fun e w' => e = .returned (.tuple #[.agg #[.int .i64 z0, .int .i64 z1, .int .i64 z2], .bool b]) ∧ Below w.heap.size w w' := by
  have := first_any a len cap l n _ rfl w h
  rw [hz, hb] at this
  exact this
theorem set_is (a : Option Addr) (len cap : Nat) (l m : List Tm) (er : Int) (hcap : len ≤ cap) (x0 x1 x2 : Int) (hs : setT l ⟨x0, x1, x2⟩ = (m, er)) (w : World) (h : TmAt w a len l) :
    Calls Try.prog 16 #[.slice a len cap, .agg #[.int .i64 x0, .int .i64 x1, .int .i64 x2]] w (SetR w m er) := by
  have := set_any a len cap l hcap x0 x1 x2 w h
  rw [hs] at this
  exact this
theorem drop_is (a : Option Addr) (len cap : Nat) (l m : List Tm) (g q : Int) (hm : dropT g q l = m) (hlen : len ≤ 1000000) (w : World) (h : TmAt w a len l) :
    Calls Try.prog 14 #[.slice a len cap, .int .i64 g, .int .i64 q] w (RowP w m) := by
  have := drop_any a len cap l g q hlen w h
  rw [hm] at this
  exact this
theorem aw1 : setT [] ⟨5, 1, 1⟩ = ([⟨5, 1, 1⟩], 0) := by rfl
theorem aw2 : setT [⟨5, 1, 1⟩] ⟨3, 2, 1⟩ = ([⟨3, 2, 1⟩, ⟨5, 1, 1⟩], 0) := by rfl
theorem aw3 : fitB [⟨3, 2, 1⟩, ⟨5, 1, 1⟩] = true := by rfl
theorem aw4 : dropT 2 0 [⟨3, 2, 1⟩, ⟨5, 1, 1⟩] = [⟨5, 1, 1⟩] := by rfl

set_option maxHeartbeats 2000000 in
theorem awake_any (w : World) : Calls Try.prog 6 #[] w fun e w' => e = .returned (.bool true) ∧ Below w.heap.size w w' := by
  have C1 := Lib.hid (set_is none 0 0 [] _ 0 (Nat.le_refl _) 5 1 1 aw1 w (Rw.At.nil _ _ _))
  go_enter Try.func6, Try.ntmps6
  go_wp2_with fail
  refine C1.out.mono ?_
  rintro e w1 ⟨a1, n1, c1, rfl, hc1, hA1, hb1⟩
  obtain rfl : 1 = n1 := hA1.1
  have C2 := Lib.hid (set_is a1 1 c1 _ _ 0 hc1 3 2 1 aw2 w1 hA1)
  have B1 := Lib.hid hb1
  clear hc1 hA1 hb1 C1
  go_wp2_with fail
  refine C2.out.mono ?_
  rintro e w2 ⟨a2, n2, c2, rfl, hc2, hA2, hb2⟩
  obtain rfl : 2 = n2 := hA2.1
  have B2 := Lib.hid (below_keep B1.out hb2 B1.out.size)
  have HA2 := Lib.hid hA2
  have C3 := Lib.hid (first_is a2 2 c2 _ 4 3 2 1 true rfl rfl w2 hA2)
  have HC2 := Lib.hid hc2
  clear hc2 hA2 hb2 C2
  go_wp2_with fail
  refine C3.out.mono ?_
  rintro e w3 ⟨rfl, hb3⟩
  have hb3' := hb3.alloc hb3.size (.cells #[.int .i64 3, .int .i64 2, .int .i64 1] 25)
  have hz3 := at3_new 25 w3 (.int .i64 3) (.int .i64 2) (.int .i64 1)
  obtain ⟨w4, hw4⟩ : ∃ w4, w3.alloc (.cells #[.int .i64 3, .int .i64 2, .int .i64 1] 25) = w4 := ⟨_, rfl⟩
  rw [hw4] at hb3' hz3
  obtain ⟨bx, hbx⟩ : ∃ bx, w3.heap.size = bx := ⟨_, rfl⟩
  rw [hbx] at hz3
  have HW4 := Lib.hid hw4
  have HBX := Lib.hid hbx
  have HZ := Lib.hid hz3
  have B4 := Lib.hid (below_keep B2.out hb3' B2.out.size)
  have HA4 := Lib.hid (HA2.out.keep hb3')
  have C4 := Lib.hid (first_is a2 2 c2 _ 2 0 0 0 false rfl rfl w4 HA4.out)
  clear hb3 hb3' hz3 hw4 hbx C3
  go_wp2_with fail
  rw [show w3.alloc (.cells #[.int .i64 3, .int .i64 2, .int .i64 1] 25) = w4 from HW4.out]
  rw [show w3.heap.size = bx from HBX.out]
  go_wp2_with fail
  refine C4.out.mono ?_
  rintro e w5 ⟨rfl, hb5⟩
  have hb5' := hb5.alloc hb5.size (.cells #[.int .i64 0, .int .i64 0, .int .i64 0] 25)
  obtain ⟨c0, c1, c2'⟩ := cells3 (HZ.out.keep hb5')
  obtain ⟨w6, hw6⟩ : ∃ w6, w5.alloc (.cells #[.int .i64 0, .int .i64 0, .int .i64 0] 25) = w6 := ⟨_, rfl⟩
  rw [hw6] at hb5'
  have HW6 := Lib.hid hw6
  have B6 := Lib.hid (below_keep B4.out hb5' B4.out.size)
  have HA6 := Lib.hid (HA4.out.keep hb5')
  have C5 := Lib.hid (fit_any a2 2 c2 _ HC2.out true aw3 w6 HA6.out)
  clear hb5 hb5' hw6 C4
  go_wp2_with fail
  rw [show w5.alloc (.cells #[.int .i64 0, .int .i64 0, .int .i64 0] 25) = w6 from HW6.out]
  refine C5.out.mono ?_
  rintro e w7 ⟨rfl, hb7⟩
  have B7 := Lib.hid (below_keep B6.out hb7 B6.out.size)
  have C6 := Lib.hid (drop_is a2 2 c2 _ _ 2 0 aw4 (by omega) w7 (HA6.out.keep hb7))
  clear hb7 c0 c1 c2' C5
  go_wp2_with fail
  refine C6.out.mono ?_
  rintro e w8 ⟨v, rfl, hO, hb8⟩
  obtain ⟨ad, cp, rfl, _⟩ := Rw.owns_slice hO
  have B8 := Lib.hid (below_keep B7.out hb8 B7.out.size)
  clear hO hb8 C6
  go_wp2_with fail
  go_ret
  exact ⟨rfl, B8.out⟩

theorem sets_any (a : Option Addr) (len cap : Nat) (l : List Tm) (hcap : len ≤ cap) (x0 x1 x2 : Int) (w : World) (h : TmAt w a len l) :
    Calls Try.prog 4 #[.slice a len cap, .agg #[.int .i64 x0, .int .i64 x1, .int .i64 x2]] w fun e w' => e = .returned (.bool true) ∧ Below w.heap.size w w' := by
  have hB0 := bx3_new 25 w (.int .i64 x0) (.int .i64 x1) (.int .i64 x2)
  obtain ⟨w0, hw0⟩ : ∃ w0, w.alloc (.cells #[.int .i64 x0, .int .i64 x1, .int .i64 x2] 25) = w0 := ⟨_, rfl⟩
  rw [hw0] at hB0
  have HW := Lib.hid hw0
  have HB0 := Lib.hid hB0
  have HX := Lib.hid h
  have hl := h.2.1
  obtain ⟨c0, c1, c2⟩ := cells3 hB0.box
  clear hw0 hB0 h
  by_cases h80 : 80 < len
  · have e0 : (80 : Int) < (len : Int) := by omega
    go_enter Try.func4, Try.ntmps4
    go_wp2_with fail
    rw [show w.alloc (.cells #[.int .i64 x0, .int .i64 x1, .int .i64 x2] 25) = w0 from HW.out]
    go_wp2_with fail
    refine (awake_any w0).mono ?_
    rintro e w1 ⟨rfl, hb⟩
    have B1 := Lib.hid (HB0.out.keep hb)
    clear hb c0 c1 c2
    go_wp2_with fail
    go_ret
    exact ⟨rfl, B1.out.bel⟩
  · have e0 : ¬ (80 : Int) < (len : Int) := by omega
    obtain ⟨m, er, hs⟩ : ∃ m er, setT l ⟨x0, x1, x2⟩ = (m, er) := ⟨_, _, rfl⟩
    have C1 := Lib.hid (set_is a len cap l m er hcap x0 x1 x2 hs w0 (HX.out.keep HB0.out.bel))
    go_enter Try.func4, Try.ntmps4
    go_wp2_with fail
    rw [show w.alloc (.cells #[.int .i64 x0, .int .i64 x1, .int .i64 x2] 25) = w0 from HW.out]
    go_wp2_with fail
    refine C1.out.mono ?_
    rintro e w1 ⟨a1, n1, k1, rfl, _, hA1, hb1⟩
    have B1 := Lib.hid (HB0.out.keep hb1)
    have HA1 := Lib.hid hA1
    have C2 := rset_any a len cap l x0 x1 x2 w1 (HX.out.keep B1.out.bel)
    rw [hs] at C2
    have C2 := Lib.hid C2
    clear hb1 hA1 c0 c1 c2 C1 hs
    obtain ⟨c0, c1, c2⟩ := cells3 B1.out.box
    go_wp2_with fail
    refine C2.out.mono ?_
    rintro e w2 ⟨a2, n2, k2, rfl, _, hA2, hb2⟩
    have B2 := Lib.hid (B1.out.keep hb2)
    have C3 := Lib.hid (rsame_any a1 a2 n1 k1 n2 k2 m m true (eqTs_iff.2 rfl) w2 (HA1.out.keep hb2) hA2)
    have her : (er == er) = true := by simp
    clear hb2 hA2 c0 c1 c2 C2
    go_wp2_with fail
    refine C3.out.mono ?_
    rintro e w3 ⟨rfl, hb3⟩
    have B3 := Lib.hid (B2.out.keep hb3)
    clear hb3 C3
    go_wp2_with fail
    refine (awake_any w3).mono ?_
    rintro e w4 ⟨rfl, hb4⟩
    have B4 := Lib.hid (B3.out.keep hb4)
    clear hb4
    go_wp2_with fail
    go_ret
    exact ⟨rfl, B4.out.bel⟩
end Go.Proofs.Ytcfjnpepbjaacaa.Timer
namespace Go.Proofs.Ytcfjnpepbjaacaa
open Go.RowKit
theorem Contract.timerSets (a : Option Addr) (len cap : Nat) (x0 x1 x2 : Int) (W : World) (h : IsTimer W a len cap) :
    Calls Try.prog 4 #[.slice a len cap, .agg #[.int .i64 x0, .int .i64 x1, .int .i64 x2]] W fun e W' => e = .returned (.bool true) ∧ Below W.heap.size W W' := by
  obtain ⟨l, hl, hc⟩ := h
  exact Go.Proofs.Ytcfjnpepbjaacaa.Timer.sets_any a len cap l hc x0 x1 x2 W hl
end Go.Proofs.Ytcfjnpepbjaacaa
