/-
  The laws' awake, and OutboxPuts; what was there stays as it was.
-/
import Derived.Test.YtbgdbcofdkjocaaOutboxH
import Derived.Test.YtbgdbcofdkjocaaOutboxFr
set_option linter.unusedVariables false
set_option linter.unusedSimpArgs false
set_option maxRecDepth 4000
namespace Go.Proofs.Ytbgdbcofdkjocaa.Outbox
open Go.RowKit OutP
open Go.Proofs.Ytbgdbcofdkjocaa.Kt

theorem put_is (a : Option Addr) (len cap : Nat) (l m : List En) (er : Int) (hcap : len ≤ cap) (x0 x1 x2 : Int) (x3 : Bool) (x4 x5 : Int) (x6 : Bool) (hs : putE l ⟨x0, x1, x2, x3, x4, x5, x6⟩ = (m, er)) (w : World) (h : EnAt w a len l) :
    Calls Try.prog 18 #[.slice a len cap, .agg #[.int .i64 x0, .int .i64 x1, .int .i64 x2, .bool x3, .int .i64 x4, .int .i64 x5, .bool x6]] w (PutR w m er) := by
  have := put_any a len cap l hcap x0 x1 x2 x3 x4 x5 x6 w h
  rw [hs] at this
  exact this
theorem since_is (a : Option Addr) (len cap : Nat) (l m : List En) (g : Int) (n : Nat) (hm : sinceE g l = m) (hn : m.length = n) (hlen : len ≤ 1000000) (w : World) (h : EnAt w a len l) :
    Calls Try.prog 14 #[.slice a len cap, .int .i64 g] w fun e w' => ∃ a c, e = .returned (.slice a n c) ∧ n ≤ c ∧ EnAt w' a n m ∧ Below w.heap.size w w' := by
  have := since_any a len cap l g hlen w h
  rw [hm] at this
  have hle : n ≤ len := by rw [← hn, ← hm, ← h.1]; exact List.length_filter_le _ _
  refine this.mono fun e w' h => ?_
  obtain ⟨a, c, h1, h2, h3, _, h5⟩ := RowP.at h hn (by omega)
  exact ⟨a, c, h1, h2, h3, h5⟩
theorem aw1 : putE [] ⟨1, 5, 0, false, 2, 0, false⟩ = ([⟨1, 5, 0, false, 2, 0, false⟩], 0) := by rfl
theorem aw2 : putE [⟨1, 5, 0, false, 2, 0, false⟩] ⟨2, 5, 0, false, 4, 0, false⟩ = ([⟨2, 5, 0, false, 4, 0, false⟩], 0) := by rfl
theorem aw3 : putE [⟨2, 5, 0, false, 4, 0, false⟩] ⟨2, 6, 0, false, 4, 0, false⟩ = ([], 16) := by rfl
theorem aw4 : sinceE 1 [⟨2, 5, 0, false, 4, 0, false⟩] = [⟨2, 5, 0, false, 4, 0, false⟩] := by rfl
theorem aw5 : sinceE 2 [⟨2, 5, 0, false, 4, 0, false⟩] = [] := by rfl

set_option maxHeartbeats 2000000 in
theorem awake_any (w : World) : Calls Try.prog 6 #[] w fun e w' => e = .returned (.bool true) ∧ Below w.heap.size w w' := by
  have C1 := Lib.hid (put_is none 0 0 [] _ 0 (Nat.le_refl _) 1 5 0 false 2 0 false aw1 w (Rw.At.nil _ _ _))
  go_enter Try.func6, Try.ntmps6
  go_wp2_with fail
  refine C1.out.mono ?_
  rintro e w1 ⟨a1, n1, c1, rfl, hc1, hA1, hb1⟩
  obtain rfl : 1 = n1 := hA1.1
  have C2 := Lib.hid (put_is a1 1 c1 _ _ 0 hc1 2 5 0 false 4 0 false aw2 w1 hA1)
  have B1 := Lib.hid hb1
  clear hc1 hA1 hb1 C1
  go_wp2_with fail
  refine C2.out.mono ?_
  rintro e w2 ⟨a2, n2, c2, rfl, hc2, hA2, hb2⟩
  obtain rfl : 1 = n2 := hA2.1
  have B2 := Lib.hid (below_keep B1.out hb2 B1.out.size)
  have HA2 := Lib.hid hA2
  have C3 := Lib.hid (put_is a2 1 c2 _ _ 16 hc2 2 6 0 false 4 0 false aw3 w2 hA2)
  clear hc2 hA2 hb2 C2
  go_wp2_with fail
  refine C3.out.mono ?_
  rintro e w3 ⟨a3, n3, c3, rfl, hc3, hA3, hb3⟩
  have B3 := Lib.hid (below_keep B2.out hb3 B2.out.size)
  have HA3 := Lib.hid (HA2.out.keep hb3)
  have C4 := Lib.hid (since_is a2 1 c2 _ _ 1 1 aw4 rfl (by omega) w3 HA3.out)
  clear hc3 hA3 hb3 C3
  go_wp2_with fail
  refine C4.out.mono ?_
  rintro e w4 ⟨a4, c4, rfl, hc4, hA4, hb4⟩
  have B4 := Lib.hid (below_keep B3.out hb4 B3.out.size)
  have HA4 := Lib.hid (HA3.out.keep hb4)
  have C5 := Lib.hid (since_is a2 1 c2 _ _ 2 0 aw5 rfl (by omega) w4 HA4.out)
  clear hc4 hA4 hb4 C4
  go_wp2_with fail
  refine C5.out.mono ?_
  rintro e w5 ⟨a5, c5, rfl, hc5, hA5, hb5⟩
  have B5 := Lib.hid (below_keep B4.out hb5 B4.out.size)
  have C6 := Lib.hid (service_is 4 2 rfl w5)
  clear hc5 hA5 hb5 C5
  go_wp2_with fail
  refine C6.out.mono ?_
  rintro e w6 ⟨rfl, rfl⟩
  go_wp2_with fail
  go_ret
  exact ⟨rfl, B5.out⟩

theorem puts_any (a : Option Addr) (len cap : Nat) (l : List En) (hcap : len ≤ cap) (x0 x1 x2 : Int) (x3 : Bool) (x4 x5 : Int) (x6 : Bool) (w : World) (h : EnAt w a len l) :
    Calls Try.prog 4 #[.slice a len cap, .agg #[.int .i64 x0, .int .i64 x1, .int .i64 x2, .bool x3, .int .i64 x4, .int .i64 x5, .bool x6]] w fun e w' => e = .returned (.bool true) ∧ Below w.heap.size w w' := by
  have hB0 := bx7_new 25 w (.int .i64 x0) (.int .i64 x1) (.int .i64 x2) (.bool x3) (.int .i64 x4) (.int .i64 x5) (.bool x6)
  obtain ⟨w0, hw0⟩ : ∃ w0, w.alloc (.cells #[.int .i64 x0, .int .i64 x1, .int .i64 x2, .bool x3, .int .i64 x4, .int .i64 x5, .bool x6] 25) = w0 := ⟨_, rfl⟩
  rw [hw0] at hB0
  have HW := Lib.hid hw0
  have HB0 := Lib.hid hB0
  have HX := Lib.hid h
  have hl := h.2.1
  obtain ⟨d0, d1, d2, d3, d4, d5, d6⟩ := cells7 hB0.box
  clear hw0 hB0 h
  by_cases h20 : 20 < len
  · have e0 : (20 : Int) < (len : Int) := by omega
    go_enter Try.func4, Try.ntmps4
    go_wp2_with fail
    rw [show w.alloc (.cells #[.int .i64 x0, .int .i64 x1, .int .i64 x2, .bool x3, .int .i64 x4, .int .i64 x5, .bool x6] 25) = w0 from HW.out]
    go_wp2_with fail
    refine (awake_any w0).mono ?_
    rintro e w1 ⟨rfl, hb⟩
    have B1 := Lib.hid (HB0.out.keep hb)
    clear hb d0 d1 d2 d3 d4 d5 d6
    go_wp2_with fail
    go_ret
    exact ⟨rfl, B1.out.bel⟩
  · have e0 : ¬ (20 : Int) < (len : Int) := by omega
    obtain ⟨m, er, hs⟩ : ∃ m er, putE l ⟨x0, x1, x2, x3, x4, x5, x6⟩ = (m, er) := ⟨_, _, rfl⟩
    have C1 := Lib.hid (put_is a len cap l m er hcap x0 x1 x2 x3 x4 x5 x6 hs w0 (HX.out.keep HB0.out.bel))
    go_enter Try.func4, Try.ntmps4
    go_wp2_with fail
    rw [show w.alloc (.cells #[.int .i64 x0, .int .i64 x1, .int .i64 x2, .bool x3, .int .i64 x4, .int .i64 x5, .bool x6] 25) = w0 from HW.out]
    go_wp2_with fail
    refine C1.out.mono ?_
    rintro e w1 ⟨a1, n1, k1, rfl, _, hA1, hb1⟩
    have B1 := Lib.hid (HB0.out.keep hb1)
    have HA1 := Lib.hid hA1
    have C2 := rput_any a len cap l x0 x1 x2 x3 x4 x5 x6 w1 (HX.out.keep B1.out.bel)
    rw [hs] at C2
    have C2 := Lib.hid C2
    clear hb1 hA1 d0 d1 d2 d3 d4 d5 d6 C1 hs
    obtain ⟨d0, d1, d2, d3, d4, d5, d6⟩ := cells7 B1.out.box
    go_wp2_with fail
    refine C2.out.mono ?_
    rintro e w2 ⟨a2, n2, k2, rfl, _, hA2, hb2⟩
    have B2 := Lib.hid (B1.out.keep hb2)
    have C3 := Lib.hid (rsame_any a1 a2 n1 k1 n2 k2 m m true (eqEs_iff.2 rfl) w2 (HA1.out.keep hb2) hA2)
    have her : (er == er) = true := by simp
    clear hb2 hA2 d0 d1 d2 d3 d4 d5 d6 C2
    go_wp2_with fail
    refine C3.out.mono ?_
    rintro e w3 ⟨rfl, hb3⟩
    have B3 := Lib.hid (B2.out.keep hb3)
    clear hb3 C3
    go_wp2_with fail
    refine (awake_any w3).mono ?_
    rintro e w4 ⟨rfl, hb4⟩
    have B4 := Lib.hid (B3.out.keep hb4)
    clear hb4
    go_wp2_with fail
    go_ret
    exact ⟨rfl, B4.out.bel⟩
end Go.Proofs.Ytbgdbcofdkjocaa.Outbox
namespace Go.Proofs.Ytbgdbcofdkjocaa
open Go.RowKit
theorem Contract.outboxPuts (a : Option Addr) (len cap : Nat) (x0 x1 x2 : Int) (x3 : Bool) (x4 x5 : Int) (x6 : Bool) (W : World) (h : IsEntry W a len cap) :
    Calls Try.prog 4 #[.slice a len cap, .agg #[.int .i64 x0, .int .i64 x1, .int .i64 x2, .bool x3, .int .i64 x4, .int .i64 x5, .bool x6]] W fun e W' => e = .returned (.bool true) ∧ Below W.heap.size W W' := by
  obtain ⟨l, hl, hc⟩ := h
  exact Go.Proofs.Ytbgdbcofdkjocaa.Outbox.puts_any a len cap l hc x0 x1 x2 x3 x4 x5 x6 W hl
end Go.Proofs.Ytbgdbcofdkjocaa
