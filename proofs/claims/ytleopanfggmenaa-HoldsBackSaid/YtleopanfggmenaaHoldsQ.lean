/-
  HoldsTurn: it returns true for any holds, any hold, any saga; what was there stays as it was.
-/
import Derived.Test.YtleopanfggmenaaHoldsP
set_option linter.unusedVariables false
set_option maxRecDepth 4000
namespace Go.Proofs.Ytleopanfggmenaa.Holds
open Go.RowKit LinesP HoldsP
open Go.Proofs.Ytleopanfggmenaa.Lines (LsAt Sz SzM ret_bool ret_int below_keep below_drewN fewV)

theorem put_is (a : Option Addr) (len cap : Nat) (l : List Hd) (g t : Int) (la : Option Addr) (n lc : Nat) (ls : List Ln) (out : List Hd) (er : Int) (k : Nat) (hr : putH l ⟨g, ls, t⟩ = (out, er)) (hk : out.length = k) (w : World) (h : HsAt w a len l) (hc : len ≤ cap) (hL : LsAt w la n ls) (hz : SzH l) (hz2 : Sz ls) (hs : ∀ x ∈ l, x.ls.length ≤ 1000000) (hn : n ≤ 1000000) :
    Calls Try.prog 20 #[.slice a len cap, .agg #[.int .i64 g, .slice la n lc, .int .i64 t]] w fun e w' => ∃ a' c', e = .returned (.tuple #[.slice a' k c', .int .i64 er]) ∧ k ≤ c' ∧ HsAt w' a' k out ∧ Below w.heap.size w w' := by
  have := put_any a len cap l g t la n lc ls w h hc hL hz hz2 hs hn
  rw [hr] at this
  subst hk
  exact this
theorem rput_is (a : Option Addr) (len cap : Nat) (l : List Hd) (g t : Int) (la : Option Addr) (n lc : Nat) (ls : List Ln) (out : List Hd) (er : Int) (k : Nat) (hr : putH l ⟨g, ls, t⟩ = (out, er)) (hk : out.length = k) (w : World) (h : HsAt w a len l) (hc : len ≤ cap) (hL : LsAt w la n ls) (hz : SzH l) (hz2 : Sz ls) :
    Calls Try.prog 21 #[.slice a len cap, .agg #[.int .i64 g, .slice la n lc, .int .i64 t]] w fun e w' => ∃ a' c', e = .returned (.tuple #[.slice a' k c', .int .i64 er]) ∧ HsAt w' a' k out ∧ Below w.heap.size w w' := by
  have := rput_any a len cap l g t la n lc ls w h hc hL hz hz2
  rw [hr] at this
  subst hk
  exact this
theorem drop_is (a : Option Addr) (len cap : Nat) (l : List Hd) (g : Int) (out : List Hd) (er : Int) (k : Nat) (hr : dropH l g = (out, er)) (hk : out.length = k) (w : World) (h : HsAt w a len l) (hc : len ≤ cap) (hz : SzH l) (hs : ∀ x ∈ l, x.ls.length ≤ 1000000) :
    Calls Try.prog 22 #[.slice a len cap, .int .i64 g] w fun e w' => ∃ a' c', e = .returned (.tuple #[.slice a' k c', .int .i64 er]) ∧ k ≤ c' ∧ HsAt w' a' k out ∧ Below w.heap.size w w' := by
  have := drop_any a len cap l g w h hc hz hs
  rw [hr] at this
  subst hk
  exact this
theorem rdrop_is (a : Option Addr) (len cap : Nat) (l : List Hd) (g : Int) (out : List Hd) (er : Int) (k : Nat) (hr : dropH l g = (out, er)) (hk : out.length = k) (w : World) (h : HsAt w a len l) (hz : SzH l) (hn : len ≤ 1000000) :
    Calls Try.prog 23 #[.slice a len cap, .int .i64 g] w fun e w' => ∃ a' c', e = .returned (.tuple #[.slice a' k c', .int .i64 er]) ∧ HsAt w' a' k out ∧ Below w.heap.size w w' := by
  have := rdrop_any a len cap l g w h hz hn
  rw [hr] at this
  subst hk
  exact this
set_option maxHeartbeats 2000000 in
theorem turn_few0 (a0 : Option Addr) (len0 cap0 : Nat) (g t : Int) (la : Option Addr) (n lc : Nat) (m : Int) (l : List Hd) (ls : List Ln) (w : World) (h : HsAt w a0 len0 l) (hL : LsAt w la n ls) (s0 : SzMH l) (s1 : SzM ls) (f0 : fewH l = false) :
    Calls Try.prog 4 #[.slice a0 len0 cap0, .agg #[.int .i64 g, .slice la n lc, .int .i64 t], .int .i64 m] w fun e w' => e = .returned (.bool true) ∧ Below w.heap.size w w' := by
  have HB := Lib.hid (box_below w g la n lc t)
  have HC := Lib.hid (fun w' hb => box_cells w g la n lc t (w' := w') hb)
  have HX := Lib.hid (h.keep (box_below w g la n lc t))
  have HL := Lib.hid (hL.keep (box_below w g la n lc t))
  obtain ⟨W, hW⟩ : ∃ W, box w g la n lc t = W := ⟨_, rfl⟩
  have HW : Hid (w.alloc (.cells #[.int .i64 g, .slice la n lc, .int .i64 t] 27) = W) := hW
  rw [hW] at HB HC HX HL
  clear h hL hW
  have C1 := Lib.hid (rfew_is a0 len0 cap0 l false f0 W HX.out s0)
  clear s0 s1 f0
  go_enter Try.func4, Try.ntmps4
  go_wp2_with fail
  rw [show w.alloc (.cells #[.int .i64 g, .slice la n lc, .int .i64 t] 27) = W from HW.out]
  refine C1.out.mono ?_
  rintro e w1 ⟨rfl, hb1⟩
  have HB1 := Lib.hid hb1
  clear hb1
  go_wp2_with fail
  refine (awake_any w1).mono ?_
  rintro e wz ⟨rfl, hbz⟩
  have HBZ := Lib.hid (below_keep HB.out (below_keep HB1.out hbz HB1.out.size) HB.out.size)
  clear hbz
  go_wp2_with fail
  go_ret
  exact ⟨rfl, HBZ.out⟩
set_option maxHeartbeats 2000000 in
theorem turn_few1 (a0 : Option Addr) (len0 cap0 : Nat) (g t : Int) (la : Option Addr) (n lc : Nat) (m : Int) (l : List Hd) (ls : List Ln) (w : World) (h : HsAt w a0 len0 l) (hL : LsAt w la n ls) (s0 : SzMH l) (s1 : SzM ls) (f0 : fewH l = true) (f1 : fewV ls = false) :
    Calls Try.prog 4 #[.slice a0 len0 cap0, .agg #[.int .i64 g, .slice la n lc, .int .i64 t], .int .i64 m] w fun e w' => e = .returned (.bool true) ∧ Below w.heap.size w w' := by
  have HB := Lib.hid (box_below w g la n lc t)
  have HC := Lib.hid (fun w' hb => box_cells w g la n lc t (w' := w') hb)
  have HX := Lib.hid (h.keep (box_below w g la n lc t))
  have HL := Lib.hid (hL.keep (box_below w g la n lc t))
  obtain ⟨W, hW⟩ : ∃ W, box w g la n lc t = W := ⟨_, rfl⟩
  have HW : Hid (w.alloc (.cells #[.int .i64 g, .slice la n lc, .int .i64 t] 27) = W) := hW
  rw [hW] at HB HC HX HL
  clear h hL hW
  have C1 := Lib.hid (rfew_is a0 len0 cap0 l true f0 W HX.out s0)
  have HF1 := Lib.hid f1; have HM1 := Lib.hid s1
  clear s0 s1 f0 f1
  go_enter Try.func4, Try.ntmps4
  go_wp2_with fail
  rw [show w.alloc (.cells #[.int .i64 g, .slice la n lc, .int .i64 t] 27) = W from HW.out]
  refine C1.out.mono ?_
  rintro e w1 ⟨rfl, hb1⟩
  have HB1 := Lib.hid hb1
  obtain ⟨q0, q1, q2⟩ := HC.out w1 hb1
  have C2 := Lib.hid (rfewL_is la n lc ls false HF1.out w1 (HL.out.keep hb1) HM1.out)
  clear hb1
  go_wp2_with fail
  refine C2.out.mono ?_
  rintro e w2 ⟨rfl, hb2⟩
  have HB2 := Lib.hid (below_keep HB1.out hb2 HB1.out.size)
  clear hb2 q0 q1 q2 C1 C2
  go_wp2_with fail
  refine (awake_any w2).mono ?_
  rintro e wz ⟨rfl, hbz⟩
  have HBZ := Lib.hid (below_keep HB.out (below_keep HB2.out hbz HB2.out.size) HB.out.size)
  clear hbz
  go_wp2_with fail
  go_ret
  exact ⟨rfl, HBZ.out⟩
set_option maxHeartbeats 2000000 in
theorem turn_walk (a0 : Option Addr) (len0 cap0 : Nat) (g t : Int) (la : Option Addr) (n lc : Nat) (m : Int) (l : List Hd) (ls : List Ln) (w : World) (h : HsAt w a0 len0 l) (hL : LsAt w la n ls) (s0 : SzMH l) (s1 : SzM ls) (hc : len0 ≤ cap0) (f0 : fewH l = true) (f1 : fewV ls = true) :
    Calls Try.prog 4 #[.slice a0 len0 cap0, .agg #[.int .i64 g, .slice la n lc, .int .i64 t], .int .i64 m] w fun e w' => e = .returned (.bool true) ∧ Below w.heap.size w w' := by
  obtain ⟨z1, z2, z3⟩ := fewH_sz f0 s0
  obtain ⟨z4, z5⟩ := Lines.few_sz f1 s1
  have HZ := Lib.hid z2; have HZ2 := Lib.hid z5
  have HN : Hid (∀ x ∈ l, x.ls.length ≤ 1000000) := fun x hx => by have := z3 x hx; omega
  have hl0 := h.len
  have h20 : len0 ≤ 20 := by omega
  have hn8 : n ≤ 8 := by have := hL.1; omega
  obtain ⟨⟨out, er⟩, hr⟩ : ∃ r, putH l ⟨g, ls, t⟩ = r := ⟨_, rfl⟩
  obtain ⟨k, hk⟩ : ∃ k, out.length = k := ⟨_, rfl⟩
  obtain ⟨⟨out2, er2⟩, hr2⟩ : ∃ r, dropH l m = r := ⟨_, rfl⟩
  obtain ⟨k2, hk2⟩ : ∃ k, out2.length = k := ⟨_, rfl⟩
  have HR := Lib.hid hr; have HK := Lib.hid hk; have HR2 := Lib.hid hr2; have HK2 := Lib.hid hk2
  clear z1 z2 z3 z4 z5 hl0 hr hk hr2 hk2
  have HB := Lib.hid (box_below w g la n lc t)
  have HC := Lib.hid (fun w' hb => box_cells w g la n lc t (w' := w') hb)
  have HX := Lib.hid (h.keep (box_below w g la n lc t))
  have HL := Lib.hid (hL.keep (box_below w g la n lc t))
  obtain ⟨W, hW⟩ : ∃ W, box w g la n lc t = W := ⟨_, rfl⟩
  have HW : Hid (w.alloc (.cells #[.int .i64 g, .slice la n lc, .int .i64 t] 27) = W) := hW
  rw [hW] at HB HC HX HL
  clear h hL hW
  have C1 := Lib.hid (rfew_is a0 len0 cap0 l true f0 W HX.out s0)
  have HF1 := Lib.hid f1; have HM1 := Lib.hid s1
  clear s0 s1 f0 f1
  go_enter Try.func4, Try.ntmps4
  go_wp2_with fail
  rw [show w.alloc (.cells #[.int .i64 g, .slice la n lc, .int .i64 t] 27) = W from HW.out]
  refine C1.out.mono ?_
  rintro e w1 ⟨rfl, hb1⟩
  have HB1 := Lib.hid hb1
  obtain ⟨q0, q1, q2⟩ := HC.out w1 hb1
  have C2 := Lib.hid (rfewL_is la n lc ls true HF1.out w1 (HL.out.keep hb1) HM1.out)
  clear hb1
  go_wp2_with fail
  refine C2.out.mono ?_
  rintro e w2 ⟨rfl, hb2⟩
  have HB2 := Lib.hid (below_keep HB1.out hb2 HB1.out.size)
  clear hb2 q0 q1 q2 C1 C2
  obtain ⟨q0, q1, q2⟩ := HC.out w2 HB2.out
  have C3 := Lib.hid (put_is a0 len0 cap0 l g t la n lc ls out er k HR.out HK.out w2 (HX.out.keep HB2.out) hc (HL.out.keep HB2.out) HZ.out HZ2.out HN.out (by omega))
  go_wp2_with fail
  refine C3.out.mono ?_
  rintro e w3 ⟨a3, c3, rfl, _, hA3, hb3⟩
  have HB3 := Lib.hid (below_keep HB2.out hb3 HB2.out.size)
  have HA3 := Lib.hid hA3
  clear hA3 hb3 C3 q0 q1 q2
  obtain ⟨q0, q1, q2⟩ := HC.out w3 HB3.out
  have C4 := Lib.hid (rput_is a0 len0 cap0 l g t la n lc ls out er k HR.out HK.out w3 (HX.out.keep HB3.out) hc (HL.out.keep HB3.out) HZ.out HZ2.out)
  go_wp2_with fail
  refine C4.out.mono ?_
  rintro e w4 ⟨a4, c4, rfl, hA4, hb4⟩
  have HB4 := Lib.hid (below_keep HB3.out hb4 HB3.out.size)
  have HA34 := Lib.hid (HA3.out.keep hb4)
  have HA4 := Lib.hid hA4
  clear hA4 hb4 C4 q0 q1 q2 HA3
  have C5 := Lib.hid (drop_is a0 len0 cap0 l m out2 er2 k2 HR2.out HK2.out w4 (HX.out.keep HB4.out) hc HZ.out HN.out)
  go_wp2_with fail
  refine C5.out.mono ?_
  rintro e w5 ⟨a5, c5, rfl, _, hA5, hb5⟩
  have HB5 := Lib.hid (below_keep HB4.out hb5 HB4.out.size)
  have HA35 := Lib.hid (HA34.out.keep hb5); have HA45 := Lib.hid (HA4.out.keep hb5)
  have HA5 := Lib.hid hA5
  clear hA5 hb5 C5 HA34 HA4
  have C6 := Lib.hid (rdrop_is a0 len0 cap0 l m out2 er2 k2 HR2.out HK2.out w5 (HX.out.keep HB5.out) HZ.out (by omega))
  go_wp2_with fail
  refine C6.out.mono ?_
  rintro e w6 ⟨a6, c6, rfl, hA6, hb6⟩
  have HB6 := Lib.hid (below_keep HB5.out hb6 HB5.out.size)
  have HA56 := Lib.hid (HA5.out.keep hb6)
  have HA6 := Lib.hid hA6
  have C7 := Lib.hid (rsame_is a3 a4 k c3 k c4 out out true (eqH_iff.2 rfl) w6 (HA35.out.keep hb6) (HA45.out.keep hb6))
  clear hA6 hb6 C6 HA5 HA35 HA45
  go_wp2_with fail
  refine C7.out.mono ?_
  rintro e w7 ⟨rfl, hb7⟩
  have HB7 := Lib.hid (below_keep HB6.out hb7 HB6.out.size)
  have C8 := Lib.hid (rsame_is a5 a6 k2 c5 k2 c6 out2 out2 true (eqH_iff.2 rfl) w7 (HA56.out.keep hb7) (HA6.out.keep hb7))
  clear hb7 C7
  go_wp2_with fail
  refine C8.out.mono ?_
  rintro e w8 ⟨rfl, hb8⟩
  have HB8 := Lib.hid (below_keep HB7.out hb8 HB7.out.size)
  clear hb8 C8
  go_wp2_with fail
  refine (awake_any w8).mono ?_
  rintro e wz ⟨rfl, hbz⟩
  have HBZ := Lib.hid (below_keep HB.out (below_keep HB8.out hbz HB8.out.size) HB.out.size)
  clear hbz
  go_wp2_with fail
  go_ret
  exact ⟨rfl, HBZ.out⟩
end Go.Proofs.Ytleopanfggmenaa.Holds
