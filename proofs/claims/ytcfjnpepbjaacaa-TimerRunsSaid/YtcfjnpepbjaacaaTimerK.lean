/-
  TimerTells; what was there stays as it was.
-/
import Derived.Test.YtcfjnpepbjaacaaTimerJ
set_option linter.unusedVariables false
set_option linter.unusedSimpArgs false
set_option maxRecDepth 4000
namespace Go.Proofs.Ytcfjnpepbjaacaa.Timer
open Go.RowKit TimerP
open Go.Proofs.Ytcfjnpepbjaacaa.Kt

theorem rfind_is (a : Option Addr) (len cap : Nat) (l : List Tm) (g q z0 z1 z2 : Int) (b : Bool) (hz : getT (findT g q l) = ⟨z0, z1, z2⟩) (hb : (findT g q l).isSome = b) (w : World) (h : TmAt w a len l) :
    Calls Try.prog 8 #[.slice a len cap, .int .i64 g, .int .i64 q] w fun e w' => e = .returned (.tuple #[.agg #[.int .i64 z0, .int .i64 z1, .int .i64 z2], .bool b]) ∧ Below w.heap.size w w' := by
  have := rfind_any a len cap l g q _ rfl w h
  rw [hz, hb] at this
  exact this
theorem rfirst_is (a : Option Addr) (len cap : Nat) (l : List Tm) (n z0 z1 z2 : Int) (b : Bool) (hz : getT (firstT n l) = ⟨z0, z1, z2⟩) (hb : (firstT n l).isSome = b) (w : World) (h : TmAt w a len l) :
    Calls Try.prog 10 #[.slice a len cap, .int .i64 n] w fun e w' => e = .returned (.tuple #[.agg #[.int .i64 z0, .int .i64 z1, .int .i64 z2], .bool b]) ∧ Below w.heap.size w w' := by
  have := rfirst_any a len cap l n _ rfl w h
  rw [hz, hb] at this
  exact this
theorem eqT_self (x0 x1 x2 : Int) : eqT ⟨x0, x1, x2⟩ ⟨x0, x1, x2⟩ = true := eqT_iff.2 rfl

set_option maxHeartbeats 8000000 in
theorem tells_any (a : Option Addr) (len cap : Nat) (l : List Tm) (hcap : len ≤ cap) (g q : Int) (w : World) (h : TmAt w a len l) :
    Calls Try.prog 3 #[.slice a len cap, .int .i64 g, .int .i64 q] w fun e w' => e = .returned (.bool true) ∧ Below w.heap.size w w' := by
  have hl := h.2.1
  by_cases h80 : 80 < len
  · have e0 : (80 : Int) < (len : Int) := by omega
    clear h
    go_enter Try.func3, Try.ntmps3
    go_wp2_with fail
    refine (awake_any w).mono ?_
    rintro e w1 ⟨rfl, hb⟩
    have B1 := Lib.hid hb
    clear hb
    go_wp2_with fail
    go_ret
    exact ⟨rfl, B1.out⟩
  · have e0 : ¬ (80 : Int) < (len : Int) := by omega
    obtain ⟨z0, z1, z2, hz⟩ := tm_split (getT (findT g q l))
    obtain ⟨y0, y1, y2, hy⟩ := tm_split (getT (firstT g l))
    obtain ⟨p, hp⟩ : ∃ p, (findT g q l).isSome = p := ⟨_, rfl⟩
    obtain ⟨r, hr⟩ : ∃ r, (firstT g l).isSome = r := ⟨_, rfl⟩
    obtain ⟨f, hf⟩ : ∃ f, fitB l = f := ⟨_, rfl⟩
    have F1 := Lib.hid (fun W (hW : Below w.heap.size w W) => find_is a len cap l g q z0 z1 z2 p hz hp W (h.keep hW))
    have F2 := Lib.hid (fun W (hW : Below w.heap.size w W) => rfind_is a len cap l g q z0 z1 z2 p hz hp W (h.keep hW))
    have F3 := Lib.hid (fun W (hW : Below w.heap.size w W) => first_is a len cap l g y0 y1 y2 r hy hr W (h.keep hW))
    have F4 := Lib.hid (fun W (hW : Below w.heap.size w W) => rfirst_is a len cap l g y0 y1 y2 r hy hr W (h.keep hW))
    have F5 := Lib.hid (fun W (hW : Below w.heap.size w W) => fit_any a len cap l hcap f hf W (h.keep hW))
    have F6 := Lib.hid (fun W (hW : Below w.heap.size w W) => rfit_any a len cap l f hf W (h.keep hW))
    have F7 := Lib.hid (fun W (hW : Below w.heap.size w W) => drop_any a len cap l g q (by omega) W (h.keep hW))
    have F8 := Lib.hid (fun W (hW : Below w.heap.size w W) => rdrop_any a len cap l g q (by omega) W (h.keep hW))
    have HLEN : Hid (l.length ≤ 80) := by show _ ≤ _; rw [h.1]; omega
    clear h hz hy hp hr hf
    go_enter Try.func3, Try.ntmps3
    go_wp2_with fail
    refine (F1.out w (Below.refl _ _)).mono ?_
    rintro e w1 ⟨rfl, hb⟩
    have hb' := hb.alloc hb.size (.cells #[.int .i64 z0, .int .i64 z1, .int .i64 z2] 25)
    have hz := at3_new 25 w1 (.int .i64 z0) (.int .i64 z1) (.int .i64 z2)
    obtain ⟨u1, hu⟩ : ∃ u1, w1.alloc (.cells #[.int .i64 z0, .int .i64 z1, .int .i64 z2] 25) = u1 := ⟨_, rfl⟩
    rw [hu] at hb' hz
    obtain ⟨b1, hbx⟩ : ∃ b1, w1.heap.size = b1 := ⟨_, rfl⟩
    rw [hbx] at hz
    have HU := Lib.hid hu
    have HX1 := Lib.hid hbx
    have B1 := Lib.hid (below_keep (Below.refl w.heap.size w) hb' (Nat.le_refl _))
    have Z1_1 := Lib.hid hz
    clear hb hb' hz hu hbx
    go_wp2_with fail
    rw [show w1.alloc (.cells #[.int .i64 z0, .int .i64 z1, .int .i64 z2] 25) = u1 from HU.out]
    rw [show w1.heap.size = b1 from HX1.out]
    go_wp2_with fail
    refine (F2.out u1 B1.out).mono ?_
    rintro e w2 ⟨rfl, hb⟩
    have hb' := hb.alloc hb.size (.cells #[.int .i64 z0, .int .i64 z1, .int .i64 z2] 25)
    have hz := at3_new 25 w2 (.int .i64 z0) (.int .i64 z1) (.int .i64 z2)
    obtain ⟨u2, hu⟩ : ∃ u2, w2.alloc (.cells #[.int .i64 z0, .int .i64 z1, .int .i64 z2] 25) = u2 := ⟨_, rfl⟩
    rw [hu] at hb' hz
    obtain ⟨b2, hbx⟩ : ∃ b2, w2.heap.size = b2 := ⟨_, rfl⟩
    rw [hbx] at hz
    have HU := Lib.hid hu
    have HX2 := Lib.hid hbx
    have B2 := Lib.hid (below_keep B1.out hb' B1.out.size)
    have Z2_2 := Lib.hid hz
    have Z1_2 := Lib.hid (Z1_1.out.keep hb')
    clear hb hb' hz hu hbx
    go_wp2_with fail
    rw [show w2.alloc (.cells #[.int .i64 z0, .int .i64 z1, .int .i64 z2] 25) = u2 from HU.out]
    rw [show w2.heap.size = b2 from HX2.out]
    go_wp2_with fail
    refine (F3.out u2 B2.out).mono ?_
    rintro e w3 ⟨rfl, hb⟩
    have hb' := hb.alloc hb.size (.cells #[.int .i64 y0, .int .i64 y1, .int .i64 y2] 25)
    have hz := at3_new 25 w3 (.int .i64 y0) (.int .i64 y1) (.int .i64 y2)
    obtain ⟨u3, hu⟩ : ∃ u3, w3.alloc (.cells #[.int .i64 y0, .int .i64 y1, .int .i64 y2] 25) = u3 := ⟨_, rfl⟩
    rw [hu] at hb' hz
    obtain ⟨b3, hbx⟩ : ∃ b3, w3.heap.size = b3 := ⟨_, rfl⟩
    rw [hbx] at hz
    have HU := Lib.hid hu
    have HX3 := Lib.hid hbx
    have B3 := Lib.hid (below_keep B2.out hb' B2.out.size)
    have Z3_3 := Lib.hid hz
    have Z1_3 := Lib.hid (Z1_2.out.keep hb')
    have Z2_3 := Lib.hid (Z2_2.out.keep hb')
    clear hb hb' hz hu hbx
    go_wp2_with fail
    rw [show w3.alloc (.cells #[.int .i64 y0, .int .i64 y1, .int .i64 y2] 25) = u3 from HU.out]
    rw [show w3.heap.size = b3 from HX3.out]
    go_wp2_with fail
    refine (F4.out u3 B3.out).mono ?_
    rintro e w4 ⟨rfl, hb⟩
    have hb' := hb.alloc hb.size (.cells #[.int .i64 y0, .int .i64 y1, .int .i64 y2] 25)
    have hz := at3_new 25 w4 (.int .i64 y0) (.int .i64 y1) (.int .i64 y2)
    obtain ⟨u4, hu⟩ : ∃ u4, w4.alloc (.cells #[.int .i64 y0, .int .i64 y1, .int .i64 y2] 25) = u4 := ⟨_, rfl⟩
    rw [hu] at hb' hz
    obtain ⟨b4, hbx⟩ : ∃ b4, w4.heap.size = b4 := ⟨_, rfl⟩
    rw [hbx] at hz
    have HU := Lib.hid hu
    have HX4 := Lib.hid hbx
    have B4 := Lib.hid (below_keep B3.out hb' B3.out.size)
    have Z4_4 := Lib.hid hz
    have Z1_4 := Lib.hid (Z1_3.out.keep hb')
    have Z2_4 := Lib.hid (Z2_3.out.keep hb')
    have Z3_4 := Lib.hid (Z3_3.out.keep hb')
    clear hb hb' hz hu hbx
    go_wp2_with fail
    rw [show w4.alloc (.cells #[.int .i64 y0, .int .i64 y1, .int .i64 y2] 25) = u4 from HU.out]
    rw [show w4.heap.size = b4 from HX4.out]
    go_wp2_with fail
    refine (F5.out u4 B4.out).mono ?_
    rintro e w5 ⟨rfl, hb⟩
    have B5 := Lib.hid (below_keep B4.out hb B4.out.size)
    have Z1_5 := Lib.hid (Z1_4.out.keep hb)
    have Z2_5 := Lib.hid (Z2_4.out.keep hb)
    have Z3_5 := Lib.hid (Z3_4.out.keep hb)
    have Z4_5 := Lib.hid (Z4_4.out.keep hb)
    clear hb
    go_wp2_with fail
    refine (F6.out w5 B5.out).mono ?_
    rintro e w6 ⟨rfl, hb⟩
    have B6 := Lib.hid (below_keep B5.out hb B5.out.size)
    have Z1_6 := Lib.hid (Z1_5.out.keep hb)
    have Z2_6 := Lib.hid (Z2_5.out.keep hb)
    have Z3_6 := Lib.hid (Z3_5.out.keep hb)
    have Z4_6 := Lib.hid (Z4_5.out.keep hb)
    clear hb
    obtain ⟨c10, c11, c12⟩ := cells3 Z1_6.out
    obtain ⟨c20, c21, c22⟩ := cells3 Z2_6.out
    obtain ⟨c30, c31, c32⟩ := cells3 Z3_6.out
    obtain ⟨c40, c41, c42⟩ := cells3 Z4_6.out
    have q1 := fun w => eql_tm z0 z1 z2 z0 z1 z2 w
    have q2 := fun w => eql_tm y0 y1 y2 y0 y1 y2 w
    rw [eqT_self] at q1 q2
    have q3 := fun x y w => guard_tm .eql x y z0 z1 z2 z0 z1 z2 w
    have q4 := fun x y w => guard_tm .eql x y y0 y1 y2 y0 y1 y2 w
    go_wp2_with fail
    refine (F7.out w6 B6.out).mono ?_
    rintro e w7 ⟨v7, rfl, hO, hb⟩
    obtain ⟨a7, k7, rfl, _⟩ := Rw.owns_slice hO
    have B7 := Lib.hid (below_keep B6.out hb B6.out.size)
    obtain ⟨n7, hn7⟩ : ∃ n7, (dropT g q l).length = n7 := ⟨_, rfl⟩
    rw [hn7] at hO ⊢
    have hl7 : n7 ≤ 1000000 := by rw [← hn7]; unfold dropT; have := List.length_filter_le (leftB g q) l; have := HLEN.out; omega
    have A7 := Lib.hid (Rw.own_at (S := tmS) hO hn7 (by omega))
    have HN7 := Lib.hid hn7
    clear hO hb hn7 q1 q2 q3 q4
    clear c10 c11 c12 c20 c21 c22 c30 c31 c32 c40 c41 c42
    go_wp2_with fail
    refine (F8.out w7 B7.out).mono ?_
    rintro e w8 ⟨v8, rfl, hO, hb⟩
    obtain ⟨a8, k8, rfl, _⟩ := Rw.owns_slice hO
    have B8 := Lib.hid (below_keep B7.out hb B7.out.size)
    rw [HN7.out] at hO ⊢
    have A8 := Lib.hid (Rw.own_at (S := tmS) hO HN7.out (by omega))
    have CS := Lib.hid (rsame_any a7 a8 n7 k7 n7 k8 _ _ true (eqTs_iff.2 rfl) w8 (A7.out.keep hb) A8.out)
    clear hO hb
    go_wp2_with fail
    refine CS.out.mono ?_
    rintro e w9 ⟨rfl, hb⟩
    have B9 := Lib.hid (below_keep B8.out hb B8.out.size)
    clear hb
    go_wp2_with fail
    refine (awake_any w9).mono ?_
    rintro e w10 ⟨rfl, hb⟩
    have B10 := Lib.hid (below_keep B9.out hb B9.out.size)
    clear hb
    go_wp2_with fail
    go_ret
    exact ⟨rfl, B10.out⟩
end Go.Proofs.Ytcfjnpepbjaacaa.Timer
namespace Go.Proofs.Ytcfjnpepbjaacaa
open Go.RowKit
theorem Contract.timerTells (a : Option Addr) (len cap : Nat) (x y : Int) (W : World) (h : IsTimer W a len cap) (_hx : (Lit.int .i64 x).wf = true) (_hy : (Lit.int .i64 y).wf = true) :
    Calls Try.prog 3 #[.slice a len cap, .int .i64 x, .int .i64 y] W fun e W' => e = .returned (.bool true) ∧ Below W.heap.size W W' := by
  obtain ⟨l, hl, hc⟩ := h
  exact Go.Proofs.Ytcfjnpepbjaacaa.Timer.tells_any a len cap l hc x y W hl
end Go.Proofs.Ytcfjnpepbjaacaa
