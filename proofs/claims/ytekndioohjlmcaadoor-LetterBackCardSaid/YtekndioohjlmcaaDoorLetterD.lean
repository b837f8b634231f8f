/-
  The contracts of cmp.Compare, of place's closure, of BinarySearchFunc over it and of place: rising letters; what was there stays as it was.
-/
import Derived.Test.YtekndioohjlmcaaDoorLetterC
set_option linter.unusedVariables false
set_option linter.unusedSimpArgs false
set_option maxRecDepth 4000
namespace Go.Proofs.YtekndioohjlmcaaDoor.Letter
open Go.RowKit LeP
open Go.Proofs.YtekndioohjlmcaaDoor.Kt

theorem cnan_any (n : Int) (w : World) : Calls Tryd.prog 42 #[.int .i64 n] w fun e w' => e = .returned (.bool false) ∧ w = w' := by
  have hn : (n != n) = false := by simp
  go_enter Tryd.func42, Tryd.ntmps42
  go_wp2_with fail
  go_ret
  exact ⟨rfl, rfl⟩
def cmpI (a b : Int) : Int := if a < b then -1 else if b < a then 1 else 0
theorem cmpI_lt {a b : Int} : cmpI a b < 0 ↔ a < b := by unfold cmpI; split <;> (try split) <;> omega
theorem cmpI_eq {a b : Int} : cmpI a b = 0 ↔ a = b := by unfold cmpI; split <;> (try split) <;> omega
theorem compare_any (a b : Int) (v : Int) (hv : cmpI a b = v) (w : World) : Calls Tryd.prog 37 #[.int .i64 a, .int .i64 b] w fun e w' => e = .returned (.int .i64 v) ∧ w = w' := by
  have K1 := Lib.hid (cnan_any a)
  have K2 := Lib.hid (cnan_any b)
  have HV := Lib.hid hv
  clear hv
  by_cases h1 : a < b
  · have HR : Hid (v = -1) := by show _ = _; rw [← HV.out, cmpI, if_pos h1]
    have e1 : decide (a < b) = true := decide_eq_true h1
    go_enter Tryd.func37, Tryd.ntmps37
    go_wp2_with fail
    refine (K1.out _).mono ?_
    rintro e w1 ⟨rfl, rfl⟩
    go_wp2_with fail
    refine (K2.out _).mono ?_
    rintro e w1 ⟨rfl, rfl⟩
    go_wp2_with fail
    go_ret
    exact ⟨ret_int HR.out, rfl⟩
  · by_cases h2 : b < a
    · have HR : Hid (v = 1) := by show _ = _; rw [← HV.out, cmpI, if_neg h1, if_pos h2]
      go_enter Tryd.func37, Tryd.ntmps37
      go_wp2_with fail
      refine (K1.out _).mono ?_
      rintro e w1 ⟨rfl, rfl⟩
      go_wp2_with fail
      refine (K2.out _).mono ?_
      rintro e w1 ⟨rfl, rfl⟩
      go_wp2_with fail
      go_ret
      exact ⟨ret_int HR.out, rfl⟩
    · have HR : Hid (v = 0) := by show _ = _; rw [← HV.out, cmpI, if_neg h1, if_neg h2]
      go_enter Tryd.func37, Tryd.ntmps37
      go_wp2_with fail
      refine (K1.out _).mono ?_
      rintro e w1 ⟨rfl, rfl⟩
      go_wp2_with fail
      refine (K2.out _).mono ?_
      rintro e w1 ⟨rfl, rfl⟩
      go_wp2_with fail
      go_ret
      exact ⟨ret_int HR.out, rfl⟩
theorem pcmp_any (x0 x1 : Int) (x2 : Bool) (x3 x4 : Int) (g v : Int) (hv : cmpI x0 g = v) (w : World) :
    Calls Tryd.prog 36 #[.agg #[.int .i64 x0, .int .i64 x1, .bool x2, .int .i64 x3, .int .i64 x4], .int .i64 g] w fun e w' => e = .returned (.int .i64 v) ∧ Below w.heap.size w w' := by
  have C := Lib.hid (fun w => compare_any x0 g v hv w)
  have HB := Lib.hid (bx5_new 24 w (.int .i64 x0) (.int .i64 x1) (.bool x2) (.int .i64 x3) (.int .i64 x4))
  obtain ⟨q0, q1, q2, q3, q4⟩ := cells5 HB.out.box
  clear hv
  go_enter Tryd.func36, Tryd.ntmps36
  go_wp2_with fail
  refine (C.out _).mono ?_
  rintro e w1 ⟨rfl, rfl⟩
  go_wp2_with fail
  go_ret
  exact ⟨rfl, HB.out.bel⟩
theorem ret_two {v : Value} {a b : Bool} (h : a = b) : Ending.returned (.tuple #[v, .bool b]) = .returned (.tuple #[v, .bool a]) := by rw [h]

set_option maxHeartbeats 2000000 in
theorem bsearch_any (a : Option Addr) (len cap : Nat) (l : List Lt) (g : Int) (p : Nat) (v : Bool) (hp : posL g l = p) (hv : (findL g l).isSome = v) (w : World) (h : LtAt w a len l) (hlen9 : len ≤ 1000000) (hf : Up l) :
    Calls Tryd.prog 35 #[.slice a len cap, .int .i64 g, .func (.func 36) #[] #[]] w
      fun e w' => e = .returned (.tuple #[.int .i64 (p : Int), .bool v]) ∧ Below w.heap.size w w' := by
  have hlen := h.1
  have hpl : posL g l ≤ len := by rw [← hlen]; exact posL_le g l
  have HX := Lib.hid h
  have HP := Lib.hid (fun (m : Nat) (hm : m < len) => posL_iff (g := g) hf (i := m) (by rw [hlen]; exact hm))
  have hps := @place_some l g hf
  have hpn := @place_none l g hf
  rw [hp] at hpl HP hps hpn
  rw [hlen] at hps hpn
  have HPS := Lib.hid hps
  have HPN := Lib.hid hpn
  have HV := Lib.hid hv
  clear hp hf h hlen hps hpn hv
  go_enter Tryd.func35, Tryd.ntmps35
  go_wp2_with fail
  go_loopw [9, 10] (fun i j wr => ∃ lo hi : Nat, i = .int .i64 (lo : Int) ∧ j = .int .i64 (hi : Int) ∧ lo ≤ p ∧ p ≤ hi ∧ hi ≤ len ∧ Hid (Below w.heap.size w wr)) (fun i j _ => (intOf j).toNat - (intOf i).toNat)
  case atStart => exact ⟨0, len, rfl, rfl, Nat.zero_le _, hpl, Nat.le_refl _, Below.refl _ w⟩
  case round =>
    obtain ⟨lo, hi, rfl, rfl, hlo, hhi, hhl, hB⟩ := hrel
    by_cases hlt : lo < hi
    · obtain ⟨m, hm⟩ : ∃ m : Nat, m = (lo + hi) / 2 := ⟨_, rfl⟩
      have hm1 : lo ≤ m := by omega
      have hm2 : m < hi := by omega
      have hdiv : ((lo : Int) + (hi : Int)) / 2 = (m : Int) := by omega
      have hml : m < len := by omega
      obtain ⟨b1, o1, x0, x1, x2, x3, x4, rfl, g1, hx, hc1⟩ := LtAt.at HX.out hml
      obtain ⟨d0, d1, d2, d3, d4⟩ := hc1 wr hB.out
      have hpm := HP.out m hml
      rw [hx] at hpm
      simp only at hpm
      obtain ⟨v1, hv1⟩ : ∃ v1, cmpI x0 g = v1 := ⟨_, rfl⟩
      have C := Lib.hid (pcmp_any x0 x1 x2 x3 x4 g v1 hv1 wr)
      by_cases hq : v1 < 0
      · have hq' : m < p := hpm.2 (cmpI_lt.1 (by rw [hv1]; exact hq))
        clear hm hx hc1 hpm hv1
        go_wp2_with fail
        refine C.out.mono ?_
        rintro e w1 ⟨rfl, hb⟩
        have HB1 := Lib.hid (below_keep hB.out hb hB.out.size)
        go_wp2_with fail
        go_roundw
        case rel => exact ⟨m + 1, hi, by go_num, by go_num, by omega, by omega, by omega, HB1⟩
        case measure => simp [intOf]; omega
      · have hq' : ¬ m < p := fun k => hq (by rw [← hv1]; exact cmpI_lt.2 (hpm.1 k))
        clear hm hx hc1 hpm hv1
        go_wp2_with fail
        refine C.out.mono ?_
        rintro e w1 ⟨rfl, hb⟩
        have HB1 := Lib.hid (below_keep hB.out hb hB.out.size)
        go_wp2_with fail
        go_roundw
        case rel => exact ⟨lo, m, by go_num, by go_num, by omega, by omega, by omega, HB1⟩
        case measure => simp [intOf]; omega
    · obtain rfl : lo = hi := by omega
      obtain rfl : lo = p := by omega
      by_cases hin : lo < len
      · obtain ⟨b1, o1, x0, x1, x2, x3, x4, rfl, g1, hx, hc1⟩ := LtAt.at HX.out hin
        obtain ⟨d0, d1, d2, d3, d4⟩ := hc1 wr hB.out
        obtain ⟨v1, hv1⟩ : ∃ v1, cmpI x0 g = v1 := ⟨_, rfl⟩
        have C := Lib.hid (pcmp_any x0 x1 x2 x3 x4 g v1 hv1 wr)
        by_cases hq : v1 = 0
        · have HV2 : Hid (v = true) := by
            show v = true
            rw [← HV.out, HPS.out hin (by rw [hx]; exact cmpI_eq.1 (by rw [hv1]; exact hq))]; rfl
          clear hx hc1 hv1
          subst hq
          go_wp2_with fail
          refine C.out.mono ?_
          rintro e w1 ⟨rfl, hb⟩
          have HB1 := Lib.hid (below_keep hB.out hb hB.out.size)
          go_wp2_with fail
          go_ret2
          exact ⟨ret_two HV2.out, HB1.out⟩
        · have HV2 : Hid (v = (v1 == 0)) := by
            show v = (v1 == 0)
            rw [show (v1 == 0) = false by simpa using hq, ← HV.out, HPN.out (fun k => hq (by have e := k.2; rw [hx] at e; rw [← hv1]; exact cmpI_eq.2 e))]; rfl
          clear hx hc1 hv1
          go_wp2_with fail
          refine C.out.mono ?_
          rintro e w1 ⟨rfl, hb⟩
          have HB1 := Lib.hid (below_keep hB.out hb hB.out.size)
          go_wp2_with fail
          go_ret2
          exact ⟨ret_two HV2.out, HB1.out⟩
      · have HV2 : Hid (v = false) := by
          show v = false
          rw [← HV.out, HPN.out (fun k => hin k.1)]; rfl
        go_wp2_with fail
        go_ret2
        exact ⟨ret_two HV2.out, hB.out⟩
theorem place_any (a : Option Addr) (len cap : Nat) (l : List Lt) (g : Int) (p : Nat) (v : Bool) (hp : posL g l = p) (hv : (findL g l).isSome = v) (w : World) (h : LtAt w a len l) (hlen : len ≤ 1000000) (hf : Up l) :
    Calls Tryd.prog 27 #[.slice a len cap, .int .i64 g] w fun e w' => e = .returned (.tuple #[.int .i64 (p : Int), .bool v]) ∧ Below w.heap.size w w' := by
  have C := Lib.hid (bsearch_any a len cap l g p v hp hv w h hlen hf)
  clear h hf hp hv
  go_enter Tryd.func27, Tryd.ntmps27
  go_wp2_with fail
  refine C.out.mono ?_
  rintro e w1 ⟨rfl, hb⟩
  have HB := Lib.hid hb
  go_wp2_with fail
  go_ret2
  exact ⟨rfl, HB.out⟩
end Go.Proofs.YtekndioohjlmcaaDoor.Letter
