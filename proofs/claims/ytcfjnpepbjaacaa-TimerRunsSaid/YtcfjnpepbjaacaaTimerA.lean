/-
  A timer in memory; the contracts of valid and of the document's One, of the document's Ahead, of numbers: any timer; what was there stays as it was.
-/
import Derived.Test.YtcfjnpepbjaacaaTimerFit
import Derived.Test.YtcfjnpepbjaacaaNumA
import Derived.Test.YtcfjnpepbjaacaaKt
import Derived.Test.YtcfjnpepbjaacaaRw
set_option linter.unusedVariables false
set_option linter.unusedSimpArgs false
set_option maxRecDepth 4000
namespace Go.Proofs.Ytcfjnpepbjaacaa.Timer
open Go.RowKit TimerP
open Go.Proofs.Ytcfjnpepbjaacaa.Kt

def tcell (t : Tm) : List Value := [.int .i64 t.at_, .int .i64 t.saga, .int .i64 t.kind]
def tmV (t : Tm) : Value := .agg #[.int .i64 t.at_, .int .i64 t.saga, .int .i64 t.kind]
/-- Timers as elements of a slice. -/
def tmS : Rw.Sh Tm where
  c := tcell
  z := tm0
  zv := .agg #[.int .i64 0, .int .i64 0, .int .i64 0]
  ts := 22
  te := 25
  k := 3
  bytes := 24
  pos := by decide
  small := by decide
  len := fun t => rfl
  one := fun t u hu => by
    simp only [tcell, List.mem_cons, List.mem_nil_iff, or_false] at hu
    rcases hu with rfl | rfl | rfl <;> rfl
  zcells := rfl
  und := Try.underlying22
  info := by kernel_rfl
/-- A slice of timers. -/
abbrev TmAt (w : World) (a : Option Addr) (len : Nat) (l : List Tm) : Prop := Rw.At tmS w a len l
theorem TmAt.at {w : World} {a : Option Addr} {len : Nat} {l : List Tm} (h : TmAt w a len l) {i : Nat} (hi : i < len) :
    ∃ b off x0 x1 x2, a = some ⟨b, off, none⟩ ∧ b < w.heap.size ∧ l.getD i tm0 = ⟨x0, x1, x2⟩ ∧ ∀ w', Below w.heap.size w w' →
      w'.cell? ⟨b, off + i * 3, none⟩ = some (.int .i64 x0) ∧ w'.cell? ⟨b, off + i * 3 + 1, none⟩ = some (.int .i64 x1) ∧ w'.cell? ⟨b, off + i * 3 + 2, none⟩ = some (.int .i64 x2) := by
  obtain ⟨b, off, e, hlt, _, hc⟩ := Rw.At.at h hi rfl
  refine ⟨b, off, (l.getD i tm0).at_, (l.getD i tm0).saga, (l.getD i tm0).kind, e, hlt, rfl, fun w' hb => ⟨?_, ?_, ?_⟩⟩
  · exact hc w' hb 0 _ rfl
  · exact hc w' hb 1 _ rfl
  · exact hc w' hb 2 _ rfl
/-- The results of a function whose first result stands in a cell. -/
theorem results_tm {fn : Func} {j k : Nat} (h : fn.results = #[.cell j 25, .tmp k]) (tmps : Array Value) (w : World) (b : Nat) (x0 x1 x2 : Value) (hp : tmps.getD j undef = .pointer (some ⟨b, 0, none⟩))
    (c : At3 25 w b x0 x1 x2) : (results fn tmps).run Try.prog w = .ok (.tuple #[.agg #[x0, x1, x2], tmps.getD k undef]) w := by
  have hp' : tmps[j]?.getD undef = .pointer (some ⟨b, 0, none⟩) := by rw [← hp]; simp
  obtain ⟨c0, c1, c2⟩ := cells3 c
  simp only [results, h]
  go_simp
theorem results_arr {fn : Func} {j : Nat} (h : fn.results = #[.cell j 42]) (tmps : Array Value) (w : World) (b : Nat) (x0 x1 x2 : Value) (hp : tmps.getD j undef = .pointer (some ⟨b, 0, none⟩))
    (c : At3 42 w b x0 x1 x2) : (results fn tmps).run Try.prog w = .ok (.agg #[x0, x1, x2]) w := by
  have hp' : tmps[j]?.getD undef = .pointer (some ⟨b, 0, none⟩) := by rw [← hp]; simp
  obtain ⟨c0, c1, c2⟩ := cells3 c
  simp only [results, h]
  go_simp
theorem nfit_is (n : Int) (v : Bool) (hv : amtT n = v) (w : World) : Calls Try.prog 26 #[.int .i64 n] w fun e w' => e = .returned (.bool v) ∧ w = w' := by
  have h := Num.fit_any n w
  rw [show NumP.amt n = amtT n from rfl, hv] at h
  exact h
theorem nrfit_is (n : Int) (v : Bool) (hv : amtT n = v) (w : World) : Calls Try.prog 25 #[.int .i64 n] w fun e w' => e = .returned (.bool v) ∧ w = w' := by
  have h := Num.rfit_any n w
  rw [show NumP.amt n = amtT n from rfl, hv] at h
  exact h
theorem amt_yes {n : Int} (h : 0 ≤ n) (k : n ≤ 1099511627776) : amtT n = true := by unfold amtT; simp [h, k]
theorem amt_no {n : Int} (h : n < 0 ∨ 1099511627776 < n) : amtT n = false := by
  unfold amtT
  rcases h with h | h
  · rw [decide_eq_false (show ¬ 0 ≤ n by omega)]; rfl
  · rw [decide_eq_false (show ¬ n ≤ 1099511627776 by omega), Bool.and_false]
theorem one_iff {x0 x1 x2 : Int} : oneT ⟨x0, x1, x2⟩ = true ↔ (0 ≤ x0 ∧ x0 ≤ 1099511627776) ∧ 1 ≤ x1 ∧ x1 ≤ 1099511627776 ∧ 1 ≤ x2 ∧ x2 ≤ 4 := by
  unfold oneT amtT
  simp only [Bool.and_eq_true, decide_eq_true_eq]
  omega
theorem one_no {x0 x1 x2 : Int} (h : ¬ ((0 ≤ x0 ∧ x0 ≤ 1099511627776) ∧ 1 ≤ x1 ∧ x1 ≤ 1099511627776 ∧ 1 ≤ x2 ∧ x2 ≤ 4)) : oneT ⟨x0, x1, x2⟩ = false := by
  cases e : oneT ⟨x0, x1, x2⟩ with
  | false => rfl
  | true => exact absurd (one_iff.1 e) h

theorem valid_is (x0 x1 x2 : Int) (v : Bool) (hv : oneT ⟨x0, x1, x2⟩ = v) (w : World) :
    Calls Try.prog 20 #[.agg #[.int .i64 x0, .int .i64 x1, .int .i64 x2]] w fun e w' => e = .returned (.bool v) ∧ Below w.heap.size w w' := by
  subst hv
  by_cases h0 : 0 ≤ x0 ∧ x0 ≤ 1099511627776
  rotate_left
  · rw [one_no (by omega)]
    have K0 := Lib.hid (nfit_is x0 false (amt_no (by omega)))
    clear h0
    have HB0 := Lib.hid (bx3_new 25 w (.int .i64 x0) (.int .i64 x1) (.int .i64 x2))
    go_enter Try.func20, Try.ntmps20
    go_wp2_with fail
    refine (K0.out _).mono ?_
    rintro e w1 ⟨rfl, rfl⟩
    obtain ⟨q0, q1, q2⟩ := cells3 HB0.out.box
    go_wp2_with fail
    go_ret
    exact ⟨rfl, HB0.out.bel⟩
  have K0 := Lib.hid (nfit_is x0 true (amt_yes h0.1 h0.2))
  by_cases h1 : 1 ≤ x1
  rotate_left
  · rw [one_no (by omega)]
    clear h0
    have HB0 := Lib.hid (bx3_new 25 w (.int .i64 x0) (.int .i64 x1) (.int .i64 x2))
    go_enter Try.func20, Try.ntmps20
    go_wp2_with fail
    refine (K0.out _).mono ?_
    rintro e w1 ⟨rfl, rfl⟩
    obtain ⟨q0, q1, q2⟩ := cells3 HB0.out.box
    go_wp2_with fail
    go_ret
    exact ⟨rfl, HB0.out.bel⟩

  by_cases h2 : x1 ≤ 1099511627776
  rotate_left
  · rw [one_no (by omega)]
    have K1 := Lib.hid (nfit_is x1 false (amt_no (by omega)))
    clear h0 h2
    have HB0 := Lib.hid (bx3_new 25 w (.int .i64 x0) (.int .i64 x1) (.int .i64 x2))
    go_enter Try.func20, Try.ntmps20
    go_wp2_with fail
    refine (K0.out _).mono ?_
    rintro e w1 ⟨rfl, rfl⟩
    obtain ⟨q0, q1, q2⟩ := cells3 HB0.out.box
    go_wp2_with fail
    refine (K1.out _).mono ?_
    rintro e w1 ⟨rfl, rfl⟩
    go_wp2_with fail
    go_ret
    exact ⟨rfl, HB0.out.bel⟩
  have K1 := Lib.hid (nfit_is x1 true (amt_yes (by omega) h2))
  by_cases h3 : 1 ≤ x2
  rotate_left
  · rw [one_no (by omega)]
    clear h0
    have HB0 := Lib.hid (bx3_new 25 w (.int .i64 x0) (.int .i64 x1) (.int .i64 x2))
    go_enter Try.func20, Try.ntmps20
    go_wp2_with fail
    refine (K0.out _).mono ?_
    rintro e w1 ⟨rfl, rfl⟩
    obtain ⟨q0, q1, q2⟩ := cells3 HB0.out.box
    go_wp2_with fail
    refine (K1.out _).mono ?_
    rintro e w1 ⟨rfl, rfl⟩
    go_wp2_with fail
    go_ret
    exact ⟨rfl, HB0.out.bel⟩
  by_cases h4 : x2 ≤ 4
  rotate_left
  · rw [one_no (by omega)]
    clear h0
    have HB0 := Lib.hid (bx3_new 25 w (.int .i64 x0) (.int .i64 x1) (.int .i64 x2))
    go_enter Try.func20, Try.ntmps20
    go_wp2_with fail
    refine (K0.out _).mono ?_
    rintro e w1 ⟨rfl, rfl⟩
    obtain ⟨q0, q1, q2⟩ := cells3 HB0.out.box
    go_wp2_with fail
    refine (K1.out _).mono ?_
    rintro e w1 ⟨rfl, rfl⟩
    go_wp2_with fail
    go_ret
    exact ⟨ret_bool (by simp; omega), HB0.out.bel⟩
  rw [one_iff.2 ⟨h0, h1, h2, h3, h4⟩]
  clear h0
  have HB0 := Lib.hid (bx3_new 25 w (.int .i64 x0) (.int .i64 x1) (.int .i64 x2))
  go_enter Try.func20, Try.ntmps20
  go_wp2_with fail
  refine (K0.out _).mono ?_
  rintro e w1 ⟨rfl, rfl⟩
  obtain ⟨q0, q1, q2⟩ := cells3 HB0.out.box
  go_wp2_with fail
  refine (K1.out _).mono ?_
  rintro e w1 ⟨rfl, rfl⟩
  go_wp2_with fail
  go_ret
  exact ⟨rfl, HB0.out.bel⟩

theorem rone_is (x0 x1 x2 : Int) (v : Bool) (hv : oneT ⟨x0, x1, x2⟩ = v) (w : World) :
    Calls Try.prog 18 #[.agg #[.int .i64 x0, .int .i64 x1, .int .i64 x2]] w fun e w' => e = .returned (.bool v) ∧ Below w.heap.size w w' := by
  subst hv
  by_cases h0 : 0 ≤ x0 ∧ x0 ≤ 1099511627776
  rotate_left
  · rw [one_no (by omega)]
    have K0 := Lib.hid (nrfit_is x0 false (amt_no (by omega)))
    clear h0
    have HB0 := Lib.hid (bx3_new 25 w (.int .i64 x0) (.int .i64 x1) (.int .i64 x2))
    go_enter Try.func18, Try.ntmps18
    go_wp2_with fail
    refine (K0.out _).mono ?_
    rintro e w1 ⟨rfl, rfl⟩
    obtain ⟨q0, q1, q2⟩ := cells3 HB0.out.box
    go_wp2_with fail
    go_ret
    exact ⟨rfl, HB0.out.bel⟩
  have K0 := Lib.hid (nrfit_is x0 true (amt_yes h0.1 h0.2))
  by_cases h1 : 1 ≤ x1
  rotate_left
  · rw [one_no (by omega)]
    clear h0
    have HB0 := Lib.hid (bx3_new 25 w (.int .i64 x0) (.int .i64 x1) (.int .i64 x2))
    go_enter Try.func18, Try.ntmps18
    go_wp2_with fail
    refine (K0.out _).mono ?_
    rintro e w1 ⟨rfl, rfl⟩
    obtain ⟨q0, q1, q2⟩ := cells3 HB0.out.box
    go_wp2_with fail
    go_ret
    exact ⟨rfl, HB0.out.bel⟩

  by_cases h2 : x1 ≤ 1099511627776
  rotate_left
  · rw [one_no (by omega)]
    clear h0
    have HB0 := Lib.hid (bx3_new 25 w (.int .i64 x0) (.int .i64 x1) (.int .i64 x2))
    go_enter Try.func18, Try.ntmps18
    go_wp2_with fail
    refine (K0.out _).mono ?_
    rintro e w1 ⟨rfl, rfl⟩
    obtain ⟨q0, q1, q2⟩ := cells3 HB0.out.box
    go_wp2_with fail
    go_ret
    exact ⟨rfl, HB0.out.bel⟩

  by_cases h3 : 1 ≤ x2
  rotate_left
  · rw [one_no (by omega)]
    clear h0
    have HB0 := Lib.hid (bx3_new 25 w (.int .i64 x0) (.int .i64 x1) (.int .i64 x2))
    go_enter Try.func18, Try.ntmps18
    go_wp2_with fail
    refine (K0.out _).mono ?_
    rintro e w1 ⟨rfl, rfl⟩
    obtain ⟨q0, q1, q2⟩ := cells3 HB0.out.box
    go_wp2_with fail
    go_ret
    exact ⟨rfl, HB0.out.bel⟩
  by_cases h4 : x2 ≤ 4
  rotate_left
  · rw [one_no (by omega)]
    clear h0
    have HB0 := Lib.hid (bx3_new 25 w (.int .i64 x0) (.int .i64 x1) (.int .i64 x2))
    go_enter Try.func18, Try.ntmps18
    go_wp2_with fail
    refine (K0.out _).mono ?_
    rintro e w1 ⟨rfl, rfl⟩
    obtain ⟨q0, q1, q2⟩ := cells3 HB0.out.box
    go_wp2_with fail
    go_ret
    exact ⟨ret_bool (by simp; omega), HB0.out.bel⟩
  rw [one_iff.2 ⟨h0, h1, h2, h3, h4⟩]
  clear h0
  have HB0 := Lib.hid (bx3_new 25 w (.int .i64 x0) (.int .i64 x1) (.int .i64 x2))
  go_enter Try.func18, Try.ntmps18
  go_wp2_with fail
  refine (K0.out _).mono ?_
  rintro e w1 ⟨rfl, rfl⟩
  obtain ⟨q0, q1, q2⟩ := cells3 HB0.out.box
  go_wp2_with fail
  go_ret
  exact ⟨rfl, HB0.out.bel⟩

theorem rahead_is (x0 x1 x2 y0 y1 y2 : Int) (v : Bool) (hv : aheadB ⟨x0, x1, x2⟩ ⟨y0, y1, y2⟩ = v) (w : World) :
    Calls Try.prog 19 #[.agg #[.int .i64 x0, .int .i64 x1, .int .i64 x2], .agg #[.int .i64 y0, .int .i64 y1, .int .i64 y2]] w fun e w' => e = .returned (.bool v) ∧ Below w.heap.size w w' := by
  have HB := Lib.hid (((Below.refl w.heap.size w).alloc (Nat.le_refl _) (.cells #[.int .i64 x0, .int .i64 x1, .int .i64 x2] 25)).alloc (by simp) (.cells #[.int .i64 y0, .int .i64 y1, .int .i64 y2] 25))
  unfold aheadB at hv
  dsimp only at hv
  have hs := World.size_alloc w (.cells #[.int .i64 x0, .int .i64 x1, .int .i64 x2] 25)
  have hc := cells3 ((at3_new 25 w (.int .i64 x0) (.int .i64 x1) (.int .i64 x2)).alloc (.cells #[.int .i64 y0, .int .i64 y1, .int .i64 y2] 25))
  have hd := cells3 (at3_new 25 (w.alloc (.cells #[.int .i64 x0, .int .i64 x1, .int .i64 x2] 25)) (.int .i64 y0) (.int .i64 y1) (.int .i64 y2))
  rw [hs] at hd
  obtain ⟨c0, c1, c2⟩ := hc
  obtain ⟨d0, d1, d2⟩ := hd
  obtain ⟨w0, hw0⟩ : ∃ w0, (w.alloc (.cells #[.int .i64 x0, .int .i64 x1, .int .i64 x2] 25)).alloc (.cells #[.int .i64 y0, .int .i64 y1, .int .i64 y2] 25) = w0 := ⟨_, rfl⟩
  rw [hw0] at HB c0 c1 c2 d0 d1 d2
  have HW := Lib.hid hw0
  clear hw0 hs
  by_cases h0 : x0 = y0
  · rw [if_pos h0] at hv
    by_cases h1 : x1 = y1
    · rw [if_pos h1] at hv
      have HV := Lib.hid hv
      have e0 : (x0 != y0) = false := by simp [h0]
      have e1 : (x1 != y1) = false := by simp [h1]
      clear hv h0 h1
      go_enter Try.func19, Try.ntmps19
      go_wp2_with fail
      rw [show (w.alloc (.cells #[.int .i64 x0, .int .i64 x1, .int .i64 x2] 25)).alloc (.cells #[.int .i64 y0, .int .i64 y1, .int .i64 y2] 25) = w0 from HW.out]
      go_wp2_with fail
      go_ret
      exact ⟨ret_bool HV.out.symm, HB.out⟩
    · rw [if_neg h1] at hv
      have HV := Lib.hid hv
      have e0 : (x0 != y0) = false := by simp [h0]
      have e1 : (x1 != y1) = true := by simp [h1]
      clear hv h0 h1
      go_enter Try.func19, Try.ntmps19
      go_wp2_with fail
      rw [show (w.alloc (.cells #[.int .i64 x0, .int .i64 x1, .int .i64 x2] 25)).alloc (.cells #[.int .i64 y0, .int .i64 y1, .int .i64 y2] 25) = w0 from HW.out]
      go_wp2_with fail
      go_ret
      exact ⟨ret_bool HV.out.symm, HB.out⟩
  · rw [if_neg h0] at hv
    have HV := Lib.hid hv
    have e0 : (x0 != y0) = true := by simp [h0]
    clear hv h0
    go_enter Try.func19, Try.ntmps19
    go_wp2_with fail
    rw [show (w.alloc (.cells #[.int .i64 x0, .int .i64 x1, .int .i64 x2] 25)).alloc (.cells #[.int .i64 y0, .int .i64 y1, .int .i64 y2] 25) = w0 from HW.out]
    go_wp2_with fail
    go_ret
    exact ⟨ret_bool HV.out.symm, HB.out⟩
theorem numbers_any (x0 x1 x2 : Int) (w : World) :
    Calls Try.prog 27 #[.agg #[.int .i64 x0, .int .i64 x1, .int .i64 x2]] w fun e w' => e = .returned (.agg #[.int .i64 x0, .int .i64 x1, .int .i64 x2]) ∧ Below w.heap.size w w' := by
  have HB1 := (Below.refl w.heap.size w).alloc (Nat.le_refl _) (.cells #[.int .i64 x0, .int .i64 x1, .int .i64 x2] 25)
  have HB := Lib.hid (HB1.alloc (by simp) (.cells #[.int .i64 x0, .int .i64 x1, .int .i64 x2] 42))
  have hd := at3_new 42 (w.alloc (.cells #[.int .i64 x0, .int .i64 x1, .int .i64 x2] 25)) (.int .i64 x0) (.int .i64 x1) (.int .i64 x2)
  rw [World.size_alloc] at hd
  have HD := Lib.hid hd
  clear hd HB1
  go_enter Try.func27, Try.ntmps27
  go_wp2_with fail
  exact bodyPost_ret (results_arr (j := 2) rfl _ _ (w.heap.size + 1) _ _ _ rfl HD.out) rfl ⟨rfl, HB.out⟩
end Go.Proofs.Ytcfjnpepbjaacaa.Timer
