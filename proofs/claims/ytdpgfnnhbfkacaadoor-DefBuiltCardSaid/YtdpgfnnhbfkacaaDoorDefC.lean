/-
  The contracts of what the program's Fit calls: many, byClass and IsSortedFunc over it, shipped, captured, each over its two closures: any definition; what was there stays as it was.
-/
import Derived.Test.YtdpgfnnhbfkacaaDoorDefB
import Derived.Test.YtdpgfnnhbfkacaaDoorDefRules
import Derived.Test.YtdpgfnnhbfkacaaDoorStepB
import Derived.Lib.QuietBelow
set_option linter.unusedVariables false
set_option linter.unusedSimpArgs false
set_option maxRecDepth 4000
set_option maxRecDepth 4000
namespace Go.Proofs.YtdpgfnnhbfkacaaDoor.Def
open Go.RowKit DefP
open Go.Proofs.YtdpgfnnhbfkacaaDoor.Kt

theorem cnan_any (n : Int) (w : World) : Calls Tryd.prog 56 #[.int .i64 n] w fun e w' => e = .returned (.bool false) ∧ w = w' := by
  have hn : (n != n) = false := by simp
  go_enter Tryd.func56, Tryd.ntmps56
  go_wp2_with fail
  go_ret
  exact ⟨rfl, rfl⟩
def cmpI (a b : Int) : Int := if a < b then -1 else if b < a then 1 else 0
theorem cmpI_lt {a b : Int} : cmpI a b < 0 ↔ a < b := by unfold cmpI; split <;> (try split) <;> omega
theorem cmpI_eq {a b : Int} : cmpI a b = 0 ↔ a = b := by unfold cmpI; split <;> (try split) <;> omega
theorem compare_any (a b : Int) (v : Int) (hv : cmpI a b = v) (w : World) : Calls Tryd.prog 43 #[.int .i64 a, .int .i64 b] w fun e w' => e = .returned (.int .i64 v) ∧ w = w' := by
  have K1 := Lib.hid (cnan_any a)
  have K2 := Lib.hid (cnan_any b)
  have HV := Lib.hid hv
  clear hv
  by_cases h1 : a < b
  · have HR : Hid (v = -1) := by show _ = _; rw [← HV.out, cmpI, if_pos h1]
    have e1 : decide (a < b) = true := decide_eq_true h1
    go_enter Tryd.func43, Tryd.ntmps43
    go_wp2_with fail
    refine (K1.out _).mono ?_
    rintro e w1 ⟨rfl, rfl⟩
    go_wp2_with fail
    refine (K2.out _).mono ?_
    rintro e w1 ⟨rfl, rfl⟩
    go_wp2_with fail
    go_ret
    exact ⟨ret_int HR.out, rfl⟩
  · by_cases h2 : b < a
    · have HR : Hid (v = 1) := by show _ = _; rw [← HV.out, cmpI, if_neg h1, if_pos h2]
      go_enter Tryd.func43, Tryd.ntmps43
      go_wp2_with fail
      refine (K1.out _).mono ?_
      rintro e w1 ⟨rfl, rfl⟩
      go_wp2_with fail
      refine (K2.out _).mono ?_
      rintro e w1 ⟨rfl, rfl⟩
      go_wp2_with fail
      go_ret
      exact ⟨ret_int HR.out, rfl⟩
    · have HR : Hid (v = 0) := by show _ = _; rw [← HV.out, cmpI, if_neg h1, if_neg h2]
      go_enter Tryd.func43, Tryd.ntmps43
      go_wp2_with fail
      refine (K1.out _).mono ?_
      rintro e w1 ⟨rfl, rfl⟩
      go_wp2_with fail
      refine (K2.out _).mono ?_
      rintro e w1 ⟨rfl, rfl⟩
      go_wp2_with fail
      go_ret
      exact ⟨ret_int HR.out, rfl⟩

theorem byclass_any (x0 x1 x2 x3 x4 x5 : Int) (y0 y1 y2 y3 y4 y5 : Int) (v : Int) (hv : cmpI x1 y1 = v) (w : World) :
    Calls Tryd.prog 25 #[.agg #[.int .i64 x0, .int .i64 x1, .int .i64 x2, .int .i64 x3, .int .i64 x4, .int .i64 x5], .agg #[.int .i64 y0, .int .i64 y1, .int .i64 y2, .int .i64 y3, .int .i64 y4, .int .i64 y5]] w fun e w' => e = .returned (.int .i64 v) ∧ Below w.heap.size w w' := by
  have C := Lib.hid (compare_any x1 y1 v hv)
  have hA := (at6_new 29 w (.int .i64 x0) (.int .i64 x1) (.int .i64 x2) (.int .i64 x3) (.int .i64 x4) (.int .i64 x5)).alloc (.cells #[.int .i64 y0, .int .i64 y1, .int .i64 y2, .int .i64 y3, .int .i64 y4, .int .i64 y5] 29)
  have hB := at6_new 29 (w.alloc (.cells #[.int .i64 x0, .int .i64 x1, .int .i64 x2, .int .i64 x3, .int .i64 x4, .int .i64 x5] 29)) (.int .i64 y0) (.int .i64 y1) (.int .i64 y2) (.int .i64 y3) (.int .i64 y4) (.int .i64 y5)
  rw [World.size_alloc] at hB
  have HB := Lib.hid (((Below.refl _ w).alloc (Nat.le_refl _) (.cells #[.int .i64 x0, .int .i64 x1, .int .i64 x2, .int .i64 x3, .int .i64 x4, .int .i64 x5] 29)).alloc (by rw [World.size_alloc]; omega) (.cells #[.int .i64 y0, .int .i64 y1, .int .i64 y2, .int .i64 y3, .int .i64 y4, .int .i64 y5] 29))
  obtain ⟨d0, d1, d2, d3, d4, d5⟩ := cells6 hA
  obtain ⟨q0, q1, q2, q3, q4, q5⟩ := cells6 hB
  clear hA hB hv
  go_enter Tryd.func25, Tryd.ntmps25
  go_wp2_with fail
  refine (C.out _).mono ?_
  rintro e w1 ⟨rfl, rfl⟩
  go_wp2_with fail
  go_ret
  exact ⟨rfl, HB.out⟩
set_option maxHeartbeats 4000000 in
theorem sorted_any (a : Option Addr) (n c : Nat) (l : List Step) (v : Bool) (hv : sortR l (n - 1) = v) (w : World) (h : StAt w a n l) :
    Calls Tryd.prog 24 #[.slice a n c, .func (.func 25) #[] #[]] w fun e w' => e = .returned (.bool v) ∧ Below w.heap.size w w' := by
  have hl := h.2.1
  have HX := Lib.hid h
  by_cases hn : n = 0
  · subst hn
    have HV : Hid (v = true) := hv.symm
    clear h hv
    go_enter Tryd.func24, Tryd.ntmps24
    go_wp2_with fail
    go_loopw [5] (fun i wr => i = .int .i64 (-1) ∧ wr = w) (fun i _ => 0)
    case atStart => exact ⟨rfl, rfl⟩
    case round =>
      obtain ⟨rfl, rfl⟩ := hrel
      go_wp2_with fail
      go_ret
      exact ⟨ret_bool HV.out, Below.refl _ _⟩
  have HV : Hid (v = sortR l (n - 1)) := hv.symm
  clear h hv
  go_enter Tryd.func24, Tryd.ntmps24
  go_wp2_with fail
  go_loopw [5] (fun i wr => ∃ k : Nat, k < n ∧ i = .int .i64 (k : Int) ∧ Hid (v = sortR l k) ∧ Hid (Below w.heap.size w wr)) (fun i _ => (intOf i).toNat)
  case atStart => exact ⟨n - 1, by omega, by go_num, HV, Below.refl _ w⟩
  case round =>
    obtain ⟨k, hk, rfl, hd, hB⟩ := hrel
    match k, hk, hd with
    | 0, hk, hd =>
      have HD : Hid (v = true) := hd.out
      clear hd
      go_wp2_with fail
      go_ret
      exact ⟨ret_bool HD.out, hB.out⟩
    | k + 1, hk, hd =>
      obtain ⟨b1, o1, x0, x1, x2, x3, x4, x5, ea, g1, hp, hc1⟩ := StAt.at HX.out (show k < n by omega)
      obtain ⟨b2, o2, y0, y1, y2, y3, y4, y5, ea2, g2, hq, hc2⟩ := StAt.at HX.out hk
      subst ea
      obtain ⟨rfl, rfl⟩ : b1 = b2 ∧ o1 = o2 := by simp at ea2; exact ea2
      obtain ⟨q, hqk⟩ : ∃ q, k + 1 = q := ⟨_, rfl⟩
      rw [hqk] at hd hk hc2 ⊢
      have hq0 : (0 : Int) < (q : Int) := by omega
      have hi0 : (0 : Int) ≤ (q : Int) := by omega
      have hi1 : (q : Int) < (n : Int) := by omega
      have hqm : IntKind.i64.wrap ((q : Int) - 1) = (k : Int) := by rw [IntKind.wrap_i64]; omega
      have hj0 : (0 : Int) ≤ (k : Int) := by omega
      have hj1 : (k : Int) < (n : Int) := by omega
      obtain ⟨d0, d1, d2, d3, d4, d5⟩ := hc1 wr hB.out
      obtain ⟨e0, e1, e2, e3, e4, e5⟩ := hc2 wr hB.out
      clear hc1 hc2 g1 g2 ea2
      obtain ⟨r, hr⟩ : ∃ r, cmpI y1 x1 = r := ⟨_, rfl⟩
      have CB := Lib.hid (fun d os => Calls.regrown_of (byclass_any y0 y1 y2 y3 y4 y5 x0 x1 x2 x3 x4 x5 r hr (Sort.grow (redrawn wr d) os)))
      have r0 := fun d os => cell_regrown d0 d os
      have r1 := fun d os => cell_regrown d1 d os
      have r2 := fun d os => cell_regrown d2 d os
      have r3 := fun d os => cell_regrown d3 d os
      have r4 := fun d os => cell_regrown d4 d os
      have r5 := fun d os => cell_regrown d5 d os
      have t0 := fun d os => cell_regrown e0 d os
      have t1 := fun d os => cell_regrown e1 d os
      have t2 := fun d os => cell_regrown e2 d os
      have t3 := fun d os => cell_regrown e3 d os
      have t4 := fun d os => cell_regrown e4 d os
      have t5 := fun d os => cell_regrown e5 d os
      clear d0 d1 d2 d3 d4 d5 e0 e1 e2 e3 e4 e5
      by_cases hlt : y1 < x1
      · have HD : Hid (v = false) := hd.out.trans (by rw [← hqk]; exact sort_no hp hq hlt)
        have hr0 : (decide (r < 0)) = true := by rw [← hr]; exact decide_eq_true (cmpI_lt.2 hlt)
        clear hd hp hq hr hlt
        go_wp2_with fail
        refine wp_region_qw (by kernel_rfl) (by kernel_rfl) ?_
        iterate 12 (refine qw_take (by kernel_rfl) (fun K hK => ?_); go_simp; first | (refine hK _ ?_; clear hK K) | (apply Exists.intro; refine ⟨fun _ => ?_, hK _ ?_⟩; (first | with_reducible exact CB.out _ _); clear hK K))
        refine qw_nil ?_
        intro _ hw'
        obtain ⟨⟨dq, osq⟩, hw''⟩ := hw'
        subst hw''
        have HB1 := Lib.hid (below_keep hB.out (below_regrown wr dq osq) hB.out.size)
        go_wp2_with fail
        go_ret
        exact ⟨ret_bool HD.out, HB1.out⟩
      · have HD : Hid (v = sortR l k) := hd.out.trans (by rw [← hqk]; exact sort_go hp hq hlt)
        have hr0 : (decide (r < 0)) = false := by rw [← hr]; exact decide_eq_false (fun hh => hlt (cmpI_lt.1 hh))
        clear hd hp hq hr hlt
        go_wp2_with fail
        refine wp_region_qw (by kernel_rfl) (by kernel_rfl) ?_
        iterate 12 (refine qw_take (by kernel_rfl) (fun K hK => ?_); go_simp; first | (refine hK _ ?_; clear hK K) | (apply Exists.intro; refine ⟨fun _ => ?_, hK _ ?_⟩; (first | with_reducible exact CB.out _ _); clear hK K))
        refine qw_nil ?_
        intro _ hw'
        obtain ⟨⟨dq, osq⟩, hw''⟩ := hw'
        subst hw''
        have HB1 := Lib.hid (below_keep hB.out (below_regrown wr dq osq) hB.out.size)
        go_wp2_with fail
        go_roundw
        case rel => exact ⟨k, by omega, by go_num, HD, HB1⟩
        case measure => simp [intOf]; omega

set_option maxHeartbeats 1000000 in
theorem many_is (s : ByteArray) (a : Option Addr) (n c : Nat) (l : List Step) (g : Int) (m : Nat) (hm : manyL g l = m) (w : World) (h : StAt w a n l) (hn : n ≤ 1000000) :
    Calls Tryd.prog 27 #[.agg #[.string s, .slice a n c], .int .i64 g] w fun e w' => e = .returned (.int .i64 (m : Int)) ∧ Below w.heap.size w w' := by
  have HX := Lib.hid h
  have HV : Hid (0 + manyL g (l.drop 0) = m) := by show _ = _; rw [Nat.zero_add]; exact hm
  have HB0 := Lib.hid (bx2_new 24 w (.string s) (.slice a n c))
  obtain ⟨q0, q1⟩ := cells2 HB0.out.box
  clear h hm
  go_enter Tryd.func27, Tryd.ntmps27
  go_wp2_with fail
  go_loopw [5, 11] (fun t i wr => ∃ k p : Nat, k ≤ n ∧ p ≤ k ∧ t = .int .i64 (p : Int) ∧ i = .int .i64 (k : Int) ∧ Hid (p + manyL g (l.drop k) = m) ∧ Hid (Below w.heap.size w wr)) (fun _ i _ => n - (intOf i).toNat)
  case atStart => exact ⟨0, 0, Nat.zero_le _, Nat.le_refl _, rfl, rfl, HV, HB0.out.bel⟩
  case round =>
    obtain ⟨k, p, hk, hpk, rfl, rfl, hd, hB⟩ := hrel
    by_cases hlk : k < n
    · obtain ⟨b1, o1, x0, x1, x2, x3, x4, x5, rfl, g1, hp, hc1⟩ := StAt.at HX.out hlk
      obtain ⟨d0, d1, d2, d3, d4, d5⟩ := hc1 wr hB.out
      have HY := Lib.hid (at6_new 29 wr (.int .i64 x0) (.int .i64 x1) (.int .i64 x2) (.int .i64 x3) (.int .i64 x4) (.int .i64 x5))
      obtain ⟨z0, z1, z2, z3, z4, z5⟩ := cells6 HY.out
      have HBN := Lib.hid (hB.out.alloc hB.out.size (.cells #[.int .i64 x0, .int .i64 x1, .int .i64 x2, .int .i64 x3, .int .i64 x4, .int .i64 x5] 29))
      clear hc1 q0 q1
      by_cases heq : x1 = g
      · have HD := Lib.hid (many_yes hd.out hp heq)
        have e1 : (x1 == g) = true := beq_iff_eq.2 heq
        clear hp hd heq
        go_wp2_with fail
        go_roundw
        case rel => exact ⟨k + 1, p + 1, by omega, by omega, by go_num, by go_num, HD, HBN⟩
        case measure => simp [intOf]; omega
      · have HD := Lib.hid (many_no hd.out hp heq)
        have e1 : (x1 == g) = false := beq_eq_false_iff_ne.2 heq
        clear hp hd heq
        go_wp2_with fail
        go_roundw
        case rel => exact ⟨k + 1, p, by omega, by omega, rfl, by go_num, HD, HBN⟩
        case measure => simp [intOf]; omega
    · obtain rfl : k = n := by omega
      have HD := Lib.hid (many_end hd.out (at_len HX.out hlk))
      clear hd
      go_wp2_with fail
      go_ret
      exact ⟨ret_int (by rw [HD.out]), hB.out⟩

theorem shipped_any (h k s : Int) (v : Bool) (hv : shipR h k s = v) (w : World) : Calls Tryd.prog 30 #[.int .i64 h, .int .i64 k, .int .i64 s] w fun e w' => e = .returned (.bool v) ∧ w = w' := by
  unfold shipR at hv
  by_cases h0 : h < 0
  · rw [if_pos h0] at hv
    by_cases h1 : k < 0
    · have HR : Hid (v = decide (s < 0)) := by show _ = _; rw [← hv]; simp [h1]
      clear hv
      go_enter Tryd.func30, Tryd.ntmps30
      go_wp2_with fail
      go_ret
      exact ⟨ret_bool HR.out, rfl⟩
    · have HR : Hid (v = false) := by show _ = _; rw [← hv]; simp [h1]
      clear hv
      go_enter Tryd.func30, Tryd.ntmps30
      go_wp2_with fail
      go_ret
      exact ⟨ret_bool HR.out, rfl⟩
  · rw [if_neg h0] at hv
    by_cases h1 : h < k
    · have HR : Hid (v = decide (k < s)) := by show _ = _; rw [← hv]; simp [h1]
      clear hv
      go_enter Tryd.func30, Tryd.ntmps30
      go_wp2_with fail
      go_ret
      exact ⟨ret_bool HR.out, rfl⟩
    · have HR : Hid (v = false) := by show _ = _; rw [← hv]; simp [h1]
      clear hv
      go_enter Tryd.func30, Tryd.ntmps30
      go_wp2_with fail
      go_ret
      exact ⟨ret_bool HR.out, rfl⟩

theorem captured_any (a t : Int) (v : Bool) (hv : capR a t = v) (w : World) : Calls Tryd.prog 32 #[.int .i64 a, .int .i64 t] w fun e w' => e = .returned (.bool v) ∧ w = w' := by
  unfold capR at hv
  by_cases h0 : t < 0
  · have HR : Hid (v = true) := by show _ = _; rw [← hv]; simp [h0]
    clear hv
    go_enter Tryd.func32, Tryd.ntmps32
    go_wp2_with fail
    go_ret
    exact ⟨ret_bool HR.out, rfl⟩
  · by_cases h1 : 0 ≤ a
    · have HR : Hid (v = decide (a < t)) := by show _ = _; rw [← hv]; simp [h0, h1]
      clear hv
      go_enter Tryd.func32, Tryd.ntmps32
      go_wp2_with fail
      go_ret
      exact ⟨ret_bool HR.out, rfl⟩
    · have HR : Hid (v = false) := by show _ = _; rw [← hv]; simp [h0, h1]
      clear hv
      go_enter Tryd.func32, Tryd.ntmps32
      go_wp2_with fail
      go_ret
      exact ⟨ret_bool HR.out, rfl⟩

theorem fit31_any (i : Int) (x0 x1 x2 x3 x4 x5 : Int) (v : Bool) (hv : StP.fitS ⟨x0, x1, x2, x3, x4, x5⟩ = v) (w : World) :
    Calls Tryd.prog 18 #[.int .i64 i, .agg #[.int .i64 x0, .int .i64 x1, .int .i64 x2, .int .i64 x3, .int .i64 x4, .int .i64 x5]] w fun e w' => e = .returned (.bool v) ∧ Below w.heap.size w w' := by
  have HB := Lib.hid (bx6_new 29 w (.int .i64 x0) (.int .i64 x1) (.int .i64 x2) (.int .i64 x3) (.int .i64 x4) (.int .i64 x5))
  obtain ⟨q0, q1, q2, q3, q4, q5⟩ := cells6 HB.out.box
  have C := Lib.hid (fun W => Step.fit_is x0 x1 x2 x3 x4 x5 v hv W)
  clear hv
  go_enter Tryd.func18, Tryd.ntmps18
  go_wp2_with fail
  refine (C.out _).mono ?_
  rintro e w1 ⟨rfl, hb⟩
  have HB1 := Lib.hid (HB.out.keep hb)
  clear hb
  go_wp2_with fail
  go_ret
  exact ⟨rfl, HB1.out.bel⟩
theorem fit41_any (i : Int) (x0 x1 x2 x3 x4 x5 : Int) (s : ByteArray) (a : Option Addr) (n c : Nat) (l : List Step) (bd : Nat) (v : Bool) (hv : (placeL l x0 == i) = v) (w : World) (h : StAt w a n l) (hd : At2 24 w bd (.string s) (.slice a n c)) :
    Calls Tryd.prog 21 #[.int .i64 i, .agg #[.int .i64 x0, .int .i64 x1, .int .i64 x2, .int .i64 x3, .int .i64 x4, .int .i64 x5], .pointer (some ⟨bd, 0, none⟩)] w fun e w' => e = .returned (.bool v) ∧ Below w.heap.size w w' := by
  have HB := Lib.hid (bx6_new 29 w (.int .i64 x0) (.int .i64 x1) (.int .i64 x2) (.int .i64 x3) (.int .i64 x4) (.int .i64 x5))
  obtain ⟨q0, q1, q2, q3, q4, q5⟩ := cells6 HB.out.box
  obtain ⟨d0, d1⟩ := cells2 (hd.keep HB.out.bel)
  obtain ⟨r, hr⟩ : ∃ r, placeL l x0 = r := ⟨_, rfl⟩
  have C := Lib.hid (place_is s a n c l x0 r hr (w.alloc (.cells #[.int .i64 x0, .int .i64 x1, .int .i64 x2, .int .i64 x3, .int .i64 x4, .int .i64 x5] 29)) (Rw.At.keep h HB.out.bel))
  rw [hr] at hv
  have HR : Hid (v = (i == r)) := by show _ = _; rw [← hv]; exact Bool.beq_comm
  clear hv h hd hr
  go_enter Tryd.func21, Tryd.ntmps21
  go_wp2_with fail
  refine C.out.mono ?_
  rintro e w1 ⟨rfl, hb⟩
  have HB1 := Lib.hid (HB.out.keep hb)
  clear hb
  go_wp2_with fail
  go_ret
  exact ⟨ret_bool HR.out, HB1.out.bel⟩

set_option maxHeartbeats 1000000 in
theorem each3_any (s : ByteArray) (a : Option Addr) (n c : Nat) (l : List Step) (v : Bool) (hv : allR l = v) (w : World) (h : StAt w a n l) :
    Calls Tryd.prog 17 #[.agg #[.string s, .slice a n c], .func (.func 18) #[] #[]] w fun e w' => e = .returned (.bool v) ∧ Below w.heap.size w w' := by
  have hl := h.2.1
  have HX := Lib.hid h
  have HV : Hid (v = allR (l.drop 0)) := hv.symm
  have HB0 := Lib.hid (bx2_new 24 w (.string s) (.slice a n c))
  obtain ⟨q0, q1⟩ := cells2 HB0.out.box
  clear h hv
  go_enter Tryd.func17, Tryd.ntmps17
  go_wp2_with fail
  go_loopw [10] (fun i wr => ∃ k : Nat, k ≤ n ∧ i = .int .i64 (k : Int) ∧ Hid (v = allR (l.drop k)) ∧ Hid (Below w.heap.size w wr)) (fun i _ => n - (intOf i).toNat)
  case atStart => exact ⟨0, Nat.zero_le _, rfl, HV, HB0.out.bel⟩
  case round =>
    obtain ⟨k, hk, rfl, hd, hB⟩ := hrel
    by_cases hlk : k < n
    · obtain ⟨b1, o1, x0, x1, x2, x3, x4, x5, rfl, g1, hp, hc1⟩ := StAt.at HX.out hlk
      obtain ⟨d0, d1, d2, d3, d4, d5⟩ := hc1 wr hB.out
      have HY := Lib.hid (at6_new 29 wr (.int .i64 x0) (.int .i64 x1) (.int .i64 x2) (.int .i64 x3) (.int .i64 x4) (.int .i64 x5))
      obtain ⟨z0, z1, z2, z3, z4, z5⟩ := cells6 HY.out
      have HBN := Lib.hid (hB.out.alloc hB.out.size (.cells #[.int .i64 x0, .int .i64 x1, .int .i64 x2, .int .i64 x3, .int .i64 x4, .int .i64 x5] 29))
      cases heq : StP.fitS ⟨x0, x1, x2, x3, x4, x5⟩ with
      | true =>
        have HD := Lib.hid (hd.out.trans (all_go hp heq))
        have C := Lib.hid (fit31_any (k : Int) x0 x1 x2 x3 x4 x5 true heq (wr.alloc (.cells #[.int .i64 x0, .int .i64 x1, .int .i64 x2, .int .i64 x3, .int .i64 x4, .int .i64 x5] 29)))
        clear hp hd heq hc1 q0 q1
        go_wp2_with fail
        refine C.out.mono ?_
        rintro e w2 ⟨rfl, hb⟩
        have HB2 := Lib.hid (below_keep HBN.out hb HBN.out.size)
        clear hb
        go_wp2_with fail
        go_roundw
        case rel => exact ⟨k + 1, by omega, by go_num, HD, HB2⟩
        case measure => simp [intOf]; omega
      | false =>
        have HD : Hid (v = false) := hd.out.trans (all_no hp heq)
        have C := Lib.hid (fit31_any (k : Int) x0 x1 x2 x3 x4 x5 false heq (wr.alloc (.cells #[.int .i64 x0, .int .i64 x1, .int .i64 x2, .int .i64 x3, .int .i64 x4, .int .i64 x5] 29)))
        clear hp hd heq hc1 q0 q1
        go_wp2_with fail
        refine C.out.mono ?_
        rintro e w2 ⟨rfl, hb⟩
        have HB2 := Lib.hid (below_keep HBN.out hb HBN.out.size)
        clear hb
        go_wp2_with fail
        go_ret
        exact ⟨ret_bool HD.out, HB2.out⟩
    · obtain rfl : k = n := by omega
      have HD : Hid (v = true) := hd.out.trans (all_end (at_len HX.out hlk))
      clear hd
      go_wp2_with fail
      go_ret
      exact ⟨ret_bool HD.out, hB.out⟩

set_option maxHeartbeats 1000000 in
theorem each4_any (s : ByteArray) (a : Option Addr) (n c : Nat) (l : List Step) (bd : Nat) (v : Bool) (hv : placeR l 0 l = v) (w : World) (h : StAt w a n l) (hd : At2 24 w bd (.string s) (.slice a n c)) :
    Calls Tryd.prog 17 #[.agg #[.string s, .slice a n c], .func (.func 21) #[] #[.pointer (some ⟨bd, 0, none⟩)]] w fun e w' => e = .returned (.bool v) ∧ Below w.heap.size w w' := by
  have hl := h.2.1
  have HX := Lib.hid h
  have HV : Hid (v = placeR l 0 (l.drop 0)) := hv.symm
  have HDD := Lib.hid hd
  clear hd
  have HB0 := Lib.hid (bx2_new 24 w (.string s) (.slice a n c))
  obtain ⟨q0, q1⟩ := cells2 HB0.out.box
  clear h hv
  go_enter Tryd.func17, Tryd.ntmps17
  go_wp2_with fail
  go_loopw [10] (fun i wr => ∃ k : Nat, k ≤ n ∧ i = .int .i64 (k : Int) ∧ Hid (v = placeR l k (l.drop k)) ∧ Hid (Below w.heap.size w wr)) (fun i _ => n - (intOf i).toNat)
  case atStart => exact ⟨0, Nat.zero_le _, rfl, HV, HB0.out.bel⟩
  case round =>
    obtain ⟨k, hk, rfl, hd, hB⟩ := hrel
    by_cases hlk : k < n
    · obtain ⟨b1, o1, x0, x1, x2, x3, x4, x5, rfl, g1, hp, hc1⟩ := StAt.at HX.out hlk
      obtain ⟨d0, d1, d2, d3, d4, d5⟩ := hc1 wr hB.out
      have HY := Lib.hid (at6_new 29 wr (.int .i64 x0) (.int .i64 x1) (.int .i64 x2) (.int .i64 x3) (.int .i64 x4) (.int .i64 x5))
      obtain ⟨z0, z1, z2, z3, z4, z5⟩ := cells6 HY.out
      have HBN := Lib.hid (hB.out.alloc hB.out.size (.cells #[.int .i64 x0, .int .i64 x1, .int .i64 x2, .int .i64 x3, .int .i64 x4, .int .i64 x5] 29))
      cases heq : placeL l x0 == (k : Int) with
      | true =>
        have HD := Lib.hid (hd.out.trans (pl_go hp heq))
        have C := Lib.hid (fit41_any (k : Int) x0 x1 x2 x3 x4 x5 s (some ⟨b1, o1, none⟩) n c l bd true heq (wr.alloc (.cells #[.int .i64 x0, .int .i64 x1, .int .i64 x2, .int .i64 x3, .int .i64 x4, .int .i64 x5] 29)) (HX.out.keep HBN.out) (HDD.out.keep HBN.out))
        clear hp hd heq hc1 q0 q1
        go_wp2_with fail
        refine C.out.mono ?_
        rintro e w2 ⟨rfl, hb⟩
        have HB2 := Lib.hid (below_keep HBN.out hb HBN.out.size)
        clear hb
        go_wp2_with fail
        go_roundw
        case rel => exact ⟨k + 1, by omega, by go_num, HD, HB2⟩
        case measure => simp [intOf]; omega
      | false =>
        have HD : Hid (v = false) := hd.out.trans (pl_no hp heq)
        have C := Lib.hid (fit41_any (k : Int) x0 x1 x2 x3 x4 x5 s (some ⟨b1, o1, none⟩) n c l bd false heq (wr.alloc (.cells #[.int .i64 x0, .int .i64 x1, .int .i64 x2, .int .i64 x3, .int .i64 x4, .int .i64 x5] 29)) (HX.out.keep HBN.out) (HDD.out.keep HBN.out))
        clear hp hd heq hc1 q0 q1
        go_wp2_with fail
        refine C.out.mono ?_
        rintro e w2 ⟨rfl, hb⟩
        have HB2 := Lib.hid (below_keep HBN.out hb HBN.out.size)
        clear hb
        go_wp2_with fail
        go_ret
        exact ⟨ret_bool HD.out, HB2.out⟩
    · obtain rfl : k = n := by omega
      have HD : Hid (v = true) := hd.out.trans (pl_end (at_len HX.out hlk))
      clear hd
      go_wp2_with fail
      go_ret
      exact ⟨ret_bool HD.out, hB.out⟩

end Go.Proofs.YtdpgfnnhbfkacaaDoor.Def
