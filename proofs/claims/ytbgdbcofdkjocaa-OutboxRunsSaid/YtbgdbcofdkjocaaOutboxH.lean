/-
  The contracts of both Puts: any entries, any entry; what was there stays as it was.
-/
import Derived.Test.YtbgdbcofdkjocaaOutboxG
set_option linter.unusedVariables false
set_option linter.unusedSimpArgs false
set_option maxRecDepth 4000
namespace Go.Proofs.Ytbgdbcofdkjocaa.Outbox
open Go.RowKit OutP
open Go.Proofs.Ytbgdbcofdkjocaa.Kt

def PutR (w : World) (l : List En) (er : Int) (e : Ending) (w' : World) : Prop := ∃ a n c, e = .returned (.tuple #[.slice a n c, .int .i64 er]) ∧ n ≤ c ∧ EnAt w' a n l ∧ Below w.heap.size w w'
theorem putR_none {w w' : World} {er : Int} (hb : Below w.heap.size w w') : PutR w [] er (.returned (.tuple #[.slice none 0 0, .int .i64 er])) w' := ⟨none, 0, 0, rfl, Nat.le_refl _, Rw.At.nil _ _ _, hb⟩
theorem put_bad {l : List En} {t : En} (h : fitB l = false) : putE l t = ([], 12) := by unfold putE; rw [if_neg (by rw [h]; simp)]
theorem put_arg {l : List En} {t : En} (h : fitB l = true) (h2 : oneE t = false) : putE l t = ([], 1) := by unfold putE; rw [if_pos h, if_neg (by rw [h2]; simp)]
theorem put_order {l : List En} {t : En} (h : fitB l = true) (h2 : oneE t = true) (h3 : lastOk l t = false) : putE l t = ([], 16) := by unfold putE; rw [if_pos h, if_pos h2, if_neg (by rw [h3]; simp)]
theorem put_full {l : List En} {t : En} (h : fitB l = true) (h2 : oneE t = true) (h3 : lastOk l t = true) (h4 : (dropE t.saga l).length = 16) : putE l t = ([], 4) := by unfold putE; rw [if_pos h, if_pos h2, if_pos h3, if_pos h4]
theorem put_ok {l : List En} {t : En} (h : fitB l = true) (h2 : oneE t = true) (h3 : lastOk l t = true) (h4 : ¬ (dropE t.saga l).length = 16) : putE l t = (dropE t.saga l ++ [t], 0) := by unfold putE; rw [if_pos h, if_pos h2, if_pos h3, if_neg h4]
theorem last_end {l : List En} {n : Nat} {x y : En} (hn : l.length = n) (h0 : 0 < n) (hy : l.getD (n - 1) en0 = y) : lastOk l x = decide (y.id < x.id) := by
  unfold lastOk
  rw [List.getLast?_eq_getElem?, hn]
  have : l[n - 1]? = some y := by rw [List.getElem?_eq_getElem (by omega), ← hy]; simp [List.getD, (by omega : n - 1 < l.length)]
  rw [this]

set_option maxHeartbeats 4000000 in
theorem put_any (a : Option Addr) (len cap : Nat) (l : List En) (hcap : len ≤ cap) (x0 x1 x2 : Int) (x3 : Bool) (x4 x5 : Int) (x6 : Bool) (w : World) (h : EnAt w a len l) :
    Calls Try.prog 18 #[.slice a len cap, .agg #[.int .i64 x0, .int .i64 x1, .int .i64 x2, .bool x3, .int .i64 x4, .int .i64 x5, .bool x6]] w (PutR w (putE l ⟨x0, x1, x2, x3, x4, x5, x6⟩).1 (putE l ⟨x0, x1, x2, x3, x4, x5, x6⟩).2) := by
  have hB0 := bx7_new 25 w (.int .i64 x0) (.int .i64 x1) (.int .i64 x2) (.bool x3) (.int .i64 x4) (.int .i64 x5) (.bool x6)
  obtain ⟨w0, hw0⟩ : ∃ w0, w.alloc (.cells #[.int .i64 x0, .int .i64 x1, .int .i64 x2, .bool x3, .int .i64 x4, .int .i64 x5, .bool x6] 25) = w0 := ⟨_, rfl⟩
  rw [hw0] at hB0
  have HW := Lib.hid hw0
  have HB0 := Lib.hid hB0
  have HX := Lib.hid h
  have hl := h.2.1
  have CF := Lib.hid (fun v hv => fit_any a len cap l hcap v hv w0 (h.keep hB0.bel))
  obtain ⟨d0, d1, d2, d3, d4, d5, d6⟩ := cells7 hB0.box
  clear hw0 hB0 h
  cases hf : fitB l with
  | false =>
    rw [put_bad hf]
    have CF := Lib.hid (CF.out false hf)
    clear hf
    go_enter Try.func18, Try.ntmps18
    go_wp2_with fail
    rw [show w.alloc (.cells #[.int .i64 x0, .int .i64 x1, .int .i64 x2, .bool x3, .int .i64 x4, .int .i64 x5, .bool x6] 25) = w0 from HW.out]
    go_wp2_with fail
    refine CF.out.mono ?_
    rintro e w1 ⟨rfl, hb⟩
    have HB1 := Lib.hid (HB0.out.keep hb)
    clear hb d0 d1 d2 d3 d4 d5 d6
    go_wp2_with fail
    go_ret2
    exact putR_none HB1.out.bel
  | true =>
    have hlen : len ≤ 16 := by rw [← HX.out.1]; exact (fitB_iff.1 hf).len
    have CF := Lib.hid (CF.out true hf)
    cases h1 : oneE ⟨x0, x1, x2, x3, x4, x5, x6⟩ with
    | false =>
      rw [put_arg hf h1]
      have CV := Lib.hid (valid_is x0 x1 x2 x3 x4 x5 x6 false h1)
      clear hf h1
      go_enter Try.func18, Try.ntmps18
      go_wp2_with fail
      rw [show w.alloc (.cells #[.int .i64 x0, .int .i64 x1, .int .i64 x2, .bool x3, .int .i64 x4, .int .i64 x5, .bool x6] 25) = w0 from HW.out]
      go_wp2_with fail
      refine CF.out.mono ?_
      rintro e w1 ⟨rfl, hb⟩
      have HB1 := Lib.hid (HB0.out.keep hb)
      clear hb d0 d1 d2 d3 d4 d5 d6
      obtain ⟨d0, d1, d2, d3, d4, d5, d6⟩ := cells7 HB1.out.box
      go_wp2_with fail
      refine (CV.out w1).mono ?_
      rintro e w2 ⟨rfl, hb⟩
      have HB2 := Lib.hid (HB1.out.keep hb)
      clear hb d0 d1 d2 d3 d4 d5 d6
      go_wp2_with fail
      go_ret2
      exact putR_none HB2.out.bel
    | true =>
      have CV := Lib.hid (valid_is x0 x1 x2 x3 x4 x5 x6 true h1)
      obtain ⟨rest, hrest⟩ : ∃ rest, dropE x1 l = rest := ⟨_, rfl⟩
      obtain ⟨n4, hn4⟩ : ∃ n4, rest.length = n4 := ⟨_, rfl⟩
      have hn16 : n4 ≤ 16 := by rw [← hn4, ← hrest]; have := List.length_filter_le (fun x => !(x.saga == x1)) l; unfold dropE; have := HX.out.1; omega
      obtain ⟨res, hres⟩ : ∃ res, putE l ⟨x0, x1, x2, x3, x4, x5, x6⟩ = res := ⟨_, rfl⟩
      have HORD := Lib.hid (fun h3 => (put_order (l := l) (t := ⟨x0, x1, x2, x3, x4, x5, x6⟩) hf h1 h3))
      have HFUL := Lib.hid (fun h3 h4 => (put_full (l := l) (t := ⟨x0, x1, x2, x3, x4, x5, x6⟩) hf h1 h3 h4))
      have HOKK := Lib.hid (fun h3 h4 => (put_ok (l := l) (t := ⟨x0, x1, x2, x3, x4, x5, x6⟩) hf h1 h3 h4))
      simp only [hrest, hn4] at HFUL HOKK
      simp only [hres] at HORD HFUL HOKK
      rw [hres]
      clear hres
      have HN4 := Lib.hid hn4
      have CD := Lib.hid (fun W (hW : Below w.heap.size w W) => (drop_any a len cap l x1 (by omega) W (HX.out.keep hW)).mono fun e w' h => RowP.at (by rw [hrest] at h; exact h) hn4 (by omega))
      clear hf h1 hrest hn4
      by_cases h0 : 0 < len
      · have hkm : len - 1 < len := by omega
        obtain ⟨b2, o2, y0, y1, y2, y3, y4, y5, y6, rfl, _, hy, hc3⟩ := EnAt.at HX.out hkm
        have hlo := last_end (x := ⟨x0, x1, x2, x3, x4, x5, x6⟩) HX.out.1 h0 hy
        have HC3 := Lib.hid hc3
        have hki : (0 : Int) < (len : Int) := by omega
        have hkd : decide ((0 : Int) < (len : Int)) = true := by simp; omega
        have hkn : ((len : Int) - 1).toNat = len - 1 := by omega
        have hwk : IntKind.i64.wrap ((len : Int) - 1) = ((len - 1 : Nat) : Int) := by rw [IntKind.wrap_i64]; omega
        have hkl : ((len - 1 : Nat) : Int) < (len : Int) := by omega
        have hkz : (0 : Int) ≤ ((len - 1 : Nat) : Int) := by omega
        by_cases ha : y0 < x0
        · rw [decide_eq_true ha] at hlo
          have HFU := Lib.hid (fun h4 => HFUL.out hlo h4)
          have HOK := Lib.hid (fun h4 => HOKK.out hlo h4)
          have hle : decide (x0 ≤ y0) = false := by simp; omega
          clear ha hy hc3 hlo
          go_enter Try.func18, Try.ntmps18
          go_wp2_with fail
          rw [show w.alloc (.cells #[.int .i64 x0, .int .i64 x1, .int .i64 x2, .bool x3, .int .i64 x4, .int .i64 x5, .bool x6] 25) = w0 from HW.out]
          go_wp2_with fail
          refine CF.out.mono ?_
          rintro e w1 ⟨rfl, hb⟩
          have HB1 := Lib.hid (HB0.out.keep hb)
          clear hb d0 d1 d2 d3 d4 d5 d6
          obtain ⟨d0, d1, d2, d3, d4, d5, d6⟩ := cells7 HB1.out.box
          go_wp2_with fail
          refine (CV.out w1).mono ?_
          rintro e w2 ⟨rfl, hb⟩
          have HB2 := Lib.hid (HB1.out.keep hb)
          clear hb d0 d1 d2 d3 d4 d5 d6
          obtain ⟨R0, _, _, _, _, _, _⟩ := HC3.out w2 HB2.out.bel
          obtain ⟨d0, d1, d2, d3, d4, d5, d6⟩ := cells7 HB2.out.box
          go_wp2_with fail
          have c0 := fun d os => cell_regrown d0 d os
          clear d0 d1 d2 d3 d4 d5 d6
          have r0 := fun d os => cell_regrown R0 d os
          clear R0
          refine wp_region_qw (by kernel_rfl) (by kernel_rfl) ?_
          iterate 15 (refine qw_take (by kernel_rfl) (fun K hK => ?_); go_simp; refine hK _ ?_; clear hK K)
          refine qw_nil ?_
          intro _ hw'
          obtain ⟨⟨dq, osq⟩, hw''⟩ := hw'
          subst hw''
          have HB3 := Lib.hid (HB2.out.keep (below_regrown w2 dq osq))
          clear c0 r0
          generalize Sort.grow (redrawn w2 dq) osq = w3 at *
          clear hki hkd hkn hwk hkl hkz hle hkm
          obtain ⟨d0, d1, d2, d3, d4, d5, d6⟩ := cells7 HB3.out.box
          go_wp2_with fail
          refine (CD.out w3 HB3.out.bel).mono ?_
          rintro e w4 ⟨ad, cd, rfl, hcd, hA4, hO4, hb⟩
          have HB4 := Lib.hid (HB3.out.keep hb)
          have HO4 := Lib.hid (Rw.owns_base hO4 HB3.out.bel.size)
          clear hb d0 d1 d2 d3 d4 d5 d6 hA4 hO4
          by_cases hfull : n4 = 16
          · have e16 : ((n4 : Int) == 16) = true := by rw [hfull]; rfl
            have HRS := Lib.hid (HFU.out hfull)
            clear hfull
            go_wp2_with fail
            go_ret2
            rw [HRS.out]
            exact putR_none HB4.out.bel
          · have e16 : ((n4 : Int) == 16) = false := beq_eq_false_iff_ne.2 (by omega)
            have HRS := Lib.hid (HOK.out hfull)
            clear hfull
            obtain ⟨d0, d1, d2, d3, d4, d5, d6⟩ := cells7 HB4.out.box
            go_wp2_with (at_builtin; refine Rw.append_one enS rfl (.tmp 35) (.tmp 37) rfl w.heap.size w4 _ rfl (⟨x0, x1, x2, x3, x4, x5, x6⟩ : En) _ rfl (.slice ad n4 cd) n4 rest rfl HO4.out rfl (by omega) HB4.out.bel.size ?_)
            intro v' w5 hO5 hg5
            have hb5 := Rw.below_append HB4.out.bel HB4.out.bel.size HO4.out hg5
            obtain ⟨a5, c5, rfl, hc5⟩ := Rw.owns_slice hO5
            have hA5 := Rw.own_at (S := enS) hO5 (by rw [List.length_append, HN4.out]; rfl) (by omega)
            have HR : Hid (PutR w (rest ++ [⟨x0, x1, x2, x3, x4, x5, x6⟩]) 0 (.returned (.tuple #[.slice a5 (n4 + 1) c5, .int .i64 0])) w5) := ⟨_, _, _, rfl, hc5, hA5, hb5⟩
            clear hO5 hg5 hb5 hA5 d0 d1 d2 d3 d4 d5 d6
            go_wp2_with fail
            go_ret2
            rw [HRS.out]
            exact HR.out
        · rw [decide_eq_false ha] at hlo
          rw [HORD.out hlo]
          have hle : decide (x0 ≤ y0) = true := by simp; omega
          clear ha hy hc3 hlo
          go_enter Try.func18, Try.ntmps18
          go_wp2_with fail
          rw [show w.alloc (.cells #[.int .i64 x0, .int .i64 x1, .int .i64 x2, .bool x3, .int .i64 x4, .int .i64 x5, .bool x6] 25) = w0 from HW.out]
          go_wp2_with fail
          refine CF.out.mono ?_
          rintro e w1 ⟨rfl, hb⟩
          have HB1 := Lib.hid (HB0.out.keep hb)
          clear hb d0 d1 d2 d3 d4 d5 d6
          obtain ⟨d0, d1, d2, d3, d4, d5, d6⟩ := cells7 HB1.out.box
          go_wp2_with fail
          refine (CV.out w1).mono ?_
          rintro e w2 ⟨rfl, hb⟩
          have HB2 := Lib.hid (HB1.out.keep hb)
          clear hb d0 d1 d2 d3 d4 d5 d6
          obtain ⟨R0, _, _, _, _, _, _⟩ := HC3.out w2 HB2.out.bel
          obtain ⟨d0, d1, d2, d3, d4, d5, d6⟩ := cells7 HB2.out.box
          go_wp2_with fail
          have c0 := fun d os => cell_regrown d0 d os
          clear d0 d1 d2 d3 d4 d5 d6
          have r0 := fun d os => cell_regrown R0 d os
          clear R0
          refine wp_region_qw (by kernel_rfl) (by kernel_rfl) ?_
          iterate 15 (refine qw_take (by kernel_rfl) (fun K hK => ?_); go_simp; refine hK _ ?_; clear hK K)
          refine qw_nil ?_
          intro _ hw'
          obtain ⟨⟨dq, osq⟩, hw''⟩ := hw'
          subst hw''
          have HB3 := Lib.hid (HB2.out.keep (below_regrown w2 dq osq))
          clear c0 r0
          generalize Sort.grow (redrawn w2 dq) osq = w3 at *
          go_wp2_with fail
          go_ret2
          exact putR_none HB3.out.bel
      · have hlo : lastOk l ⟨x0, x1, x2, x3, x4, x5, x6⟩ = true := by rw [List.eq_nil_of_length_eq_zero (show l.length = 0 by rw [HX.out.1]; omega)]; rfl
        have HFU := Lib.hid (fun h4 => HFUL.out hlo h4)
        have HOK := Lib.hid (fun h4 => HOKK.out hlo h4)
        have hki : ¬ (0 : Int) < (len : Int) := by omega
        have hkd : decide ((0 : Int) < (len : Int)) = false := by simp; omega
        clear hlo
        go_enter Try.func18, Try.ntmps18
        go_wp2_with fail
        rw [show w.alloc (.cells #[.int .i64 x0, .int .i64 x1, .int .i64 x2, .bool x3, .int .i64 x4, .int .i64 x5, .bool x6] 25) = w0 from HW.out]
        go_wp2_with fail
        refine CF.out.mono ?_
        rintro e w1 ⟨rfl, hb⟩
        have HB1 := Lib.hid (HB0.out.keep hb)
        clear hb d0 d1 d2 d3 d4 d5 d6
        obtain ⟨d0, d1, d2, d3, d4, d5, d6⟩ := cells7 HB1.out.box
        go_wp2_with fail
        refine (CV.out w1).mono ?_
        rintro e w2 ⟨rfl, hb⟩
        have HB2 := Lib.hid (HB1.out.keep hb)
        clear hb d0 d1 d2 d3 d4 d5 d6
        obtain ⟨d0, d1, d2, d3, d4, d5, d6⟩ := cells7 HB2.out.box
        go_wp2_with fail
        have c0 := fun d os => cell_regrown d0 d os
        clear d0 d1 d2 d3 d4 d5 d6
        refine wp_region_qw (by kernel_rfl) (by kernel_rfl) ?_
        iterate 4 (refine qw_take (by kernel_rfl) (fun K hK => ?_); go_simp; refine hK _ ?_; clear hK K)
        iterate 10 (refine qw_skip (by kernel_rfl) ?_; simp only [Act.put, List.setIfInBounds_toArray, List.set_cons_succ, List.set_cons_zero])
        refine qw_take (by kernel_rfl) (fun K hK => ?_); go_simp; refine hK _ ?_; clear hK K
        refine qw_nil ?_
        intro _ hw'
        obtain ⟨⟨dq, osq⟩, hw''⟩ := hw'
        subst hw''
        have HB3 := Lib.hid (HB2.out.keep (below_regrown w2 dq osq))
        clear c0
        generalize Sort.grow (redrawn w2 dq) osq = w3 at *
        obtain ⟨d0, d1, d2, d3, d4, d5, d6⟩ := cells7 HB3.out.box
        go_wp2_with fail
        refine (CD.out w3 HB3.out.bel).mono ?_
        rintro e w4 ⟨ad, cd, rfl, hcd, hA4, hO4, hb⟩
        have HB4 := Lib.hid (HB3.out.keep hb)
        have HO4 := Lib.hid (Rw.owns_base hO4 HB3.out.bel.size)
        clear hb d0 d1 d2 d3 d4 d5 d6 hA4 hO4
        by_cases hfull : n4 = 16
        · have e16 : ((n4 : Int) == 16) = true := by rw [hfull]; rfl
          have HRS := Lib.hid (HFU.out hfull)
          clear hfull
          go_wp2_with fail
          go_ret2
          rw [HRS.out]
          exact putR_none HB4.out.bel
        · have e16 : ((n4 : Int) == 16) = false := beq_eq_false_iff_ne.2 (by omega)
          have HRS := Lib.hid (HOK.out hfull)
          clear hfull
          obtain ⟨d0, d1, d2, d3, d4, d5, d6⟩ := cells7 HB4.out.box
          go_wp2_with (at_builtin; refine Rw.append_one enS rfl (.tmp 35) (.tmp 37) rfl w.heap.size w4 _ rfl (⟨x0, x1, x2, x3, x4, x5, x6⟩ : En) _ rfl (.slice ad n4 cd) n4 rest rfl HO4.out rfl (by omega) HB4.out.bel.size ?_)
          intro v' w5 hO5 hg5
          have hb5 := Rw.below_append HB4.out.bel HB4.out.bel.size HO4.out hg5
          obtain ⟨a5, c5, rfl, hc5⟩ := Rw.owns_slice hO5
          have hA5 := Rw.own_at (S := enS) hO5 (by rw [List.length_append, HN4.out]; rfl) (by omega)
          have HR : Hid (PutR w (rest ++ [⟨x0, x1, x2, x3, x4, x5, x6⟩]) 0 (.returned (.tuple #[.slice a5 (n4 + 1) c5, .int .i64 0])) w5) := ⟨_, _, _, rfl, hc5, hA5, hb5⟩
          clear hO5 hg5 hb5 hA5 d0 d1 d2 d3 d4 d5 d6
          go_wp2_with fail
          go_ret2
          rw [HRS.out]
          exact HR.out

set_option maxHeartbeats 4000000 in
theorem rput_any (a : Option Addr) (len cap : Nat) (l : List En) (x0 x1 x2 : Int) (x3 : Bool) (x4 x5 : Int) (x6 : Bool) (w : World) (h : EnAt w a len l) :
    Calls Try.prog 19 #[.slice a len cap, .agg #[.int .i64 x0, .int .i64 x1, .int .i64 x2, .bool x3, .int .i64 x4, .int .i64 x5, .bool x6]] w (PutR w (putE l ⟨x0, x1, x2, x3, x4, x5, x6⟩).1 (putE l ⟨x0, x1, x2, x3, x4, x5, x6⟩).2) := by
  have hB0 := bx7_new 25 w (.int .i64 x0) (.int .i64 x1) (.int .i64 x2) (.bool x3) (.int .i64 x4) (.int .i64 x5) (.bool x6)
  obtain ⟨w0, hw0⟩ : ∃ w0, w.alloc (.cells #[.int .i64 x0, .int .i64 x1, .int .i64 x2, .bool x3, .int .i64 x4, .int .i64 x5, .bool x6] 25) = w0 := ⟨_, rfl⟩
  rw [hw0] at hB0
  have HW := Lib.hid hw0
  have HB0 := Lib.hid hB0
  have HX := Lib.hid h
  have hl := h.2.1
  have CF := Lib.hid (fun v hv => rfit_any a len cap l v hv w0 (h.keep hB0.bel))
  obtain ⟨d0, d1, d2, d3, d4, d5, d6⟩ := cells7 hB0.box
  clear hw0 hB0 h
  cases hf : fitB l with
  | false =>
    rw [put_bad hf]
    have CF := Lib.hid (CF.out false hf)
    clear hf
    go_enter Try.func19, Try.ntmps19
    go_wp2_with fail
    rw [show w.alloc (.cells #[.int .i64 x0, .int .i64 x1, .int .i64 x2, .bool x3, .int .i64 x4, .int .i64 x5, .bool x6] 25) = w0 from HW.out]
    go_wp2_with fail
    refine CF.out.mono ?_
    rintro e w1 ⟨rfl, hb⟩
    have HB1 := Lib.hid (HB0.out.keep hb)
    clear hb d0 d1 d2 d3 d4 d5 d6
    go_wp2_with fail
    go_ret2
    exact putR_none HB1.out.bel
  | true =>
    have hlen : len ≤ 16 := by rw [← HX.out.1]; exact (fitB_iff.1 hf).len
    have CF := Lib.hid (CF.out true hf)
    cases h1 : oneE ⟨x0, x1, x2, x3, x4, x5, x6⟩ with
    | false =>
      rw [put_arg hf h1]
      have CV := Lib.hid (rone_is x0 x1 x2 x3 x4 x5 x6 false h1)
      clear hf h1
      go_enter Try.func19, Try.ntmps19
      go_wp2_with fail
      rw [show w.alloc (.cells #[.int .i64 x0, .int .i64 x1, .int .i64 x2, .bool x3, .int .i64 x4, .int .i64 x5, .bool x6] 25) = w0 from HW.out]
      go_wp2_with fail
      refine CF.out.mono ?_
      rintro e w1 ⟨rfl, hb⟩
      have HB1 := Lib.hid (HB0.out.keep hb)
      clear hb d0 d1 d2 d3 d4 d5 d6
      obtain ⟨d0, d1, d2, d3, d4, d5, d6⟩ := cells7 HB1.out.box
      go_wp2_with fail
      refine (CV.out w1).mono ?_
      rintro e w2 ⟨rfl, hb⟩
      have HB2 := Lib.hid (HB1.out.keep hb)
      clear hb d0 d1 d2 d3 d4 d5 d6
      go_wp2_with fail
      go_ret2
      exact putR_none HB2.out.bel
    | true =>
      have CV := Lib.hid (rone_is x0 x1 x2 x3 x4 x5 x6 true h1)
      obtain ⟨rest, hrest⟩ : ∃ rest, dropE x1 l = rest := ⟨_, rfl⟩
      obtain ⟨n4, hn4⟩ : ∃ n4, rest.length = n4 := ⟨_, rfl⟩
      have hn16 : n4 ≤ 16 := by rw [← hn4, ← hrest]; have := List.length_filter_le (fun x => !(x.saga == x1)) l; unfold dropE; have := HX.out.1; omega
      obtain ⟨res, hres⟩ : ∃ res, putE l ⟨x0, x1, x2, x3, x4, x5, x6⟩ = res := ⟨_, rfl⟩
      have HORD := Lib.hid (fun h3 => (put_order (l := l) (t := ⟨x0, x1, x2, x3, x4, x5, x6⟩) hf h1 h3))
      have HFUL := Lib.hid (fun h3 h4 => (put_full (l := l) (t := ⟨x0, x1, x2, x3, x4, x5, x6⟩) hf h1 h3 h4))
      have HOKK := Lib.hid (fun h3 h4 => (put_ok (l := l) (t := ⟨x0, x1, x2, x3, x4, x5, x6⟩) hf h1 h3 h4))
      simp only [hrest, hn4] at HFUL HOKK
      simp only [hres] at HORD HFUL HOKK
      rw [hres]
      clear hres
      have HN4 := Lib.hid hn4
      have CD := Lib.hid (fun W (hW : Below w.heap.size w W) => (rdrop_any a len cap l x1 (by omega) W (HX.out.keep hW)).mono fun e w' h => RowP.at (by rw [hrest] at h; exact h) hn4 (by omega))
      clear hf h1 hrest hn4
      by_cases h0 : 0 < len
      · have hkm : len - 1 < len := by omega
        obtain ⟨b2, o2, y0, y1, y2, y3, y4, y5, y6, rfl, _, hy, hc3⟩ := EnAt.at HX.out hkm
        have hlo := last_end (x := ⟨x0, x1, x2, x3, x4, x5, x6⟩) HX.out.1 h0 hy
        have HC3 := Lib.hid hc3
        have hki : (0 : Int) < (len : Int) := by omega
        have hkd : decide ((0 : Int) < (len : Int)) = true := by simp; omega
        have hkn : ((len : Int) - 1).toNat = len - 1 := by omega
        have hwk : IntKind.i64.wrap ((len : Int) - 1) = ((len - 1 : Nat) : Int) := by rw [IntKind.wrap_i64]; omega
        have hkl : ((len - 1 : Nat) : Int) < (len : Int) := by omega
        have hkz : (0 : Int) ≤ ((len - 1 : Nat) : Int) := by omega
        by_cases ha : y0 < x0
        · rw [decide_eq_true ha] at hlo
          have HFU := Lib.hid (fun h4 => HFUL.out hlo h4)
          have HOK := Lib.hid (fun h4 => HOKK.out hlo h4)
          have hle : decide (x0 ≤ y0) = false := by simp; omega
          clear ha hy hc3 hlo
          go_enter Try.func19, Try.ntmps19
          go_wp2_with fail
          rw [show w.alloc (.cells #[.int .i64 x0, .int .i64 x1, .int .i64 x2, .bool x3, .int .i64 x4, .int .i64 x5, .bool x6] 25) = w0 from HW.out]
          go_wp2_with fail
          refine CF.out.mono ?_
          rintro e w1 ⟨rfl, hb⟩
          have HB1 := Lib.hid (HB0.out.keep hb)
          clear hb d0 d1 d2 d3 d4 d5 d6
          obtain ⟨d0, d1, d2, d3, d4, d5, d6⟩ := cells7 HB1.out.box
          go_wp2_with fail
          refine (CV.out w1).mono ?_
          rintro e w2 ⟨rfl, hb⟩
          have HB2 := Lib.hid (HB1.out.keep hb)
          clear hb d0 d1 d2 d3 d4 d5 d6
          obtain ⟨R0, _, _, _, _, _, _⟩ := HC3.out w2 HB2.out.bel
          obtain ⟨d0, d1, d2, d3, d4, d5, d6⟩ := cells7 HB2.out.box
          go_wp2_with fail
          have c0 := fun d os => cell_regrown d0 d os
          clear d0 d1 d2 d3 d4 d5 d6
          have r0 := fun d os => cell_regrown R0 d os
          clear R0
          refine wp_region_qw (by kernel_rfl) (by kernel_rfl) ?_
          iterate 15 (refine qw_take (by kernel_rfl) (fun K hK => ?_); go_simp; refine hK _ ?_; clear hK K)
          refine qw_nil ?_
          intro _ hw'
          obtain ⟨⟨dq, osq⟩, hw''⟩ := hw'
          subst hw''
          have HB3 := Lib.hid (HB2.out.keep (below_regrown w2 dq osq))
          clear c0 r0
          generalize Sort.grow (redrawn w2 dq) osq = w3 at *
          clear hki hkd hkn hwk hkl hkz hle hkm
          obtain ⟨d0, d1, d2, d3, d4, d5, d6⟩ := cells7 HB3.out.box
          go_wp2_with fail
          refine (CD.out w3 HB3.out.bel).mono ?_
          rintro e w4 ⟨ad, cd, rfl, hcd, hA4, hO4, hb⟩
          have HB4 := Lib.hid (HB3.out.keep hb)
          have HO4 := Lib.hid (Rw.owns_base hO4 HB3.out.bel.size)
          clear hb d0 d1 d2 d3 d4 d5 d6 hA4 hO4
          by_cases hfull : n4 = 16
          · have e16 : ((n4 : Int) == 16) = true := by rw [hfull]; rfl
            have HRS := Lib.hid (HFU.out hfull)
            clear hfull
            go_wp2_with fail
            go_ret2
            rw [HRS.out]
            exact putR_none HB4.out.bel
          · have e16 : ((n4 : Int) == 16) = false := beq_eq_false_iff_ne.2 (by omega)
            have HRS := Lib.hid (HOK.out hfull)
            clear hfull
            obtain ⟨d0, d1, d2, d3, d4, d5, d6⟩ := cells7 HB4.out.box
            go_wp2_with (at_builtin; refine Rw.append_one enS rfl (.tmp 35) (.tmp 37) rfl w.heap.size w4 _ rfl (⟨x0, x1, x2, x3, x4, x5, x6⟩ : En) _ rfl (.slice ad n4 cd) n4 rest rfl HO4.out rfl (by omega) HB4.out.bel.size ?_)
            intro v' w5 hO5 hg5
            have hb5 := Rw.below_append HB4.out.bel HB4.out.bel.size HO4.out hg5
            obtain ⟨a5, c5, rfl, hc5⟩ := Rw.owns_slice hO5
            have hA5 := Rw.own_at (S := enS) hO5 (by rw [List.length_append, HN4.out]; rfl) (by omega)
            have HR : Hid (PutR w (rest ++ [⟨x0, x1, x2, x3, x4, x5, x6⟩]) 0 (.returned (.tuple #[.slice a5 (n4 + 1) c5, .int .i64 0])) w5) := ⟨_, _, _, rfl, hc5, hA5, hb5⟩
            clear hO5 hg5 hb5 hA5 d0 d1 d2 d3 d4 d5 d6
            go_wp2_with fail
            go_ret2
            rw [HRS.out]
            exact HR.out
        · rw [decide_eq_false ha] at hlo
          rw [HORD.out hlo]
          have hle : decide (x0 ≤ y0) = true := by simp; omega
          clear ha hy hc3 hlo
          go_enter Try.func19, Try.ntmps19
          go_wp2_with fail
          rw [show w.alloc (.cells #[.int .i64 x0, .int .i64 x1, .int .i64 x2, .bool x3, .int .i64 x4, .int .i64 x5, .bool x6] 25) = w0 from HW.out]
          go_wp2_with fail
          refine CF.out.mono ?_
          rintro e w1 ⟨rfl, hb⟩
          have HB1 := Lib.hid (HB0.out.keep hb)
          clear hb d0 d1 d2 d3 d4 d5 d6
          obtain ⟨d0, d1, d2, d3, d4, d5, d6⟩ := cells7 HB1.out.box
          go_wp2_with fail
          refine (CV.out w1).mono ?_
          rintro e w2 ⟨rfl, hb⟩
          have HB2 := Lib.hid (HB1.out.keep hb)
          clear hb d0 d1 d2 d3 d4 d5 d6
          obtain ⟨R0, _, _, _, _, _, _⟩ := HC3.out w2 HB2.out.bel
          obtain ⟨d0, d1, d2, d3, d4, d5, d6⟩ := cells7 HB2.out.box
          go_wp2_with fail
          have c0 := fun d os => cell_regrown d0 d os
          clear d0 d1 d2 d3 d4 d5 d6
          have r0 := fun d os => cell_regrown R0 d os
          clear R0
          refine wp_region_qw (by kernel_rfl) (by kernel_rfl) ?_
          iterate 15 (refine qw_take (by kernel_rfl) (fun K hK => ?_); go_simp; refine hK _ ?_; clear hK K)
          refine qw_nil ?_
          intro _ hw'
          obtain ⟨⟨dq, osq⟩, hw''⟩ := hw'
          subst hw''
          have HB3 := Lib.hid (HB2.out.keep (below_regrown w2 dq osq))
          clear c0 r0
          generalize Sort.grow (redrawn w2 dq) osq = w3 at *
          go_wp2_with fail
          go_ret2
          exact putR_none HB3.out.bel
      · have hlo : lastOk l ⟨x0, x1, x2, x3, x4, x5, x6⟩ = true := by rw [List.eq_nil_of_length_eq_zero (show l.length = 0 by rw [HX.out.1]; omega)]; rfl
        have HFU := Lib.hid (fun h4 => HFUL.out hlo h4)
        have HOK := Lib.hid (fun h4 => HOKK.out hlo h4)
        have hki : ¬ (0 : Int) < (len : Int) := by omega
        have hkd : decide ((0 : Int) < (len : Int)) = false := by simp; omega
        clear hlo
        go_enter Try.func19, Try.ntmps19
        go_wp2_with fail
        rw [show w.alloc (.cells #[.int .i64 x0, .int .i64 x1, .int .i64 x2, .bool x3, .int .i64 x4, .int .i64 x5, .bool x6] 25) = w0 from HW.out]
        go_wp2_with fail
        refine CF.out.mono ?_
        rintro e w1 ⟨rfl, hb⟩
        have HB1 := Lib.hid (HB0.out.keep hb)
        clear hb d0 d1 d2 d3 d4 d5 d6
        obtain ⟨d0, d1, d2, d3, d4, d5, d6⟩ := cells7 HB1.out.box
        go_wp2_with fail
        refine (CV.out w1).mono ?_
        rintro e w2 ⟨rfl, hb⟩
        have HB2 := Lib.hid (HB1.out.keep hb)
        clear hb d0 d1 d2 d3 d4 d5 d6
        obtain ⟨d0, d1, d2, d3, d4, d5, d6⟩ := cells7 HB2.out.box
        go_wp2_with fail
        have c0 := fun d os => cell_regrown d0 d os
        clear d0 d1 d2 d3 d4 d5 d6
        refine wp_region_qw (by kernel_rfl) (by kernel_rfl) ?_
        iterate 4 (refine qw_take (by kernel_rfl) (fun K hK => ?_); go_simp; refine hK _ ?_; clear hK K)
        iterate 10 (refine qw_skip (by kernel_rfl) ?_; simp only [Act.put, List.setIfInBounds_toArray, List.set_cons_succ, List.set_cons_zero])
        refine qw_take (by kernel_rfl) (fun K hK => ?_); go_simp; refine hK _ ?_; clear hK K
        refine qw_nil ?_
        intro _ hw'
        obtain ⟨⟨dq, osq⟩, hw''⟩ := hw'
        subst hw''
        have HB3 := Lib.hid (HB2.out.keep (below_regrown w2 dq osq))
        clear c0
        generalize Sort.grow (redrawn w2 dq) osq = w3 at *
        obtain ⟨d0, d1, d2, d3, d4, d5, d6⟩ := cells7 HB3.out.box
        go_wp2_with fail
        refine (CD.out w3 HB3.out.bel).mono ?_
        rintro e w4 ⟨ad, cd, rfl, hcd, hA4, hO4, hb⟩
        have HB4 := Lib.hid (HB3.out.keep hb)
        have HO4 := Lib.hid (Rw.owns_base hO4 HB3.out.bel.size)
        clear hb d0 d1 d2 d3 d4 d5 d6 hA4 hO4
        by_cases hfull : n4 = 16
        · have e16 : ((n4 : Int) == 16) = true := by rw [hfull]; rfl
          have HRS := Lib.hid (HFU.out hfull)
          clear hfull
          go_wp2_with fail
          go_ret2
          rw [HRS.out]
          exact putR_none HB4.out.bel
        · have e16 : ((n4 : Int) == 16) = false := beq_eq_false_iff_ne.2 (by omega)
          have HRS := Lib.hid (HOK.out hfull)
          clear hfull
          obtain ⟨d0, d1, d2, d3, d4, d5, d6⟩ := cells7 HB4.out.box
          go_wp2_with (at_builtin; refine Rw.append_one enS rfl (.tmp 35) (.tmp 37) rfl w.heap.size w4 _ rfl (⟨x0, x1, x2, x3, x4, x5, x6⟩ : En) _ rfl (.slice ad n4 cd) n4 rest rfl HO4.out rfl (by omega) HB4.out.bel.size ?_)
          intro v' w5 hO5 hg5
          have hb5 := Rw.below_append HB4.out.bel HB4.out.bel.size HO4.out hg5
          obtain ⟨a5, c5, rfl, hc5⟩ := Rw.owns_slice hO5
          have hA5 := Rw.own_at (S := enS) hO5 (by rw [List.length_append, HN4.out]; rfl) (by omega)
          have HR : Hid (PutR w (rest ++ [⟨x0, x1, x2, x3, x4, x5, x6⟩]) 0 (.returned (.tuple #[.slice a5 (n4 + 1) c5, .int .i64 0])) w5) := ⟨_, _, _, rfl, hc5, hA5, hb5⟩
          clear hO5 hg5 hb5 hA5 d0 d1 d2 d3 d4 d5 d6
          go_wp2_with fail
          go_ret2
          rw [HRS.out]
          exact HR.out

end Go.Proofs.Ytbgdbcofdkjocaa.Outbox
