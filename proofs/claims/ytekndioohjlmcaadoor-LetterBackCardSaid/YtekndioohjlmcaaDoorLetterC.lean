/-
  The contracts of Fit, the program's and the document's: any letters; what was there stays as it was.
-/
import Derived.Test.YtekndioohjlmcaaDoorLetterB
set_option linter.unusedVariables false
set_option linter.unusedSimpArgs false
set_option maxRecDepth 4000
namespace Go.Proofs.YtekndioohjlmcaaDoor.Letter
open Go.RowKit LeP
open Go.Proofs.YtekndioohjlmcaaDoor.Kt

theorem getD_at {l : List Lt} {k : Nat} {x : Lt} (hk : k < l.length) (hx : l.getD k lt0 = x) : l[k] = x := by rw [← hx]; simp [List.getD, hk]
theorem fit_go {l : List Lt} {k : Nat} {x : Lt} (hk : k < l.length) (hx : l.getD k lt0 = x) : fitUp (l.take k) (l.drop k) = (okL (l.take k) x && fitUp (l.take (k + 1)) (l.drop (k + 1))) := by
  rw [fitUp_step hk, getD_at hk hx]
theorem fit_one {l : List Lt} {k : Nat} {x : Lt} (hk : k < l.length) (hx : l.getD k lt0 = x) (h : oneL x = false) : fitUp (l.take k) (l.drop k) = false := by
  rw [fit_go hk hx, okL, h]; rfl
theorem fit_last {l : List Lt} {k : Nat} {x y : Lt} (hk : k < l.length) (hx : l.getD k lt0 = x) (h0 : 0 < k) (hy : l.getD (k - 1) lt0 = y) (h : ¬ y.saga < x.saga) : fitUp (l.take k) (l.drop k) = false := by
  have := lastOk_at hk h0
  rw [getD_at hk hx, getD_at (by omega) hy, decide_eq_false h] at this
  rw [fit_go hk hx, okL, this]; simp
theorem last_yes {l : List Lt} {k : Nat} {x y : Lt} (hk : k < l.length) (hx : l.getD k lt0 = x) (h0 : 0 < k) (hy : l.getD (k - 1) lt0 = y) (h : y.saga < x.saga) : lastOk (l.take k) x = true := by
  have := lastOk_at hk h0
  rw [getD_at hk hx, getD_at (by omega) hy, decide_eq_true h] at this
  exact this
theorem fit_next {l : List Lt} {k : Nat} {x : Lt} (hk : k < l.length) (hx : l.getD k lt0 = x) (h1 : oneL x = true) (h2 : lastOk (l.take k) x = true) :
    fitUp (l.take k) (l.drop k) = fitUp (l.take (k + 1)) (l.drop (k + 1)) := by
  rw [fit_go hk hx, okL, h1, h2]; rfl
theorem fit_done {l : List Lt} {k : Nat} (hk : ¬ k < l.length) : fitUp (l.take k) (l.drop k) = true := by
  rw [List.drop_eq_nil_of_le (by omega)]; rfl
theorem fitB_long {l : List Lt} (h : 16 < l.length) : fitB l = false := by unfold fitB; rw [decide_eq_false (by omega)]; rfl
theorem fitB_short {l : List Lt} (h : ¬ 16 < l.length) : fitB l = fitUp (l.take 0) (l.drop 0) := by unfold fitB; rw [decide_eq_true (by omega : l.length ≤ 16)]; simp

set_option maxHeartbeats 8000000 in
theorem rfit_any (a : Option Addr) (len cap : Nat) (l : List Lt) (v : Bool) (hv : fitB l = v) (w : World) (h : LtAt w a len l) :
    Calls Tryd.prog 10 #[.slice a len cap] w fun e w' => e = .returned (.bool v) ∧ Below w.heap.size w w' := by
  have hl := h.2.1
  by_cases h16 : 16 < len
  · have HNO : Hid (v = false) := hv.symm.trans (fitB_long (by rw [h.1]; exact h16))
    have e0 : (16 : Int) < (len : Int) := by omega
    clear h hv
    go_enter Tryd.func10, Tryd.ntmps10
    go_wp2_with fail
    go_ret
    exact ⟨ret_bool HNO.out, Below.refl _ _⟩
  have e0 : ¬ ((16 : Int) < (len : Int)) := by omega
  have HV : Hid (v = fitUp (l.take 0) (l.drop 0)) := hv.symm.trans (fitB_short (by rw [h.1]; exact h16))
  have HX := Lib.hid h
  clear h hv
  go_enter Tryd.func10, Tryd.ntmps10
  go_wp2_with fail
  go_loopw [3] (fun i wr => ∃ k : Nat, k ≤ len ∧ i = .int .i64 (k : Int) ∧ Hid (v = fitUp (l.take k) (l.drop k)) ∧ Hid (Below w.heap.size w wr)) (fun i _ => len - (intOf i).toNat)
  case atStart => exact ⟨0, Nat.zero_le _, rfl, HV, Below.refl _ w⟩
  case round =>
    obtain ⟨k, hk, rfl, hd, hB⟩ := hrel
    by_cases hlk : k < len
    · have hkx : k < l.length := by rw [HX.out.1]; exact hlk
      obtain ⟨b1, o1, x0, x1, x2, x3, x4, rfl, g1, hp, hc1⟩ := LtAt.at HX.out hlk
      obtain ⟨d0, d1, d2, d3, d4⟩ := hc1 wr hB.out
      have HPC := Lib.hid (fun m (hm : m < len) => (LtAt.at HX.out hm))
      have hkl1 : (k : Int) < (len : Int) := by omega
      have hkz1 : (0 : Int) ≤ (k : Int) := by omega

      clear hc1 g1
      cases h1 : oneL ⟨x0, x1, x2, x3, x4⟩ with
      | false =>
        have HNO := Lib.hid (hd.out.trans (fit_one hkx hp h1))
        have CV := Lib.hid (fun d os => Calls.regrown_of (rone_is x0 x1 x2 x3 x4 false h1 (Sort.grow (redrawn wr d) os)))
        clear hd hp hkx h1
        go_wp2_with fail
        have c0 := fun d os => cell_regrown d0 d os
        have c1 := fun d os => cell_regrown d1 d os
        have c2 := fun d os => cell_regrown d2 d os
        have c3 := fun d os => cell_regrown d3 d os
        have c4 := fun d os => cell_regrown d4 d os
        clear d0 d1 d2 d3 d4
        refine wp_region_qw (by kernel_rfl) (by kernel_rfl) ?_
        iterate 7 (refine qw_take (by kernel_rfl) (fun K hK => ?_); go_simp; first | (refine hK _ ?_; clear hK K) | (apply Exists.intro; refine ⟨fun _ => ?_, hK _ ?_⟩; (first | with_reducible exact CV.out _ _); clear hK K))
        iterate 16 (refine qw_skip (by kernel_rfl) ?_; simp only [Act.put, List.setIfInBounds_toArray, List.set_cons_succ, List.set_cons_zero])
        refine qw_take (by kernel_rfl) (fun K hK => ?_); go_simp; first | (refine hK _ ?_; clear hK K) | (apply Exists.intro; refine ⟨fun _ => ?_, hK _ ?_⟩; (first | with_reducible exact CV.out _ _); clear hK K)
        refine qw_nil ?_
        intro _ hw'
        obtain ⟨⟨dq, osq⟩, hw''⟩ := hw'
        subst hw''
        have HBL := Lib.hid (below_keep hB.out (below_regrown wr dq osq) hB.out.size)
        clear c0 c1 c2 c3 c4 CV
        generalize Sort.grow (redrawn wr dq) osq = wl at *
        go_wp2_with fail
        go_ret
        exact ⟨ret_bool HNO.out, HBL.out⟩
      | true =>
        have CV := Lib.hid (fun d os => Calls.regrown_of (rone_is x0 x1 x2 x3 x4 true h1 (Sort.grow (redrawn wr d) os)))
        by_cases hk0 : 0 < k
        · have hkm : k - 1 < len := by omega
          obtain ⟨b2, o2, y0, y1, y2, y3, y4, hab, _, hy, hc3⟩ := HPC.out (k - 1) hkm
          simp only [Option.some.injEq, Addr.mk.injEq, and_true] at hab
          obtain ⟨rfl, rfl⟩ := hab
          obtain ⟨R0, _, _, _, _⟩ := hc3 wr hB.out
          have hki : (0 : Int) < (k : Int) := by omega
          have hkd : decide ((0 : Int) < (k : Int)) = true := by simp; omega
          have hkn : ((k : Int) - 1).toNat = k - 1 := by omega
          have hwk : IntKind.i64.wrap ((k : Int) - 1) = ((k - 1 : Nat) : Int) := by rw [IntKind.wrap_i64]; omega
          have hkl : ((k - 1 : Nat) : Int) < (len : Int) := by omega
          have hkz : (0 : Int) ≤ ((k - 1 : Nat) : Int) := by omega
          by_cases ha : y0 < x0
          · have HGO := Lib.hid (hd.out.trans (fit_next hkx hp h1 (last_yes hkx hp hk0 hy ha)))
            have hle : decide (x0 ≤ y0) = false := by simp; omega
            clear hd hp hkx h1 ha hy hc3
            go_wp2_with fail
            have c0 := fun d os => cell_regrown d0 d os
            have c1 := fun d os => cell_regrown d1 d os
            have c2 := fun d os => cell_regrown d2 d os
            have c3 := fun d os => cell_regrown d3 d os
            have c4 := fun d os => cell_regrown d4 d os
            have r0 := fun d os => cell_regrown R0 d os
            clear d0 d1 d2 d3 d4 R0
            refine wp_region_qw (by kernel_rfl) (by kernel_rfl) ?_
            iterate 24 (refine qw_take (by kernel_rfl) (fun K hK => ?_); go_simp; first | (refine hK _ ?_; clear hK K) | (apply Exists.intro; refine ⟨fun _ => ?_, hK _ ?_⟩; (first | with_reducible exact CV.out _ _); clear hK K))
            refine qw_nil ?_
            intro _ hw'
            obtain ⟨⟨dq, osq⟩, hw''⟩ := hw'
            subst hw''
            have HBL := Lib.hid (below_keep hB.out (below_regrown wr dq osq) hB.out.size)
            clear c0 c1 c2 c3 c4 r0 CV
            generalize Sort.grow (redrawn wr dq) osq = wl at *
            go_wp2_with fail
            go_roundw
            case rel => exact ⟨k + 1, by omega, by go_num, HGO, HBL⟩
            case measure => simp [intOf]; omega
          · have HNO := Lib.hid (hd.out.trans (fit_last hkx hp hk0 hy ha))
            have hle : decide (x0 ≤ y0) = true := by simp; omega
            clear hd hp hkx h1 ha hy hc3
            go_wp2_with fail
            have c0 := fun d os => cell_regrown d0 d os
            have c1 := fun d os => cell_regrown d1 d os
            have c2 := fun d os => cell_regrown d2 d os
            have c3 := fun d os => cell_regrown d3 d os
            have c4 := fun d os => cell_regrown d4 d os
            have r0 := fun d os => cell_regrown R0 d os
            clear d0 d1 d2 d3 d4 R0
            refine wp_region_qw (by kernel_rfl) (by kernel_rfl) ?_
            iterate 24 (refine qw_take (by kernel_rfl) (fun K hK => ?_); go_simp; first | (refine hK _ ?_; clear hK K) | (apply Exists.intro; refine ⟨fun _ => ?_, hK _ ?_⟩; (first | with_reducible exact CV.out _ _); clear hK K))
            refine qw_nil ?_
            intro _ hw'
            obtain ⟨⟨dq, osq⟩, hw''⟩ := hw'
            subst hw''
            have HBL := Lib.hid (below_keep hB.out (below_regrown wr dq osq) hB.out.size)
            clear c0 c1 c2 c3 c4 r0 CV
            generalize Sort.grow (redrawn wr dq) osq = wl at *
            go_wp2_with fail
            go_ret
            exact ⟨ret_bool HNO.out, HBL.out⟩
        · have HGO := Lib.hid (hd.out.trans (fit_next hkx hp h1 (by rw [show k = 0 by omega]; rfl)))
          have hki : ¬ (0 : Int) < (k : Int) := by omega
          have hkd : decide ((0 : Int) < (k : Int)) = false := by simp; omega
          clear hd hp hkx h1
          go_wp2_with fail
          have c0 := fun d os => cell_regrown d0 d os
          have c1 := fun d os => cell_regrown d1 d os
          have c2 := fun d os => cell_regrown d2 d os
          have c3 := fun d os => cell_regrown d3 d os
          have c4 := fun d os => cell_regrown d4 d os
          clear d0 d1 d2 d3 d4
          refine wp_region_qw (by kernel_rfl) (by kernel_rfl) ?_
          iterate 10 (refine qw_take (by kernel_rfl) (fun K hK => ?_); go_simp; first | (refine hK _ ?_; clear hK K) | (apply Exists.intro; refine ⟨fun _ => ?_, hK _ ?_⟩; (first | with_reducible exact CV.out _ _); clear hK K))
          iterate 12 (refine qw_skip (by kernel_rfl) ?_; simp only [Act.put, List.setIfInBounds_toArray, List.set_cons_succ, List.set_cons_zero])
          iterate 2 (refine qw_take (by kernel_rfl) (fun K hK => ?_); go_simp; first | (refine hK _ ?_; clear hK K) | (apply Exists.intro; refine ⟨fun _ => ?_, hK _ ?_⟩; (first | with_reducible exact CV.out _ _); clear hK K))
          refine qw_nil ?_
          intro _ hw'
          obtain ⟨⟨dq, osq⟩, hw''⟩ := hw'
          subst hw''
          have HBL := Lib.hid (below_keep hB.out (below_regrown wr dq osq) hB.out.size)
          clear c0 c1 c2 c3 c4 CV
          generalize Sort.grow (redrawn wr dq) osq = wl at *
          go_wp2_with fail
          go_roundw
          case rel => exact ⟨k + 1, by omega, by go_num, HGO, HBL⟩
          case measure => simp [intOf]; omega
    · obtain rfl : k = len := by omega
      have HYES := Lib.hid (hd.out.trans (fit_done (by rw [HX.out.1]; exact hlk)))
      clear hd
      go_wp2_with fail
      go_ret
      exact ⟨ret_bool HYES.out, hB.out⟩

set_option maxHeartbeats 8000000 in
theorem fit_any (a : Option Addr) (len cap : Nat) (l : List Lt) (v : Bool) (hv : fitB l = v) (w : World) (h : LtAt w a len l) :
    Calls Tryd.prog 9 #[.slice a len cap] w fun e w' => e = .returned (.bool v) ∧ Below w.heap.size w w' := by
  have hl := h.2.1
  by_cases h16 : 16 < len
  · have HNO : Hid (v = false) := hv.symm.trans (fitB_long (by rw [h.1]; exact h16))
    have e0 : (16 : Int) < (len : Int) := by omega
    clear h hv
    go_enter Tryd.func9, Tryd.ntmps9
    go_wp2_with fail
    go_ret
    exact ⟨ret_bool HNO.out, Below.refl _ _⟩
  have e0 : ¬ ((16 : Int) < (len : Int)) := by omega
  have HV : Hid (v = fitUp (l.take 0) (l.drop 0)) := hv.symm.trans (fitB_short (by rw [h.1]; exact h16))
  have HX := Lib.hid h
  clear h hv
  go_enter Tryd.func9, Tryd.ntmps9
  go_wp2_with fail
  go_loopw [10] (fun i wr => ∃ k : Nat, k ≤ len ∧ i = .int .i64 (k : Int) ∧ Hid (v = fitUp (l.take k) (l.drop k)) ∧ Hid (Below w.heap.size w wr)) (fun i _ => len - (intOf i).toNat)
  case atStart => exact ⟨0, Nat.zero_le _, rfl, HV, Below.refl _ w⟩
  case round =>
    obtain ⟨k, hk, rfl, hd, hB⟩ := hrel
    by_cases hlk : k < len
    · have hkx : k < l.length := by rw [HX.out.1]; exact hlk
      obtain ⟨b1, o1, x0, x1, x2, x3, x4, rfl, g1, hp, hc1⟩ := LtAt.at HX.out hlk
      obtain ⟨d0, d1, d2, d3, d4⟩ := hc1 wr hB.out
      have HPC := Lib.hid (fun m (hm : m < len) => (LtAt.at HX.out hm))
      have hkl1 : (k : Int) < (len : Int) := by omega
      have hkz1 : (0 : Int) ≤ (k : Int) := by omega
      have HBX := bx5_new 24 wr (.int .i64 x0) (.int .i64 x1) (.bool x2) (.int .i64 x3) (.int .i64 x4)
      obtain ⟨wb, hwb⟩ : ∃ wb, wr.alloc (.cells #[.int .i64 x0, .int .i64 x1, .bool x2, .int .i64 x3, .int .i64 x4] 24) = wb := ⟨_, rfl⟩
      rw [hwb] at HBX
      have HBX := Lib.hid HBX
      have HW := Lib.hid hwb
      clear hwb
      clear hc1 g1
      cases h1 : oneL ⟨x0, x1, x2, x3, x4⟩ with
      | false =>
        have HNO := Lib.hid (hd.out.trans (fit_one hkx hp h1))
        have CV := Lib.hid (fun d os => Calls.regrown_of (valid_is x0 x1 x2 x3 x4 false h1 (Sort.grow (redrawn wb d) os)))
        clear hd hp hkx h1
        go_wp2_with fail
        rw [show wr.alloc (.cells #[.int .i64 x0, .int .i64 x1, .bool x2, .int .i64 x3, .int .i64 x4] 24) = wb from HW.out]
        clear d0 d1 d2 d3 d4
        obtain ⟨C0, C1, C2, C3, C4⟩ := cells5 HBX.out.box
        have c0 := fun d os => cell_regrown C0 d os
        have c1 := fun d os => cell_regrown C1 d os
        have c2 := fun d os => cell_regrown C2 d os
        have c3 := fun d os => cell_regrown C3 d os
        have c4 := fun d os => cell_regrown C4 d os
        clear C0 C1 C2 C3 C4
        refine wp_region_qw (by kernel_rfl) (by kernel_rfl) ?_
        iterate 4 (refine qw_take (by kernel_rfl) (fun K hK => ?_); go_simp; first | (refine hK _ ?_; clear hK K) | (apply Exists.intro; refine ⟨fun _ => ?_, hK _ ?_⟩; (first | with_reducible exact CV.out _ _); clear hK K))
        iterate 13 (refine qw_skip (by kernel_rfl) ?_; simp only [Act.put, List.setIfInBounds_toArray, List.set_cons_succ, List.set_cons_zero])
        refine qw_take (by kernel_rfl) (fun K hK => ?_); go_simp; first | (refine hK _ ?_; clear hK K) | (apply Exists.intro; refine ⟨fun _ => ?_, hK _ ?_⟩; (first | with_reducible exact CV.out _ _); clear hK K)
        refine qw_nil ?_
        intro _ hw'
        obtain ⟨⟨dq, osq⟩, hw''⟩ := hw'
        subst hw''
        have HBL := Lib.hid (below_keep (below_keep hB.out HBX.out.bel hB.out.size) (below_regrown wb dq osq) (below_keep hB.out HBX.out.bel hB.out.size).size)
        clear c0 c1 c2 c3 c4 CV
        generalize Sort.grow (redrawn wb dq) osq = wl at *
        go_wp2_with fail
        go_ret
        exact ⟨ret_bool HNO.out, HBL.out⟩
      | true =>
        have CV := Lib.hid (fun d os => Calls.regrown_of (valid_is x0 x1 x2 x3 x4 true h1 (Sort.grow (redrawn wb d) os)))
        by_cases hk0 : 0 < k
        · have hkm : k - 1 < len := by omega
          obtain ⟨b2, o2, y0, y1, y2, y3, y4, hab, _, hy, hc3⟩ := HPC.out (k - 1) hkm
          simp only [Option.some.injEq, Addr.mk.injEq, and_true] at hab
          obtain ⟨rfl, rfl⟩ := hab
          obtain ⟨R0, _, _, _, _⟩ := hc3 wb (below_keep hB.out HBX.out.bel hB.out.size)
          have hki : (0 : Int) < (k : Int) := by omega
          have hkd : decide ((0 : Int) < (k : Int)) = true := by simp; omega
          have hkn : ((k : Int) - 1).toNat = k - 1 := by omega
          have hwk : IntKind.i64.wrap ((k : Int) - 1) = ((k - 1 : Nat) : Int) := by rw [IntKind.wrap_i64]; omega
          have hkl : ((k - 1 : Nat) : Int) < (len : Int) := by omega
          have hkz : (0 : Int) ≤ ((k - 1 : Nat) : Int) := by omega
          by_cases ha : y0 < x0
          · have HGO := Lib.hid (hd.out.trans (fit_next hkx hp h1 (last_yes hkx hp hk0 hy ha)))
            have hle : decide (x0 ≤ y0) = false := by simp; omega
            clear hd hp hkx h1 ha hy hc3
            go_wp2_with fail
            rw [show wr.alloc (.cells #[.int .i64 x0, .int .i64 x1, .bool x2, .int .i64 x3, .int .i64 x4] 24) = wb from HW.out]
            clear d0 d1 d2 d3 d4
            obtain ⟨C0, C1, C2, C3, C4⟩ := cells5 HBX.out.box
            have c0 := fun d os => cell_regrown C0 d os
            have c1 := fun d os => cell_regrown C1 d os
            have c2 := fun d os => cell_regrown C2 d os
            have c3 := fun d os => cell_regrown C3 d os
            have c4 := fun d os => cell_regrown C4 d os
            have r0 := fun d os => cell_regrown R0 d os
            clear C0 C1 C2 C3 C4 R0
            refine wp_region_qw (by kernel_rfl) (by kernel_rfl) ?_
            iterate 18 (refine qw_take (by kernel_rfl) (fun K hK => ?_); go_simp; first | (refine hK _ ?_; clear hK K) | (apply Exists.intro; refine ⟨fun _ => ?_, hK _ ?_⟩; (first | with_reducible exact CV.out _ _); clear hK K))
            refine qw_nil ?_
            intro _ hw'
            obtain ⟨⟨dq, osq⟩, hw''⟩ := hw'
            subst hw''
            have HBL := Lib.hid (below_keep (below_keep hB.out HBX.out.bel hB.out.size) (below_regrown wb dq osq) (below_keep hB.out HBX.out.bel hB.out.size).size)
            clear c0 c1 c2 c3 c4 r0 CV
            generalize Sort.grow (redrawn wb dq) osq = wl at *
            go_wp2_with fail
            go_roundw
            case rel => exact ⟨k + 1, by omega, by go_num, HGO, HBL⟩
            case measure => simp [intOf]; omega
          · have HNO := Lib.hid (hd.out.trans (fit_last hkx hp hk0 hy ha))
            have hle : decide (x0 ≤ y0) = true := by simp; omega
            clear hd hp hkx h1 ha hy hc3
            go_wp2_with fail
            rw [show wr.alloc (.cells #[.int .i64 x0, .int .i64 x1, .bool x2, .int .i64 x3, .int .i64 x4] 24) = wb from HW.out]
            clear d0 d1 d2 d3 d4
            obtain ⟨C0, C1, C2, C3, C4⟩ := cells5 HBX.out.box
            have c0 := fun d os => cell_regrown C0 d os
            have c1 := fun d os => cell_regrown C1 d os
            have c2 := fun d os => cell_regrown C2 d os
            have c3 := fun d os => cell_regrown C3 d os
            have c4 := fun d os => cell_regrown C4 d os
            have r0 := fun d os => cell_regrown R0 d os
            clear C0 C1 C2 C3 C4 R0
            refine wp_region_qw (by kernel_rfl) (by kernel_rfl) ?_
            iterate 18 (refine qw_take (by kernel_rfl) (fun K hK => ?_); go_simp; first | (refine hK _ ?_; clear hK K) | (apply Exists.intro; refine ⟨fun _ => ?_, hK _ ?_⟩; (first | with_reducible exact CV.out _ _); clear hK K))
            refine qw_nil ?_
            intro _ hw'
            obtain ⟨⟨dq, osq⟩, hw''⟩ := hw'
            subst hw''
            have HBL := Lib.hid (below_keep (below_keep hB.out HBX.out.bel hB.out.size) (below_regrown wb dq osq) (below_keep hB.out HBX.out.bel hB.out.size).size)
            clear c0 c1 c2 c3 c4 r0 CV
            generalize Sort.grow (redrawn wb dq) osq = wl at *
            go_wp2_with fail
            go_ret
            exact ⟨ret_bool HNO.out, HBL.out⟩
        · have HGO := Lib.hid (hd.out.trans (fit_next hkx hp h1 (by rw [show k = 0 by omega]; rfl)))
          have hki : ¬ (0 : Int) < (k : Int) := by omega
          have hkd : decide ((0 : Int) < (k : Int)) = false := by simp; omega
          clear hd hp hkx h1
          go_wp2_with fail
          rw [show wr.alloc (.cells #[.int .i64 x0, .int .i64 x1, .bool x2, .int .i64 x3, .int .i64 x4] 24) = wb from HW.out]
          clear d0 d1 d2 d3 d4
          obtain ⟨C0, C1, C2, C3, C4⟩ := cells5 HBX.out.box
          have c0 := fun d os => cell_regrown C0 d os
          have c1 := fun d os => cell_regrown C1 d os
          have c2 := fun d os => cell_regrown C2 d os
          have c3 := fun d os => cell_regrown C3 d os
          have c4 := fun d os => cell_regrown C4 d os
          clear C0 C1 C2 C3 C4
          refine wp_region_qw (by kernel_rfl) (by kernel_rfl) ?_
          iterate 7 (refine qw_take (by kernel_rfl) (fun K hK => ?_); go_simp; first | (refine hK _ ?_; clear hK K) | (apply Exists.intro; refine ⟨fun _ => ?_, hK _ ?_⟩; (first | with_reducible exact CV.out _ _); clear hK K))
          iterate 9 (refine qw_skip (by kernel_rfl) ?_; simp only [Act.put, List.setIfInBounds_toArray, List.set_cons_succ, List.set_cons_zero])
          iterate 2 (refine qw_take (by kernel_rfl) (fun K hK => ?_); go_simp; first | (refine hK _ ?_; clear hK K) | (apply Exists.intro; refine ⟨fun _ => ?_, hK _ ?_⟩; (first | with_reducible exact CV.out _ _); clear hK K))
          refine qw_nil ?_
          intro _ hw'
          obtain ⟨⟨dq, osq⟩, hw''⟩ := hw'
          subst hw''
          have HBL := Lib.hid (below_keep (below_keep hB.out HBX.out.bel hB.out.size) (below_regrown wb dq osq) (below_keep hB.out HBX.out.bel hB.out.size).size)
          clear c0 c1 c2 c3 c4 CV
          generalize Sort.grow (redrawn wb dq) osq = wl at *
          go_wp2_with fail
          go_roundw
          case rel => exact ⟨k + 1, by omega, by go_num, HGO, HBL⟩
          case measure => simp [intOf]; omega
    · obtain rfl : k = len := by omega
      have HYES := Lib.hid (hd.out.trans (fit_done (by rw [HX.out.1]; exact hlk)))
      clear hd
      go_wp2_with fail
      go_ret
      exact ⟨ret_bool HYES.out, hB.out⟩

end Go.Proofs.YtekndioohjlmcaaDoor.Letter
