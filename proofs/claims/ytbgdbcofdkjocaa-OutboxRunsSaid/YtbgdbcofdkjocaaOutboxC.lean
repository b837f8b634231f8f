/-
  The contract of the document's Fit: any entries; what was there stays as it was.
-/
import Derived.Test.YtbgdbcofdkjocaaOutboxB
set_option linter.unusedVariables false
set_option linter.unusedSimpArgs false
set_option maxRecDepth 4000
namespace Go.Proofs.Ytbgdbcofdkjocaa.Outbox
open Go.RowKit OutP
open Go.Proofs.Ytbgdbcofdkjocaa.Kt

theorem getD_at {l : List En} {k : Nat} {x : En} (hk : k < l.length) (hx : l.getD k en0 = x) : l[k] = x := by rw [← hx]; simp [List.getD, hk]
theorem fit_go {l : List En} {k : Nat} {x : En} (hk : k < l.length) (hx : l.getD k en0 = x) : fitUp (l.take k) (l.drop k) = (okE (l.take k) x && fitUp (l.take (k + 1)) (l.drop (k + 1))) := by
  rw [fitUp_step hk, getD_at hk hx]
theorem fit_one {l : List En} {k : Nat} {x : En} (hk : k < l.length) (hx : l.getD k en0 = x) (h : oneE x = false) : fitUp (l.take k) (l.drop k) = false := by
  rw [fit_go hk hx, okE, h]; rfl
theorem fit_last {l : List En} {k : Nat} {x y : En} (hk : k < l.length) (hx : l.getD k en0 = x) (h0 : 0 < k) (hy : l.getD (k - 1) en0 = y) (h : ¬ y.id < x.id) : fitUp (l.take k) (l.drop k) = false := by
  have := lastOk_at hk h0
  rw [getD_at hk hx, getD_at (by omega) hy, decide_eq_false h] at this
  rw [fit_go hk hx, okE, this]; simp
theorem last_yes {l : List En} {k : Nat} {x y : En} (hk : k < l.length) (hx : l.getD k en0 = x) (h0 : 0 < k) (hy : l.getD (k - 1) en0 = y) (h : y.id < x.id) : lastOk (l.take k) x = true := by
  have := lastOk_at hk h0
  rw [getD_at hk hx, getD_at (by omega) hy, decide_eq_true h] at this
  exact this
theorem all_find (g : Int) : ∀ p : List En, (p.all fun y => !(y.saga == g)) = !(findE g p).isSome
  | [] => rfl
  | y :: r => by
    rw [List.all_cons, findE, all_find g r]
    by_cases h : y.saga = g <;> simp [h]
theorem fit_twice {l : List En} {k : Nat} {x : En} (hk : k < l.length) (hx : l.getD k en0 = x) (h : (findE x.saga (l.take k)).isSome = true) : fitUp (l.take k) (l.drop k) = false := by
  rw [fit_go hk hx, okE, all_find, h]; simp
theorem fit_next {l : List En} {k : Nat} {x : En} (hk : k < l.length) (hx : l.getD k en0 = x) (h1 : oneE x = true) (h2 : lastOk (l.take k) x = true) (h3 : (findE x.saga (l.take k)).isSome = false) :
    fitUp (l.take k) (l.drop k) = fitUp (l.take (k + 1)) (l.drop (k + 1)) := by
  rw [fit_go hk hx, okE, all_find, h1, h2, h3]; rfl
theorem fit_done {l : List En} {k : Nat} (hk : ¬ k < l.length) : fitUp (l.take k) (l.drop k) = true := by
  rw [List.drop_eq_nil_of_le (by omega)]; rfl
theorem fitB_long {l : List En} (h : 16 < l.length) : fitB l = false := by unfold fitB; rw [decide_eq_false (by omega)]; rfl
theorem fitB_short {l : List En} (h : ¬ 16 < l.length) : fitB l = fitUp (l.take 0) (l.drop 0) := by unfold fitB; rw [decide_eq_true (by omega : l.length ≤ 16)]; simp
theorem findE_some {g : Int} : ∀ {p : List En} {y : En}, y ∈ p → y.saga = g → (findE g p).isSome = true
  | z :: r, y, hy, hk => by
    rw [findE]
    split
    · rfl
    · rename_i hz
      rcases List.mem_cons.1 hy with rfl | hy
      · exact absurd hk hz
      · exact findE_some hy hk
theorem findE_append {g : Int} : ∀ {p : List En} {y : En}, findE g p = none → ¬ y.saga = g → findE g (p ++ [y]) = none
  | [], y, _, hk => by show findE g [y] = none; rw [findE, if_neg hk]; rfl
  | z :: r, y, h, hk => by
    rw [findE] at h
    split at h
    · cases h
    · rename_i hz
      show findE g (z :: (r ++ [y])) = none
      rw [findE, if_neg hz]
      exact findE_append h hk
theorem twice_at {l : List En} {k m : Nat} {y : En} {g : Int} (hm : m < k) (hk : k < l.length) (hy : l.getD m en0 = y) (h : y.saga = g) : (findE g (l.take k)).isSome = true := by
  refine findE_some (y := y) ?_ h
  rw [← hy, show l.getD m en0 = l[m]'(by omega) by simp [List.getD, (by omega : m < l.length)]]
  exact List.mem_take_iff_getElem.2 ⟨m, by omega, rfl⟩
theorem none_at {l : List En} {m : Nat} {y : En} {g : Int} (hm : m < l.length) (hy : l.getD m en0 = y) (h : findE g (l.take m) = none) (hk : ¬ y.saga = g) : findE g (l.take (m + 1)) = none := by
  rw [Rw.take_snoc hm hy]; exact findE_append h hk

set_option maxHeartbeats 8000000 in
theorem rfit_any (a : Option Addr) (len cap : Nat) (l : List En) (v : Bool) (hv : fitB l = v) (w : World) (h : EnAt w a len l) :
    Calls Try.prog 10 #[.slice a len cap] w fun e w' => e = .returned (.bool v) ∧ Below w.heap.size w w' := by
  have hl := h.2.1
  by_cases h16 : 16 < len
  · have HNO : Hid (v = false) := hv.symm.trans (fitB_long (by rw [h.1]; exact h16))
    have e0 : (16 : Int) < (len : Int) := by omega
    clear h hv
    go_enter Try.func10, Try.ntmps10
    go_wp2_with fail
    go_ret
    exact ⟨ret_bool HNO.out, Below.refl _ _⟩
  have e0 : ¬ ((16 : Int) < (len : Int)) := by omega
  have HV : Hid (v = fitUp (l.take 0) (l.drop 0)) := hv.symm.trans (fitB_short (by rw [h.1]; exact h16))
  have HX := Lib.hid h
  clear h hv
  go_enter Try.func10, Try.ntmps10
  go_wp2_with fail
  go_loopw [3] (fun i wr => ∃ k : Nat, k ≤ len ∧ i = .int .i64 (k : Int) ∧ Hid (v = fitUp (l.take k) (l.drop k)) ∧ Hid (Below w.heap.size w wr)) (fun i _ => len - (intOf i).toNat)
  case atStart => exact ⟨0, Nat.zero_le _, rfl, HV, Below.refl _ w⟩
  case round =>
    obtain ⟨k, hk, rfl, hd, hB⟩ := hrel
    by_cases hlk : k < len
    · have hkx : k < l.length := by rw [HX.out.1]; exact hlk
      obtain ⟨b1, o1, x0, x1, x2, x3, x4, x5, x6, rfl, g1, hp, hc1⟩ := EnAt.at HX.out hlk
      obtain ⟨d0, d1, d2, d3, d4, d5, d6⟩ := hc1 wr hB.out
      have HC1 := Lib.hid hc1
      have HPC := Lib.hid (fun m (hm : m < len) => (EnAt.at HX.out hm))
      have hkl1 : (k : Int) < (len : Int) := by omega
      have hkz1 : (0 : Int) ≤ (k : Int) := by omega
      clear hc1 g1
      cases h1 : oneE ⟨x0, x1, x2, x3, x4, x5, x6⟩ with
      | false =>
        have HNO := Lib.hid (hd.out.trans (fit_one hkx hp h1))
        have CV := Lib.hid (fun d os => Calls.regrown_of (rone_is x0 x1 x2 x3 x4 x5 x6 false h1 (Sort.grow (redrawn wr d) os)))
        clear hd hp hkx h1
        go_wp2_with fail
        have c0 := fun d os => cell_regrown d0 d os
        have c1 := fun d os => cell_regrown d1 d os
        have c2 := fun d os => cell_regrown d2 d os
        have c3 := fun d os => cell_regrown d3 d os
        have c4 := fun d os => cell_regrown d4 d os
        have c5 := fun d os => cell_regrown d5 d os
        have c6 := fun d os => cell_regrown d6 d os
        clear d0 d1 d2 d3 d4 d5 d6
        refine wp_region_qw (by kernel_rfl) (by kernel_rfl) ?_
        iterate 7 (refine qw_take (by kernel_rfl) (fun K hK => ?_); go_simp; first | (refine hK _ ?_; clear hK K) | (apply Exists.intro; refine ⟨fun _ => ?_, hK _ ?_⟩; (first | with_reducible exact CV.out _ _); clear hK K))
        iterate 16 (refine qw_skip (by kernel_rfl) ?_; simp only [Act.put, List.setIfInBounds_toArray, List.set_cons_succ, List.set_cons_zero])
        refine qw_take (by kernel_rfl) (fun K hK => ?_); go_simp; first | (refine hK _ ?_; clear hK K) | (apply Exists.intro; refine ⟨fun _ => ?_, hK _ ?_⟩; (first | with_reducible exact CV.out _ _); clear hK K)
        refine qw_nil ?_
        intro _ hw'
        obtain ⟨⟨dq, osq⟩, hw''⟩ := hw'
        subst hw''
        have HBL := Lib.hid (below_keep hB.out (below_regrown wr dq osq) hB.out.size)
        clear c0 c1 c2 c3 c4 c5 c6 CV
        generalize Sort.grow (redrawn wr dq) osq = wl at *
        go_wp2_with fail
        go_ret
        exact ⟨ret_bool HNO.out, HBL.out⟩
      | true =>
        have CV := Lib.hid (fun d os => Calls.regrown_of (rone_is x0 x1 x2 x3 x4 x5 x6 true h1 (Sort.grow (redrawn wr d) os)))
        by_cases hk0 : 0 < k
        · have hkm : k - 1 < len := by omega
          obtain ⟨b2, o2, y0, y1, y2, y3, y4, y5, y6, hab, _, hy, hc3⟩ := HPC.out (k - 1) hkm
          simp only [Option.some.injEq, Addr.mk.injEq, and_true] at hab
          obtain ⟨rfl, rfl⟩ := hab
          obtain ⟨R0, _, _, _, _, _, _⟩ := hc3 wr hB.out
          have hki : (0 : Int) < (k : Int) := by omega
          have hkd : decide ((0 : Int) < (k : Int)) = true := by simp; omega
          have hkn : ((k : Int) - 1).toNat = k - 1 := by omega
          have hwk : IntKind.i64.wrap ((k : Int) - 1) = ((k - 1 : Nat) : Int) := by rw [IntKind.wrap_i64]; omega
          have hkl : ((k - 1 : Nat) : Int) < (len : Int) := by omega
          have hkz : (0 : Int) ≤ ((k - 1 : Nat) : Int) := by omega
          by_cases ha : y0 < x0
          · have hlast := last_yes hkx hp hk0 hy ha
            have hle : decide (x0 ≤ y0) = false := by simp; omega
            clear ha hy hc3
            go_wp2_with fail
            have c0 := fun d os => cell_regrown d0 d os
            have c1 := fun d os => cell_regrown d1 d os
            have c2 := fun d os => cell_regrown d2 d os
            have c3 := fun d os => cell_regrown d3 d os
            have c4 := fun d os => cell_regrown d4 d os
            have c5 := fun d os => cell_regrown d5 d os
            have c6 := fun d os => cell_regrown d6 d os
            have r0 := fun d os => cell_regrown R0 d os
            clear d0 d1 d2 d3 d4 d5 d6
            clear R0
            refine wp_region_qw (by kernel_rfl) (by kernel_rfl) ?_
            iterate 24 (refine qw_take (by kernel_rfl) (fun K hK => ?_); go_simp; first | (refine hK _ ?_; clear hK K) | (apply Exists.intro; refine ⟨fun _ => ?_, hK _ ?_⟩; (first | with_reducible exact CV.out _ _); clear hK K))
            refine qw_nil ?_
            intro _ hw'
            obtain ⟨⟨dq, osq⟩, hw''⟩ := hw'
            subst hw''
            have HBL := Lib.hid (below_keep hB.out (below_regrown wr dq osq) hB.out.size)
            clear c0 c1 c2 c3 c4 c5 c6 r0 CV
            generalize Sort.grow (redrawn wr dq) osq = wl at *
            clear hki hkd hkn hwk hkl hkz hle
            have HD := Lib.hid hd.out
            have HP := Lib.hid hp
            have HKX := Lib.hid hkx
            have H1 := Lib.hid h1
            have HLA := Lib.hid hlast
            have HCX := Lib.hid (fun m (hm : m < len) => (EnAt.at HX.out hm))
            clear hd hp hkx h1 hlast
            go_wp2_with fail
            go_loopw [4] (fun i wm => ∃ m : Nat, m ≤ k ∧ i = .int .i64 (m : Int) ∧ Hid (findE x1 (l.take m) = none) ∧ Hid (Below w.heap.size w wm)) (fun i _ => k - (intOf i).toNat)
            case atStart => exact ⟨0, Nat.zero_le _, rfl, rfl, HBL⟩
            case round =>
              obtain ⟨m, hmk2, rfl, hm, hBm⟩ := hrel
              by_cases hmk : m < k
              · obtain ⟨b3, o3, y0, y1, y2, y3, y4, y5, y6, hab, _, hy, hc4⟩ := HCX.out m (by omega)
                simp only [Option.some.injEq, Addr.mk.injEq, and_true] at hab
                obtain ⟨rfl, rfl⟩ := hab
                obtain ⟨_, q1, _, _, _, _, _⟩ := hc4 _ hBm.out
                obtain ⟨_, u1, _, _, _, _, _⟩ := HC1.out _ hBm.out
                have hml : (m : Int) < (len : Int) := by omega
                have hmi : (m : Int) < (k : Int) := by omega
                have hmz : (0 : Int) ≤ (m : Int) := by omega
                have hkl0 : (k : Int) < (len : Int) := by omega
                have hkz0 : (0 : Int) ≤ (k : Int) := by omega
                clear hc4
                by_cases k1 : y1 = x1
                · have e1 : (y1 == x1) = true := beq_iff_eq.2 k1
                  have HNO := Lib.hid (HD.out.trans (fit_twice HKX.out HP.out (twice_at hmk HKX.out hy k1)))
                  clear hy k1
                  go_wp2_with fail
                  have s1 := fun d os => cell_regrown q1 d os
                  have t1 := fun d os => cell_regrown u1 d os
                  clear q1 u1
                  refine wp_region_qw (by kernel_rfl) (by kernel_rfl) ?_
                  iterate 11 (refine qw_take (by kernel_rfl) (fun K hK => ?_); go_simp; refine hK _ ?_; clear hK K)
                  refine qw_nil ?_
                  intro _ hw'
                  obtain ⟨⟨dq, osq⟩, hw''⟩ := hw'
                  subst hw''
                  have HBQ := Lib.hid (below_keep hBm.out (below_regrown wr dq osq) hBm.out.size)
                  clear s1 t1
                  generalize Sort.grow (redrawn wr dq) osq = wq at *
                  go_wp2_with fail
                  go_ret
                  exact ⟨ret_bool HNO.out, HBQ.out⟩
                · have e1 : (y1 == x1) = false := beq_eq_false_iff_ne.2 k1
                  have HNX := Lib.hid (none_at (by have := HKX.out; omega) hy hm.out k1)
                  clear hy k1
                  go_wp2_with fail
                  have s1 := fun d os => cell_regrown q1 d os
                  have t1 := fun d os => cell_regrown u1 d os
                  clear q1 u1
                  refine wp_region_qw (by kernel_rfl) (by kernel_rfl) ?_
                  iterate 11 (refine qw_take (by kernel_rfl) (fun K hK => ?_); go_simp; refine hK _ ?_; clear hK K)
                  refine qw_nil ?_
                  intro _ hw'
                  obtain ⟨⟨dq, osq⟩, hw''⟩ := hw'
                  subst hw''
                  have HBQ := Lib.hid (below_keep hBm.out (below_regrown wr dq osq) hBm.out.size)
                  clear s1 t1
                  generalize Sort.grow (redrawn wr dq) osq = wq at *
                  go_wp2_with fail
                  go_roundw
                  case rel => exact ⟨m + 1, by omega, by go_num, HNX, HBQ⟩
                  case measure => simp [intOf]; omega
              · obtain rfl : m = k := by omega
                have HGO := Lib.hid (HD.out.trans (fit_next HKX.out HP.out H1.out HLA.out (by rw [hm.out]; rfl)))
                clear hm
                go_wp2_with fail
                go_roundw
                case rel => exact ⟨m + 1, by omega, by go_num, HGO, hBm⟩
                case measure => simp [intOf]; omega
          · have HNO := Lib.hid (hd.out.trans (fit_last hkx hp hk0 hy ha))
            have hle : decide (x0 ≤ y0) = true := by simp; omega
            clear hd hp hkx h1 ha hy hc3
            go_wp2_with fail
            have c0 := fun d os => cell_regrown d0 d os
            have c1 := fun d os => cell_regrown d1 d os
            have c2 := fun d os => cell_regrown d2 d os
            have c3 := fun d os => cell_regrown d3 d os
            have c4 := fun d os => cell_regrown d4 d os
            have c5 := fun d os => cell_regrown d5 d os
            have c6 := fun d os => cell_regrown d6 d os
            have r0 := fun d os => cell_regrown R0 d os
            clear d0 d1 d2 d3 d4 d5 d6
            clear R0
            refine wp_region_qw (by kernel_rfl) (by kernel_rfl) ?_
            iterate 24 (refine qw_take (by kernel_rfl) (fun K hK => ?_); go_simp; first | (refine hK _ ?_; clear hK K) | (apply Exists.intro; refine ⟨fun _ => ?_, hK _ ?_⟩; (first | with_reducible exact CV.out _ _); clear hK K))
            refine qw_nil ?_
            intro _ hw'
            obtain ⟨⟨dq, osq⟩, hw''⟩ := hw'
            subst hw''
            have HBL := Lib.hid (below_keep hB.out (below_regrown wr dq osq) hB.out.size)
            clear c0 c1 c2 c3 c4 c5 c6 r0 CV
            generalize Sort.grow (redrawn wr dq) osq = wl at *
            go_wp2_with fail
            go_ret
            exact ⟨ret_bool HNO.out, HBL.out⟩
        · have hlast : lastOk (l.take k) ⟨x0, x1, x2, x3, x4, x5, x6⟩ = true := by rw [show k = 0 by omega]; rfl
          have hki : ¬ ((0 : Int) < (k : Int)) := by omega
          have hkd : decide ((0 : Int) < (k : Int)) = false := by simp; omega
          go_wp2_with fail
          have c0 := fun d os => cell_regrown d0 d os
          have c1 := fun d os => cell_regrown d1 d os
          have c2 := fun d os => cell_regrown d2 d os
          have c3 := fun d os => cell_regrown d3 d os
          have c4 := fun d os => cell_regrown d4 d os
          have c5 := fun d os => cell_regrown d5 d os
          have c6 := fun d os => cell_regrown d6 d os
          clear d0 d1 d2 d3 d4 d5 d6
          refine wp_region_qw (by kernel_rfl) (by kernel_rfl) ?_
          iterate 10 (refine qw_take (by kernel_rfl) (fun K hK => ?_); go_simp; first | (refine hK _ ?_; clear hK K) | (apply Exists.intro; refine ⟨fun _ => ?_, hK _ ?_⟩; (first | with_reducible exact CV.out _ _); clear hK K))
          iterate 12 (refine qw_skip (by kernel_rfl) ?_; simp only [Act.put, List.setIfInBounds_toArray, List.set_cons_succ, List.set_cons_zero])
          iterate 2 (refine qw_take (by kernel_rfl) (fun K hK => ?_); go_simp; first | (refine hK _ ?_; clear hK K) | (apply Exists.intro; refine ⟨fun _ => ?_, hK _ ?_⟩; (first | with_reducible exact CV.out _ _); clear hK K))
          refine qw_nil ?_
          intro _ hw'
          obtain ⟨⟨dq, osq⟩, hw''⟩ := hw'
          subst hw''
          have HBL := Lib.hid (below_keep hB.out (below_regrown wr dq osq) hB.out.size)
          clear c0 c1 c2 c3 c4 c5 c6 CV
          generalize Sort.grow (redrawn wr dq) osq = wl at *
          clear hki hkd
          have HD := Lib.hid hd.out
          have HP := Lib.hid hp
          have HKX := Lib.hid hkx
          have H1 := Lib.hid h1
          have HLA := Lib.hid hlast
          have HCX := Lib.hid (fun m (hm : m < len) => (EnAt.at HX.out hm))
          clear hd hp hkx h1 hlast
          go_wp2_with fail
          go_loopw [4] (fun i wm => ∃ m : Nat, m ≤ k ∧ i = .int .i64 (m : Int) ∧ Hid (findE x1 (l.take m) = none) ∧ Hid (Below w.heap.size w wm)) (fun i _ => k - (intOf i).toNat)
          case atStart => exact ⟨0, Nat.zero_le _, rfl, rfl, HBL⟩
          case round =>
            obtain ⟨m, hmk2, rfl, hm, hBm⟩ := hrel
            by_cases hmk : m < k
            · obtain ⟨b3, o3, y0, y1, y2, y3, y4, y5, y6, hab, _, hy, hc4⟩ := HCX.out m (by omega)
              simp only [Option.some.injEq, Addr.mk.injEq, and_true] at hab
              obtain ⟨rfl, rfl⟩ := hab
              obtain ⟨_, q1, _, _, _, _, _⟩ := hc4 _ hBm.out
              obtain ⟨_, u1, _, _, _, _, _⟩ := HC1.out _ hBm.out
              have hml : (m : Int) < (len : Int) := by omega
              have hmi : (m : Int) < (k : Int) := by omega
              have hmz : (0 : Int) ≤ (m : Int) := by omega
              have hkl0 : (k : Int) < (len : Int) := by omega
              have hkz0 : (0 : Int) ≤ (k : Int) := by omega
              clear hc4
              by_cases k1 : y1 = x1
              · have e1 : (y1 == x1) = true := beq_iff_eq.2 k1
                have HNO := Lib.hid (HD.out.trans (fit_twice HKX.out HP.out (twice_at hmk HKX.out hy k1)))
                clear hy k1
                go_wp2_with fail
                have s1 := fun d os => cell_regrown q1 d os
                have t1 := fun d os => cell_regrown u1 d os
                clear q1 u1
                refine wp_region_qw (by kernel_rfl) (by kernel_rfl) ?_
                iterate 11 (refine qw_take (by kernel_rfl) (fun K hK => ?_); go_simp; refine hK _ ?_; clear hK K)
                refine qw_nil ?_
                intro _ hw'
                obtain ⟨⟨dq, osq⟩, hw''⟩ := hw'
                subst hw''
                have HBQ := Lib.hid (below_keep hBm.out (below_regrown wr dq osq) hBm.out.size)
                clear s1 t1
                generalize Sort.grow (redrawn wr dq) osq = wq at *
                go_wp2_with fail
                go_ret
                exact ⟨ret_bool HNO.out, HBQ.out⟩
              · have e1 : (y1 == x1) = false := beq_eq_false_iff_ne.2 k1
                have HNX := Lib.hid (none_at (by have := HKX.out; omega) hy hm.out k1)
                clear hy k1
                go_wp2_with fail
                have s1 := fun d os => cell_regrown q1 d os
                have t1 := fun d os => cell_regrown u1 d os
                clear q1 u1
                refine wp_region_qw (by kernel_rfl) (by kernel_rfl) ?_
                iterate 11 (refine qw_take (by kernel_rfl) (fun K hK => ?_); go_simp; refine hK _ ?_; clear hK K)
                refine qw_nil ?_
                intro _ hw'
                obtain ⟨⟨dq, osq⟩, hw''⟩ := hw'
                subst hw''
                have HBQ := Lib.hid (below_keep hBm.out (below_regrown wr dq osq) hBm.out.size)
                clear s1 t1
                generalize Sort.grow (redrawn wr dq) osq = wq at *
                go_wp2_with fail
                go_roundw
                case rel => exact ⟨m + 1, by omega, by go_num, HNX, HBQ⟩
                case measure => simp [intOf]; omega
            · obtain rfl : m = k := by omega
              have HGO := Lib.hid (HD.out.trans (fit_next HKX.out HP.out H1.out HLA.out (by rw [hm.out]; rfl)))
              clear hm
              go_wp2_with fail
              go_roundw
              case rel => exact ⟨m + 1, by omega, by go_num, HGO, hBm⟩
              case measure => simp [intOf]; omega
    · obtain rfl : k = len := by omega
      have HYES := Lib.hid (hd.out.trans (fit_done (by rw [HX.out.1]; exact hlk)))
      clear hd
      go_wp2_with fail
      go_ret
      exact ⟨ret_bool HYES.out, hB.out⟩
end Go.Proofs.Ytbgdbcofdkjocaa.Outbox
