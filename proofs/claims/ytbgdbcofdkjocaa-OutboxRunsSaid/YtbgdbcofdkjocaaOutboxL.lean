/-
  OutboxRuns; what was there stays as it was.
-/
import Derived.Test.YtbgdbcofdkjocaaOutboxK
import Derived.Test.YtbgdbcofdkjocaaOutboxRun
set_option linter.unusedVariables false
set_option linter.unusedSimpArgs false
set_option maxRecDepth 4000
namespace Go.Proofs.Ytbgdbcofdkjocaa.Outbox
open Go.RowKit OutP
open Go.Proofs.Ytbgdbcofdkjocaa.Kt

set_option maxHeartbeats 16000000 in
theorem runs_any (a : Option Addr) (len cap : Nat) (l : List En) (cu : Int) (hcu : 0 ≤ cu ∧ cu ≤ 255) (w : World) (h : EnAt w a len l) :
    Calls Try.prog 5 #[.slice a len cap, .int .u8 cu] w fun e w' => e = .returned (.bool true) ∧ Below w.heap.size w w' := by
  have hl := h.2.1
  by_cases h30 : 30 < len
  · have e0 : (30 : Int) < (len : Int) := by omega
    clear h
    go_enter Try.func5, Try.ntmps5
    go_wp2_with fail
    refine (awake_any w).mono ?_
    rintro e w1 ⟨rfl, hb⟩
    have B1 := Lib.hid hb
    clear hb
    go_wp2_with fail
    go_ret
    exact ⟨rfl, B1.out⟩
  have e0 : ¬ (30 : Int) < (len : Int) := by omega
  have HX := Lib.hid h
  clear h
  go_enter Try.func5, Try.ntmps5
  go_wp2_with fail
  go_loopw [5, 6, 7] (fun v5 v6 i wr => ∃ (k m : Nat) (N : List En) (a1 : Option Addr) (n1 c1 : Nat), k ≤ len ∧ i = .int .i64 (k : Int) ∧ v5 = .slice a1 n1 c1 ∧ v6 = .int .i64 (m : Int) ∧ n1 ≤ c1 ∧ Hid (EnAt wr a1 n1 N) ∧ Hid (RunE k m N) ∧ Hid (Below w.heap.size w wr)) (fun _ _ i _ => len - (intOf i).toNat)
  case atStart => exact ⟨0, 0, [], none, 0, 0, Nat.zero_le _, rfl, rfl, rfl, Nat.le_refl _, Rw.At.nil _ _ _, runE_zero, Below.refl _ w⟩
  case round =>
    obtain ⟨k, m, N, a1, n1, c1, hk, rfl, rfl, rfl, hc1, hA1, HRUN, hB⟩ := hrel
    by_cases hlk : k < len
    · have hk30 : k ≤ 30 := by omega
      have hmk : m ≤ 30 := by have := HRUN.out.few; omega
      obtain ⟨b1, o1, x0, x1, x2, x3, x4, x5, x6, rfl, _, _, hcx⟩ := EnAt.at HX.out hlk
      obtain ⟨d0, d1, d2, d3, d4, d5, d6⟩ := hcx wr hB.out
      have hn30 : n1 ≤ 30 := by rw [← hA1.out.1]; have := HRUN.out.le; omega
      obtain ⟨j0, hj0⟩ : ∃ j0 : Int, (m : Int) + 1 = j0 := ⟨_, rfl⟩
      have hwm : IntKind.i64.wrap ((m : Int) + 1) = j0 := by rw [IntKind.wrap_i64]; omega
      have HJ0 := Lib.hid hj0
      have hid0 : (⟨j0, x1, x2, x3, x4, x5, x6⟩ : En).id = (m : Int) + 1 := hj0.symm
      have HPN := Lib.hid (fun h1 => HRUN.out.put_not (x := ⟨j0, x1, x2, x3, x4, x5, x6⟩) h1)
      have HPF := Lib.hid (fun h1 h4 => HRUN.out.put_full (x := ⟨j0, x1, x2, x3, x4, x5, x6⟩) hid0 h1 h4)
      have HPI := Lib.hid (fun h1 h4 => HRUN.out.put_is (x := ⟨j0, x1, x2, x3, x4, x5, x6⟩) hid0 h1 h4)
      have HPR := Lib.hid (fun h1 h4 => HRUN.out.put (x := ⟨j0, x1, x2, x3, x4, x5, x6⟩) hid0 h1 h4)
      have hu1 := (Below.refl wr.heap.size wr).alloc (Nat.le_refl _) (.cells #[.int .i64 j0, .int .i64 x1, .int .i64 x2, .bool x3, .int .i64 x4, .int .i64 x5, .bool x6] 25)
      have hz1 := at7_new 25 wr (.int .i64 j0) (.int .i64 x1) (.int .i64 x2) (.bool x3) (.int .i64 x4) (.int .i64 x5) (.bool x6)
      obtain ⟨q0, q1, q2, q3, q4, q5, q6⟩ := cells7 hz1
      obtain ⟨u1, hu⟩ : ∃ u1, wr.alloc (.cells #[.int .i64 j0, .int .i64 x1, .int .i64 x2, .bool x3, .int .i64 x4, .int .i64 x5, .bool x6] 25) = u1 := ⟨_, rfl⟩
      rw [hu] at hu1 hz1
      obtain ⟨b8, hb8⟩ : ∃ b8, wr.heap.size = b8 := ⟨_, rfl⟩
      rw [hb8] at hz1 q0 q1 q2 q3 q4 q5 q6
      have HU := Lib.hid hu
      have HB8 := Lib.hid hb8
      have B1 := Lib.hid (below_keep hB.out hu1 hB.out.size)
      have Z1 := Lib.hid hz1
      have A1 := Lib.hid (hA1.out.keep hu1)
      clear hcx hu1 hz1 hu hb8 hA1 hB hj0 hid0
      cases h1 : oneE ⟨j0, x1, x2, x3, x4, x5, x6⟩ with
      | false =>
        have C1 := Lib.hid (put_is a1 n1 c1 N [] 1 hc1 j0 x1 x2 x3 x4 x5 x6 (HPN.out h1) u1 A1.out)
        go_wp2_with fail
        rw [show wr.alloc (.cells #[.int .i64 j0, .int .i64 x1, .int .i64 x2, .bool x3, .int .i64 x4, .int .i64 x5, .bool x6] 25) = u1 from HU.out]
        refine C1.out.mono ?_
        rintro e u2 ⟨a7, n7, c7, rfl, hc7, hA7, hb⟩
        have B2 := Lib.hid (below_keep B1.out hb B1.out.size)
        have Z2 := Lib.hid (Z1.out.keep hb)
        have A2 := Lib.hid (A1.out.keep hb)
        have HR := Lib.hid HRUN.out.more
        clear hb hA7 q0 q1 q2 q3 q4 q5 q6 C1 hc7
        rw [show wr.heap.size = b8 from HB8.out]
        obtain ⟨q0, q1, q2, q3, q4, q5, q6⟩ := cells7 Z2.out
        go_wp2_with fail
        refine ((rone_is j0 x1 x2 x3 x4 x5 x6 false h1) u2).mono ?_
        rintro e u3 ⟨rfl, hb⟩
        have B3 := Lib.hid (below_keep B2.out hb B2.out.size)
        have A3 := Lib.hid (A2.out.keep hb)
        clear hb
        go_wp2_with fail
        go_roundw
        case rel => exact ⟨k + 1, m, N, a1, n1, c1, by omega, by go_num, rfl, rfl, hc1, A3, HR, B3⟩
        case measure => simp [intOf]; omega
      | true =>
        by_cases h4 : (dropE x1 N).length = 16
        · have HP4 := Lib.hid (HPF.out h1 h4)
          have C1 := Lib.hid (put_is a1 n1 c1 N [] 4 hc1 j0 x1 x2 x3 x4 x5 x6 (HP4.out) u1 A1.out)
          go_wp2_with fail
          rw [show wr.alloc (.cells #[.int .i64 j0, .int .i64 x1, .int .i64 x2, .bool x3, .int .i64 x4, .int .i64 x5, .bool x6] 25) = u1 from HU.out]
          refine C1.out.mono ?_
          rintro e u2 ⟨a7, n7, c7, rfl, hc7, hA7, hb⟩
          have B2 := Lib.hid (below_keep B1.out hb B1.out.size)
          have Z2 := Lib.hid (Z1.out.keep hb)
          have A2 := Lib.hid (A1.out.keep hb)
          have HR := Lib.hid HRUN.out.more
          clear hb hA7 q0 q1 q2 q3 q4 q5 q6 C1 hc7
          rw [show wr.heap.size = b8 from HB8.out]
          obtain ⟨q0, q1, q2, q3, q4, q5, q6⟩ := cells7 Z2.out
          go_wp2_with fail
          go_roundw
          case rel => exact ⟨k + 1, m, N, a1, n1, c1, by omega, by go_num, rfl, rfl, hc1, A2, HR, B2⟩
          case measure => simp [intOf]; omega
        · 
          obtain ⟨N2, hN2⟩ : ∃ N2, dropE x1 N ++ [(⟨j0, x1, x2, x3, x4, x5, x6⟩ : En)] = N2 := ⟨_, rfl⟩
          obtain ⟨n2, hn2⟩ : ∃ n2, N2.length = n2 := ⟨_, rfl⟩
          have hr2 := HPR.out h1 h4
          have hp2 := HPI.out h1 h4
          have hn2' : n2 = (dropE x1 N).length + 1 := by rw [← hn2, ← hN2, List.length_append]; rfl
          have hn2a : n2 ≤ n1 + 1 := by rw [hn2']; have := drop_le x1 N; have := A1.out.1; omega
          have hlst : N2.getD (n2 - 1) en0 = ⟨j0, x1, x2, x3, x4, x5, x6⟩ := by rw [← hN2, hn2', Nat.add_sub_cancel]; simp [List.getD]
          have hfnd : findE x1 N2 = some ⟨j0, x1, x2, x3, x4, x5, x6⟩ := by rw [← hN2]; exact put_find (x := ⟨j0, x1, x2, x3, x4, x5, x6⟩) hr2.fit
          simp only [hN2] at hr2 hp2
          have C1 := Lib.hid (put_is a1 n1 c1 N N2 0 hc1 j0 x1 x2 x3 x4 x5 x6 hp2 u1 A1.out)
          have HR := Lib.hid hr2
          have HFN := Lib.hid hfnd
          have HLS := Lib.hid hlst
          have HN2 := Lib.hid hn2
          have h31 : n2 ≤ 31 := by omega
          have hpos : 0 < n2 := by omega
          clear hr2 hp2 hn2' hlst hfnd hN2
          go_wp2_with fail
          rw [show wr.alloc (.cells #[.int .i64 j0, .int .i64 x1, .int .i64 x2, .bool x3, .int .i64 x4, .int .i64 x5, .bool x6] 25) = u1 from HU.out]
          refine C1.out.mono ?_
          rintro e u2 ⟨a7, n7, c7, rfl, hc7, hA7, hb⟩
          obtain rfl : n2 = n7 := hn2.symm.trans hA7.1
          have B2 := Lib.hid (below_keep B1.out hb B1.out.size)
          have Z2 := Lib.hid (Z1.out.keep hb)
          have A2 := Lib.hid hA7
          clear hb hA7 q0 q1 q2 q3 q4 q5 q6 C1 hn2
          rw [show wr.heap.size = b8 from HB8.out]
          obtain ⟨q0, q1, q2, q3, q4, q5, q6⟩ := cells7 Z2.out
          have C2 := Lib.hid (find_is a7 n2 c7 N2 x1 j0 x1 x2 x3 x4 x5 x6 true (by rw [HFN.out]; rfl) (by rw [HFN.out]; rfl) (by omega) u2 A2.out)
          go_wp2_with fail
          refine C2.out.mono ?_
          rintro e v3 ⟨rfl, hb⟩
          have hb' := hb.alloc hb.size (.cells #[.int .i64 j0, .int .i64 x1, .int .i64 x2, .bool x3, .int .i64 x4, .int .i64 x5, .bool x6] 25)
          have hz := at7_new 25 v3 (.int .i64 j0) (.int .i64 x1) (.int .i64 x2) (.bool x3) (.int .i64 x4) (.int .i64 x5) (.bool x6)
          obtain ⟨u3, hu⟩ : ∃ u3, v3.alloc (.cells #[.int .i64 j0, .int .i64 x1, .int .i64 x2, .bool x3, .int .i64 x4, .int .i64 x5, .bool x6] 25) = u3 := ⟨_, rfl⟩
          rw [hu] at hb' hz
          obtain ⟨b11, hbx⟩ : ∃ b11, v3.heap.size = b11 := ⟨_, rfl⟩
          rw [hbx] at hz
          have HU3 := Lib.hid hu
          have HX3 := Lib.hid hbx
          have B3 := Lib.hid (below_keep B2.out hb' B2.out.size)
          have Z3 := Lib.hid (Z2.out.keep hb')
          have Y3 := Lib.hid hz
          have A3 := Lib.hid (A2.out.keep hb')
          clear hb hb' hz hu hbx C2 q0 q1 q2 q3 q4 q5 q6
          go_wp2_with fail
          rw [show v3.alloc (.cells #[.int .i64 j0, .int .i64 x1, .int .i64 x2, .bool x3, .int .i64 x4, .int .i64 x5, .bool x6] 25) = u3 from HU3.out]
          rw [show v3.heap.size = b11 from HX3.out]
          have CV := Lib.hid (fun d os => Calls.regrown_of (fit_any a7 n2 c7 N2 hc7 true (fitB_iff.2 HR.out.fit) (Sort.grow (redrawn u3 d) os) (A3.out.keep (below_regrown u3 d os))))
          obtain ⟨b2, o2, e0', e1', e2', e3', e4', e5', e6', rfl, _, hp, hcl⟩ := EnAt.at A3.out (show n2 - 1 < n2 by omega)
          have hee := HLS.out.symm.trans hp
          simp only [En.mk.injEq] at hee
          obtain ⟨rfl, rfl, rfl, rfl, rfl, rfl, rfl⟩ := hee
          obtain ⟨r0, r1, r2, r3, r4, r5, r6⟩ := hcl u3 (Below.refl _ _)
          obtain ⟨s0, s1, s2, s3, s4, s5, s6⟩ := cells7 Z3.out
          obtain ⟨t0, t1, t2, t3, t4, t5, t6⟩ := cells7 Y3.out
          have r0' := fun d os => cell_regrown r0 d os
          have s0' := fun d os => cell_regrown s0 d os
          have t0' := fun d os => cell_regrown t0 d os
          have r1' := fun d os => cell_regrown r1 d os
          have s1' := fun d os => cell_regrown s1 d os
          have t1' := fun d os => cell_regrown t1 d os
          have r2' := fun d os => cell_regrown r2 d os
          have s2' := fun d os => cell_regrown s2 d os
          have t2' := fun d os => cell_regrown t2 d os
          have r3' := fun d os => cell_regrown r3 d os
          have s3' := fun d os => cell_regrown s3 d os
          have t3' := fun d os => cell_regrown t3 d os
          have r4' := fun d os => cell_regrown r4 d os
          have s4' := fun d os => cell_regrown s4 d os
          have t4' := fun d os => cell_regrown t4 d os
          have r5' := fun d os => cell_regrown r5 d os
          have s5' := fun d os => cell_regrown s5 d os
          have t5' := fun d os => cell_regrown t5 d os
          have r6' := fun d os => cell_regrown r6 d os
          have s6' := fun d os => cell_regrown s6 d os
          have t6' := fun d os => cell_regrown t6 d os
          clear r0 s0 t0 r1 s1 t1 r2 s2 t2 r3 s3 t3 r4 s4 t4 r5 s5 t5 r6 s6 t6 hcl hp
          have hneq := fun w => neq_en j0 x1 x2 x3 x4 x5 x6 j0 x1 x2 x3 x4 x5 x6 w
          simp only [eqE_self, Bool.not_true] at hneq
          have hgd := fun x y w => guard_en .neq x y j0 x1 x2 x3 x4 x5 x6 j0 x1 x2 x3 x4 x5 x6 w
          obtain ⟨p1, hp1⟩ : ∃ p1, n1 + 1 = p1 := ⟨_, rfl⟩
          have hwn : IntKind.i64.wrap ((n1 : Int) + 1) = (p1 : Int) := by rw [IntKind.wrap_i64]; omega
          have hgt : decide ((p1 : Int) < (n2 : Int)) = false := by simp; omega
          have hgt2 : ¬ ((p1 : Int) < (n2 : Int)) := by omega
          have hgt3 : ¬ (p1 < n2) := by omega
          clear hp1
          have hwk : IntKind.i64.wrap ((n2 : Int) - 1) = ((n2 - 1 : Nat) : Int) := by rw [IntKind.wrap_i64]; omega
          have hkl : ((n2 - 1 : Nat) : Int) < (n2 : Int) := by omega
          have hkz : (0 : Int) ≤ ((n2 - 1 : Nat) : Int) := by omega
          have hkn : ((n2 : Int) - 1).toNat = n2 - 1 := by omega
          refine wp_region_qw (by kernel_rfl) (by kernel_rfl) ?_
          iterate 30 (refine qw_take (by kernel_rfl) (fun K hK => ?_); go_simp; first | (refine hK _ ?_; clear hK K) | (apply Exists.intro; refine ⟨fun _ => ?_, hK _ ?_⟩; (first | with_reducible exact CV.out _ _); clear hK K))
          refine qw_nil ?_
          intro _ hw'
          obtain ⟨⟨dq, osq⟩, hw''⟩ := hw'
          subst hw''
          have B4 := Lib.hid (below_keep B3.out (below_regrown u3 dq osq) B3.out.size)
          have A4 := Lib.hid (A3.out.keep (below_regrown u3 dq osq))
          clear CV r0' s0' t0' r1' s1' t1' r2' s2' t2' r3' s3' t3' r4' s4' t4' r5' s5' t5' r6' s6' t6' hneq hgd
          generalize Sort.grow (redrawn u3 dq) osq = wl at *
          go_wp2_with fail
          go_roundw
          case rel => exact ⟨k + 1, m + 1, N2, some ⟨b2, o2, none⟩, n2, c7, by omega, by go_num, rfl, by rw [← HJ0.out]; go_num, hc7, A4, HR, B4⟩
          case measure => simp [intOf]; omega
    · obtain rfl : k = len := by omega
      have hn30 : n1 ≤ 30 := by rw [← hA1.out.1]; have := HRUN.out.le; omega
      go_wp2_with fail
      obtain ⟨c, hc⟩ : ∃ c : Int, cu % 32 = c := ⟨_, rfl⟩
      obtain ⟨M, hM⟩ : ∃ M, sinceE c N = M := ⟨_, rfl⟩
      obtain ⟨ns, hns⟩ : ∃ ns, M.length = ns := ⟨_, rfl⟩
      have hns30 : ns ≤ 30 := by rw [← hns, ← hM]; have := List.length_filter_le (fun x => decide (c < x.id)) N; have := hA1.out.1; unfold sinceE; omega
      have CS := Lib.hid (since_is a1 n1 c1 N M c ns hM hns (by omega) wr hA1.out)
      have HM := Lib.hid hM
      have HNS := Lib.hid hns
      clear hM hns
      rw [hc]
      clear hc
      refine CS.out.mono ?_
      rintro e w1 ⟨a2, c2, rfl, hc2, hA2, hb⟩
      have B1 := Lib.hid (below_keep hB.out hb hB.out.size)
      have AN := Lib.hid (hA1.out.keep hb)
      have AS := Lib.hid hA2
      clear hb hA2 hA1 hB CS
      go_wp2_with fail
      go_loopw [15, 16] (fun v15 i wr => ∃ (k j : Nat), k ≤ n1 ∧ i = .int .i64 (k : Int) ∧ v15 = .int .i64 (j : Int) ∧ Hid (((N.take k).filter fun x => decide (c < x.id)).length = j) ∧ Hid (Below w1.heap.size w1 wr)) (fun _ i _ => n1 - (intOf i).toNat)
      case atStart => exact ⟨0, 0, Nat.zero_le _, rfl, rfl, rfl, Below.refl _ _⟩
      case round =>
        obtain ⟨k, j, hk, rfl, rfl, hJ, hB⟩ := hrel
        by_cases hlk2 : k < n1
        · have hkx : k < N.length := by rw [AN.out.1]; exact hlk2
          obtain ⟨b1, o1, x0, x1, x2, x3, x4, x5, x6, rfl, _, hp, hc1⟩ := EnAt.at AN.out hlk2
          obtain ⟨d0, d1, d2, d3, d4, d5, d6⟩ := hc1 wr hB.out
          by_cases h1 : c < x0
          · have hpy : (decide (c < (⟨x0, x1, x2, x3, x4, x5, x6⟩ : En).id)) = true := decide_eq_true h1
            have hat := filt_at (p := fun x => decide (c < x.id)) hkx hp hpy
            have hup := filt_yes (p := fun x => decide (c < x.id)) hkx hp hpy
            rw [hJ.out, show (N.filter fun x => decide (c < x.id)) = M from HM.out, HNS.out] at hat
            obtain ⟨hjs, hjx⟩ := hat
            have HUP : Hid (((N.take (k + 1)).filter fun x => decide (c < x.id)).length = j + 1) := by show _ = _; rw [hup, List.length_append, hJ.out]; rfl
            obtain ⟨b2, o2, e0', e1', e2', e3', e4', e5', e6', rfl, _, hp2, hc3⟩ := EnAt.at AS.out hjs
            have hee := hjx.symm.trans hp2
            simp only [En.mk.injEq] at hee
            obtain ⟨rfl, rfl, rfl, rfl, rfl, rfl, rfl⟩ := hee
            obtain ⟨r0, r1, r2, r3, r4, r5, r6⟩ := hc3 wr hB.out
            have hcd : decide (c < x0) = true := decide_eq_true h1
            have hge : decide ((ns : Int) ≤ (j : Int)) = false := by simp; omega
            have hge2 : ¬ ((ns : Int) ≤ (j : Int)) := by omega
            have hge3 : ¬ (ns ≤ j) := by omega
            have hjl : (j : Int) < (ns : Int) := by omega
            have hjz : (0 : Int) ≤ (j : Int) := by omega
            have hkl : (k : Int) < (n1 : Int) := by omega
            have hkz : (0 : Int) ≤ (k : Int) := by omega
            have hneq := fun w => neq_en x0 x1 x2 x3 x4 x5 x6 x0 x1 x2 x3 x4 x5 x6 w
            simp only [eqE_self, Bool.not_true] at hneq
            have hgd := fun x y w => guard_en .neq x y x0 x1 x2 x3 x4 x5 x6 x0 x1 x2 x3 x4 x5 x6 w
            clear hp hp2 hjx hup hpy hkx hc1 hc3
            go_wp2_with fail
            have r0' := fun d os => cell_regrown r0 d os; have r1' := fun d os => cell_regrown r1 d os; have r2' := fun d os => cell_regrown r2 d os; have r3' := fun d os => cell_regrown r3 d os; have r4' := fun d os => cell_regrown r4 d os; have r5' := fun d os => cell_regrown r5 d os; have r6' := fun d os => cell_regrown r6 d os; have d0' := fun d os => cell_regrown d0 d os; have d1' := fun d os => cell_regrown d1 d os; have d2' := fun d os => cell_regrown d2 d os; have d3' := fun d os => cell_regrown d3 d os; have d4' := fun d os => cell_regrown d4 d os; have d5' := fun d os => cell_regrown d5 d os; have d6' := fun d os => cell_regrown d6 d os; clear r0 d0 r1 d1 r2 d2 r3 d3 r4 d4 r5 d5 r6 d6
            refine wp_region_qw (by kernel_rfl) (by kernel_rfl) ?_
            iterate 15 (refine qw_take (by kernel_rfl) (fun K hK => ?_); go_simp; refine hK _ ?_; clear hK K)
            refine qw_nil ?_
            intro _ hw'
            obtain ⟨⟨dq, osq⟩, hw''⟩ := hw'
            subst hw''
            have HBQ := Lib.hid (below_keep hB.out (below_regrown wr dq osq) hB.out.size)
            clear r0' d0' r1' d1' r2' d2' r3' d3' r4' d4' r5' d5' r6' d6' hneq hgd
            generalize Sort.grow (redrawn wr dq) osq = wq at *
            go_wp2_with fail
            go_roundw
            case rel => exact ⟨k + 1, j + 1, by omega, by go_num, by go_num, HUP, HBQ⟩
            case measure => simp [intOf]; omega
          · have hpy : (decide (c < (⟨x0, x1, x2, x3, x4, x5, x6⟩ : En).id)) = false := decide_eq_false h1
            have hup := filt_no (p := fun x => decide (c < x.id)) hkx hp hpy
            have HUP : Hid (((N.take (k + 1)).filter fun x => decide (c < x.id)).length = j) := by show _ = _; rw [hup, hJ.out]
            have hcd : decide (c < x0) = false := decide_eq_false h1
            clear hp hup hpy hkx hc1
            go_wp2_with fail
            go_roundw
            case rel => exact ⟨k + 1, j, by omega, by go_num, rfl, HUP, hB⟩
            case measure => simp [intOf]; omega
        · obtain rfl : k = n1 := by omega
          have hjj : j = ns := by
            rw [← hJ.out, ← HNS.out, ← HM.out, List.take_of_length_le (Nat.le_of_eq AN.out.1)]; rfl
          subst hjj
          have hee : ((j : Int) == (j : Int)) = true := by simp
          go_wp2_with fail
          refine (awake_any wr).mono ?_
          rintro e w2 ⟨rfl, hb⟩
          have B2 := Lib.hid (below_keep (below_keep B1.out hB.out B1.out.size) hb (below_keep B1.out hB.out B1.out.size).size)
          clear hb
          go_wp2_with fail
          go_ret
          exact ⟨rfl, B2.out⟩
end Go.Proofs.Ytbgdbcofdkjocaa.Outbox
namespace Go.Proofs.Ytbgdbcofdkjocaa
open Go.RowKit
theorem Contract.outboxRuns (a : Option Addr) (len cap : Nat) (cu : Int) (W : World) (h : IsEntry W a len cap) (hx : (Lit.int .u8 cu).wf = true) :
    Calls Try.prog 5 #[.slice a len cap, .int .u8 cu] W fun e W' => e = .returned (.bool true) ∧ Below W.heap.size W W' := by
  obtain ⟨l, hl, hc⟩ := h
  have hu : 0 ≤ cu ∧ cu ≤ 255 := by simpa [Lit.wf, IntKind.min, IntKind.max, IntKind.signed, IntKind.bits] using hx
  exact Go.Proofs.Ytbgdbcofdkjocaa.Outbox.runs_any a len cap l cu hu W hl
end Go.Proofs.Ytbgdbcofdkjocaa
