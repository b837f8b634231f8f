/-
  The contract of the document's Fit: any timers; what was there stays as it was.
-/
import Derived.Test.YtcfjnpepbjaacaaTimerD
set_option linter.unusedVariables false
set_option linter.unusedSimpArgs false
set_option maxRecDepth 4000
namespace Go.Proofs.Ytcfjnpepbjaacaa.Timer
open Go.RowKit TimerP
open Go.Proofs.Ytcfjnpepbjaacaa.Kt

theorem findT_some {g q : Int} : ∀ {p : List Tm} {y : Tm}, y ∈ p → keyB g q y = true → (findT g q p).isSome = true
  | z :: r, y, hy, hk => by
    rw [findT]
    split
    · rfl
    · rename_i hz
      rcases List.mem_cons.1 hy with rfl | hy
      · exact absurd hk hz
      · exact findT_some hy hk
theorem findT_append {g q : Int} : ∀ {p : List Tm} {y : Tm}, findT g q p = none → keyB g q y = false → findT g q (p ++ [y]) = none
  | [], y, _, hk => by show findT g q [y] = none; rw [findT, if_neg (by rw [hk]; simp)]; rfl
  | z :: r, y, h, hk => by
    rw [findT] at h
    split at h
    · cases h
    · rename_i hz
      show findT g q (z :: (r ++ [y])) = none
      rw [findT, if_neg hz]
      exact findT_append h hk
theorem twice_at {l : List Tm} {k m : Nat} {y : Tm} {g q : Int} (hm : m < k) (hk : k < l.length) (hy : l.getD m tm0 = y) (h : keyB g q y = true) : (findT g q (l.take k)).isSome = true := by
  refine findT_some (y := y) ?_ h
  rw [← hy, show l.getD m tm0 = l[m]'(by omega) by simp [List.getD, (by omega : m < l.length)]]
  exact List.mem_take_iff_getElem.2 ⟨m, by omega, rfl⟩
theorem none_at {l : List Tm} {m : Nat} {y : Tm} {g q : Int} (hm : m < l.length) (hy : l.getD m tm0 = y) (h : findT g q (l.take m) = none) (hk : keyB g q y = false) : findT g q (l.take (m + 1)) = none := by
  rw [Rw.take_snoc hm hy]; exact findT_append h hk
theorem key_no1 {g q y0 y1 y2 : Int} (h : ¬ y1 = g) : keyB g q ⟨y0, y1, y2⟩ = false := by
  cases e : keyB g q ⟨y0, y1, y2⟩ with
  | false => rfl
  | true => exact absurd (keyB_iff.1 e).1 h
theorem key_no2 {g q y0 y1 y2 : Int} (h : ¬ y2 = q) : keyB g q ⟨y0, y1, y2⟩ = false := by
  cases e : keyB g q ⟨y0, y1, y2⟩ with
  | false => rfl
  | true => exact absurd (keyB_iff.1 e).2 h

set_option maxHeartbeats 8000000 in
theorem rfit_any (a : Option Addr) (len cap : Nat) (l : List Tm) (v : Bool) (hv : fitB l = v) (w : World) (h : TmAt w a len l) :
    Calls Try.prog 12 #[.slice a len cap] w fun e w' => e = .returned (.bool v) ∧ Below w.heap.size w w' := by
  have hl := h.2.1
  by_cases h64 : 64 < len
  · have HNO : Hid (v = false) := hv.symm.trans (fitB_long (by rw [h.1]; exact h64))
    have e0 : (64 : Int) < (len : Int) := by omega
    clear h hv
    go_enter Try.func12, Try.ntmps12
    go_wp2_with fail
    go_ret
    exact ⟨ret_bool HNO.out, Below.refl _ _⟩
  have e0 : ¬ ((64 : Int) < (len : Int)) := by omega
  have HV : Hid (v = fitUp (l.take 0) (l.drop 0)) := hv.symm.trans (fitB_short (by rw [h.1]; exact h64))
  have HX := Lib.hid h
  clear h hv
  go_enter Try.func12, Try.ntmps12
  go_wp2_with fail
  go_loopw [3] (fun i wr => ∃ k : Nat, k ≤ len ∧ i = .int .i64 (k : Int) ∧ Hid (v = fitUp (l.take k) (l.drop k)) ∧ Hid (Below w.heap.size w wr)) (fun i _ => len - (intOf i).toNat)
  case atStart => exact ⟨0, Nat.zero_le _, rfl, HV, Below.refl _ w⟩
  case round =>
    obtain ⟨k, hk, rfl, hd, hB⟩ := hrel
    by_cases hlk : k < len
    · have hkx : k < l.length := by rw [HX.out.1]; exact hlk
      obtain ⟨b1, o1, x0, x1, x2, rfl, g1, hp, hc1⟩ := TmAt.at HX.out hlk
      obtain ⟨d0, d1, d2⟩ := hc1 wr hB.out
      have HC1 := Lib.hid hc1
      have HPC := Lib.hid (fun m (hm : m < len) => (TmAt.at HX.out hm))
      have hkl1 : (k : Int) < (len : Int) := by omega
      have hkz1 : (0 : Int) ≤ (k : Int) := by omega
      clear hc1 g1
      cases h1 : oneT ⟨x0, x1, x2⟩ with
      | false =>
        have HNO := Lib.hid (hd.out.trans (fit_one hkx hp h1))
        have CV := Lib.hid (fun d os => Calls.regrown_of (rone_is x0 x1 x2 false h1 (Sort.grow (redrawn wr d) os)))
        clear hd hp hkx h1
        go_wp2_with fail
        have c0 := fun d os => cell_regrown d0 d os
        have c1 := fun d os => cell_regrown d1 d os
        have c2 := fun d os => cell_regrown d2 d os
        clear d0 d1 d2
        refine wp_region_qw (by kernel_rfl) (by kernel_rfl) ?_
        refine qw_take (by kernel_rfl) (fun K hK => ?_); go_simp; first | (refine hK _ ?_; clear hK K) | (apply Exists.intro; refine ⟨fun _ => ?_, hK _ ?_⟩; (first | with_reducible exact CV.out _ _); clear hK K)
        refine qw_take (by kernel_rfl) (fun K hK => ?_); go_simp; first | (refine hK _ ?_; clear hK K) | (apply Exists.intro; refine ⟨fun _ => ?_, hK _ ?_⟩; (first | with_reducible exact CV.out _ _); clear hK K)
        refine qw_take (by kernel_rfl) (fun K hK => ?_); go_simp; first | (refine hK _ ?_; clear hK K) | (apply Exists.intro; refine ⟨fun _ => ?_, hK _ ?_⟩; (first | with_reducible exact CV.out _ _); clear hK K)
        refine qw_take (by kernel_rfl) (fun K hK => ?_); go_simp; first | (refine hK _ ?_; clear hK K) | (apply Exists.intro; refine ⟨fun _ => ?_, hK _ ?_⟩; (first | with_reducible exact CV.out _ _); clear hK K)
        refine qw_take (by kernel_rfl) (fun K hK => ?_); go_simp; first | (refine hK _ ?_; clear hK K) | (apply Exists.intro; refine ⟨fun _ => ?_, hK _ ?_⟩; (first | with_reducible exact CV.out _ _); clear hK K)
        refine qw_take (by kernel_rfl) (fun K hK => ?_); go_simp; first | (refine hK _ ?_; clear hK K) | (apply Exists.intro; refine ⟨fun _ => ?_, hK _ ?_⟩; (first | with_reducible exact CV.out _ _); clear hK K)
        refine qw_take (by kernel_rfl) (fun K hK => ?_); go_simp; first | (refine hK _ ?_; clear hK K) | (apply Exists.intro; refine ⟨fun _ => ?_, hK _ ?_⟩; (first | with_reducible exact CV.out _ _); clear hK K)
        refine qw_skip (by kernel_rfl) ?_; simp only [Act.put, List.setIfInBounds_toArray, List.set_cons_succ, List.set_cons_zero]
        refine qw_skip (by kernel_rfl) ?_; simp only [Act.put, List.setIfInBounds_toArray, List.set_cons_succ, List.set_cons_zero]
        refine qw_skip (by kernel_rfl) ?_; simp only [Act.put, List.setIfInBounds_toArray, List.set_cons_succ, List.set_cons_zero]
        refine qw_skip (by kernel_rfl) ?_; simp only [Act.put, List.setIfInBounds_toArray, List.set_cons_succ, List.set_cons_zero]
        refine qw_skip (by kernel_rfl) ?_; simp only [Act.put, List.setIfInBounds_toArray, List.set_cons_succ, List.set_cons_zero]
        refine qw_skip (by kernel_rfl) ?_; simp only [Act.put, List.setIfInBounds_toArray, List.set_cons_succ, List.set_cons_zero]
        refine qw_skip (by kernel_rfl) ?_; simp only [Act.put, List.setIfInBounds_toArray, List.set_cons_succ, List.set_cons_zero]
        refine qw_skip (by kernel_rfl) ?_; simp only [Act.put, List.setIfInBounds_toArray, List.set_cons_succ, List.set_cons_zero]
        refine qw_skip (by kernel_rfl) ?_; simp only [Act.put, List.setIfInBounds_toArray, List.set_cons_succ, List.set_cons_zero]
        refine qw_skip (by kernel_rfl) ?_; simp only [Act.put, List.setIfInBounds_toArray, List.set_cons_succ, List.set_cons_zero]
        refine qw_skip (by kernel_rfl) ?_; simp only [Act.put, List.setIfInBounds_toArray, List.set_cons_succ, List.set_cons_zero]
        refine qw_skip (by kernel_rfl) ?_; simp only [Act.put, List.setIfInBounds_toArray, List.set_cons_succ, List.set_cons_zero]
        refine qw_skip (by kernel_rfl) ?_; simp only [Act.put, List.setIfInBounds_toArray, List.set_cons_succ, List.set_cons_zero]
        refine qw_skip (by kernel_rfl) ?_; simp only [Act.put, List.setIfInBounds_toArray, List.set_cons_succ, List.set_cons_zero]
        refine qw_skip (by kernel_rfl) ?_; simp only [Act.put, List.setIfInBounds_toArray, List.set_cons_succ, List.set_cons_zero]
        refine qw_take (by kernel_rfl) (fun K hK => ?_); go_simp; first | (refine hK _ ?_; clear hK K) | (apply Exists.intro; refine ⟨fun _ => ?_, hK _ ?_⟩; (first | with_reducible exact CV.out _ _); clear hK K)
        refine qw_nil ?_
        intro _ hw'
        obtain ⟨⟨dq, osq⟩, hw''⟩ := hw'
        subst hw''
        have HBL := Lib.hid (below_keep hB.out (below_regrown wr dq osq) hB.out.size)
        clear c0 c1 c2 CV
        generalize Sort.grow (redrawn wr dq) osq = wl at *
        go_wp2_with fail
        go_ret
        exact ⟨ret_bool HNO.out, HBL.out⟩
      | true =>
        have CV := Lib.hid (fun d os => Calls.regrown_of (rone_is x0 x1 x2 true h1 (Sort.grow (redrawn wr d) os)))
        by_cases hk0 : 0 < k
        · have hkm : k - 1 < len := by omega
          obtain ⟨b2, o2, y0, y1, y2, hab, _, hy, hc3⟩ := HPC.out (k - 1) hkm
          simp only [Option.some.injEq, Addr.mk.injEq, and_true] at hab
          obtain ⟨rfl, rfl⟩ := hab
          obtain ⟨R0, R1, R2⟩ := hc3 wr hB.out
          have hki : (0 : Int) < (k : Int) := by omega
          have hkd : decide ((0 : Int) < (k : Int)) = true := by simp; omega
          have hkn : ((k : Int) - 1).toNat = k - 1 := by omega
          have hwk : IntKind.i64.wrap ((k : Int) - 1) = ((k - 1 : Nat) : Int) := by rw [IntKind.wrap_i64]; omega
          have hkl : ((k - 1 : Nat) : Int) < (len : Int) := by omega
          have hkz : (0 : Int) ≤ ((k - 1 : Nat) : Int) := by omega
          cases ha : aheadB ⟨y0, y1, y2⟩ ⟨x0, x1, x2⟩ with
          | false =>
            have HNO := Lib.hid (hd.out.trans (fit_last hkx hp hk0 hy ha))
            have CA := Lib.hid (fun d os => Calls.regrown_of (rahead_is y0 y1 y2 x0 x1 x2 false ha (Sort.grow (redrawn wr d) os)))
            clear hd hp hkx h1 ha hy hc3
            go_wp2_with fail
            have c0 := fun d os => cell_regrown d0 d os
            have c1 := fun d os => cell_regrown d1 d os
            have c2 := fun d os => cell_regrown d2 d os
            have r0 := fun d os => cell_regrown R0 d os
            have r1 := fun d os => cell_regrown R1 d os
            have r2 := fun d os => cell_regrown R2 d os
            clear d0 d1 d2 R0 R1 R2
            refine wp_region_qw (by kernel_rfl) (by kernel_rfl) ?_
            refine qw_take (by kernel_rfl) (fun K hK => ?_); go_simp; first | (refine hK _ ?_; clear hK K) | (apply Exists.intro; refine ⟨fun _ => ?_, hK _ ?_⟩; (first | with_reducible exact CV.out _ _ | with_reducible exact CA.out _ _); clear hK K)
            refine qw_take (by kernel_rfl) (fun K hK => ?_); go_simp; first | (refine hK _ ?_; clear hK K) | (apply Exists.intro; refine ⟨fun _ => ?_, hK _ ?_⟩; (first | with_reducible exact CV.out _ _ | with_reducible exact CA.out _ _); clear hK K)
            refine qw_take (by kernel_rfl) (fun K hK => ?_); go_simp; first | (refine hK _ ?_; clear hK K) | (apply Exists.intro; refine ⟨fun _ => ?_, hK _ ?_⟩; (first | with_reducible exact CV.out _ _ | with_reducible exact CA.out _ _); clear hK K)
            refine qw_take (by kernel_rfl) (fun K hK => ?_); go_simp; first | (refine hK _ ?_; clear hK K) | (apply Exists.intro; refine ⟨fun _ => ?_, hK _ ?_⟩; (first | with_reducible exact CV.out _ _ | with_reducible exact CA.out _ _); clear hK K)
            refine qw_take (by kernel_rfl) (fun K hK => ?_); go_simp; first | (refine hK _ ?_; clear hK K) | (apply Exists.intro; refine ⟨fun _ => ?_, hK _ ?_⟩; (first | with_reducible exact CV.out _ _ | with_reducible exact CA.out _ _); clear hK K)
            refine qw_take (by kernel_rfl) (fun K hK => ?_); go_simp; first | (refine hK _ ?_; clear hK K) | (apply Exists.intro; refine ⟨fun _ => ?_, hK _ ?_⟩; (first | with_reducible exact CV.out _ _ | with_reducible exact CA.out _ _); clear hK K)
            refine qw_take (by kernel_rfl) (fun K hK => ?_); go_simp; first | (refine hK _ ?_; clear hK K) | (apply Exists.intro; refine ⟨fun _ => ?_, hK _ ?_⟩; (first | with_reducible exact CV.out _ _ | with_reducible exact CA.out _ _); clear hK K)
            refine qw_take (by kernel_rfl) (fun K hK => ?_); go_simp; first | (refine hK _ ?_; clear hK K) | (apply Exists.intro; refine ⟨fun _ => ?_, hK _ ?_⟩; (first | with_reducible exact CV.out _ _ | with_reducible exact CA.out _ _); clear hK K)
            refine qw_take (by kernel_rfl) (fun K hK => ?_); go_simp; first | (refine hK _ ?_; clear hK K) | (apply Exists.intro; refine ⟨fun _ => ?_, hK _ ?_⟩; (first | with_reducible exact CV.out _ _ | with_reducible exact CA.out _ _); clear hK K)
            refine qw_take (by kernel_rfl) (fun K hK => ?_); go_simp; first | (refine hK _ ?_; clear hK K) | (apply Exists.intro; refine ⟨fun _ => ?_, hK _ ?_⟩; (first | with_reducible exact CV.out _ _ | with_reducible exact CA.out _ _); clear hK K)
            refine qw_take (by kernel_rfl) (fun K hK => ?_); go_simp; first | (refine hK _ ?_; clear hK K) | (apply Exists.intro; refine ⟨fun _ => ?_, hK _ ?_⟩; (first | with_reducible exact CV.out _ _ | with_reducible exact CA.out _ _); clear hK K)
            refine qw_take (by kernel_rfl) (fun K hK => ?_); go_simp; first | (refine hK _ ?_; clear hK K) | (apply Exists.intro; refine ⟨fun _ => ?_, hK _ ?_⟩; (first | with_reducible exact CV.out _ _ | with_reducible exact CA.out _ _); clear hK K)
            refine qw_take (by kernel_rfl) (fun K hK => ?_); go_simp; first | (refine hK _ ?_; clear hK K) | (apply Exists.intro; refine ⟨fun _ => ?_, hK _ ?_⟩; (first | with_reducible exact CV.out _ _ | with_reducible exact CA.out _ _); clear hK K)
            refine qw_take (by kernel_rfl) (fun K hK => ?_); go_simp; first | (refine hK _ ?_; clear hK K) | (apply Exists.intro; refine ⟨fun _ => ?_, hK _ ?_⟩; (first | with_reducible exact CV.out _ _ | with_reducible exact CA.out _ _); clear hK K)
            refine qw_take (by kernel_rfl) (fun K hK => ?_); go_simp; first | (refine hK _ ?_; clear hK K) | (apply Exists.intro; refine ⟨fun _ => ?_, hK _ ?_⟩; (first | with_reducible exact CV.out _ _ | with_reducible exact CA.out _ _); clear hK K)
            refine qw_take (by kernel_rfl) (fun K hK => ?_); go_simp; first | (refine hK _ ?_; clear hK K) | (apply Exists.intro; refine ⟨fun _ => ?_, hK _ ?_⟩; (first | with_reducible exact CV.out _ _ | with_reducible exact CA.out _ _); clear hK K)
            refine qw_take (by kernel_rfl) (fun K hK => ?_); go_simp; first | (refine hK _ ?_; clear hK K) | (apply Exists.intro; refine ⟨fun _ => ?_, hK _ ?_⟩; (first | with_reducible exact CV.out _ _ | with_reducible exact CA.out _ _); clear hK K)
            refine qw_take (by kernel_rfl) (fun K hK => ?_); go_simp; first | (refine hK _ ?_; clear hK K) | (apply Exists.intro; refine ⟨fun _ => ?_, hK _ ?_⟩; (first | with_reducible exact CV.out _ _ | with_reducible exact CA.out _ _); clear hK K)
            refine qw_take (by kernel_rfl) (fun K hK => ?_); go_simp; first | (refine hK _ ?_; clear hK K) | (apply Exists.intro; refine ⟨fun _ => ?_, hK _ ?_⟩; (first | with_reducible exact CV.out _ _ | with_reducible exact CA.out _ _); clear hK K)
            refine qw_take (by kernel_rfl) (fun K hK => ?_); go_simp; first | (refine hK _ ?_; clear hK K) | (apply Exists.intro; refine ⟨fun _ => ?_, hK _ ?_⟩; (first | with_reducible exact CV.out _ _ | with_reducible exact CA.out _ _); clear hK K)
            refine qw_take (by kernel_rfl) (fun K hK => ?_); go_simp; first | (refine hK _ ?_; clear hK K) | (apply Exists.intro; refine ⟨fun _ => ?_, hK _ ?_⟩; (first | with_reducible exact CV.out _ _ | with_reducible exact CA.out _ _); clear hK K)
            refine qw_take (by kernel_rfl) (fun K hK => ?_); go_simp; first | (refine hK _ ?_; clear hK K) | (apply Exists.intro; refine ⟨fun _ => ?_, hK _ ?_⟩; (first | with_reducible exact CV.out _ _ | with_reducible exact CA.out _ _); clear hK K)
            refine qw_take (by kernel_rfl) (fun K hK => ?_); go_simp; first | (refine hK _ ?_; clear hK K) | (apply Exists.intro; refine ⟨fun _ => ?_, hK _ ?_⟩; (first | with_reducible exact CV.out _ _ | with_reducible exact CA.out _ _); clear hK K)
            refine qw_nil ?_
            intro _ hw'
            obtain ⟨⟨dq, osq⟩, hw''⟩ := hw'
            subst hw''
            have HBL := Lib.hid (below_keep hB.out (below_regrown wr dq osq) hB.out.size)
            clear c0 c1 c2 r0 r1 r2 CV CA
            generalize Sort.grow (redrawn wr dq) osq = wl at *
            go_wp2_with fail
            go_ret
            exact ⟨ret_bool HNO.out, HBL.out⟩
          | true =>
            have hlast := last_yes hkx hp hk0 hy ha
            have CA := Lib.hid (fun d os => Calls.regrown_of (rahead_is y0 y1 y2 x0 x1 x2 true ha (Sort.grow (redrawn wr d) os)))
            clear ha hy hc3
            go_wp2_with fail
            have c0 := fun d os => cell_regrown d0 d os
            have c1 := fun d os => cell_regrown d1 d os
            have c2 := fun d os => cell_regrown d2 d os
            have r0 := fun d os => cell_regrown R0 d os
            have r1 := fun d os => cell_regrown R1 d os
            have r2 := fun d os => cell_regrown R2 d os
            clear d0 d1 d2 R0 R1 R2
            refine wp_region_qw (by kernel_rfl) (by kernel_rfl) ?_
            refine qw_take (by kernel_rfl) (fun K hK => ?_); go_simp; first | (refine hK _ ?_; clear hK K) | (apply Exists.intro; refine ⟨fun _ => ?_, hK _ ?_⟩; (first | with_reducible exact CV.out _ _ | with_reducible exact CA.out _ _); clear hK K)
            refine qw_take (by kernel_rfl) (fun K hK => ?_); go_simp; first | (refine hK _ ?_; clear hK K) | (apply Exists.intro; refine ⟨fun _ => ?_, hK _ ?_⟩; (first | with_reducible exact CV.out _ _ | with_reducible exact CA.out _ _); clear hK K)
            refine qw_take (by kernel_rfl) (fun K hK => ?_); go_simp; first | (refine hK _ ?_; clear hK K) | (apply Exists.intro; refine ⟨fun _ => ?_, hK _ ?_⟩; (first | with_reducible exact CV.out _ _ | with_reducible exact CA.out _ _); clear hK K)
            refine qw_take (by kernel_rfl) (fun K hK => ?_); go_simp; first | (refine hK _ ?_; clear hK K) | (apply Exists.intro; refine ⟨fun _ => ?_, hK _ ?_⟩; (first | with_reducible exact CV.out _ _ | with_reducible exact CA.out _ _); clear hK K)
            refine qw_take (by kernel_rfl) (fun K hK => ?_); go_simp; first | (refine hK _ ?_; clear hK K) | (apply Exists.intro; refine ⟨fun _ => ?_, hK _ ?_⟩; (first | with_reducible exact CV.out _ _ | with_reducible exact CA.out _ _); clear hK K)
            refine qw_take (by kernel_rfl) (fun K hK => ?_); go_simp; first | (refine hK _ ?_; clear hK K) | (apply Exists.intro; refine ⟨fun _ => ?_, hK _ ?_⟩; (first | with_reducible exact CV.out _ _ | with_reducible exact CA.out _ _); clear hK K)
            refine qw_take (by kernel_rfl) (fun K hK => ?_); go_simp; first | (refine hK _ ?_; clear hK K) | (apply Exists.intro; refine ⟨fun _ => ?_, hK _ ?_⟩; (first | with_reducible exact CV.out _ _ | with_reducible exact CA.out _ _); clear hK K)
            refine qw_take (by kernel_rfl) (fun K hK => ?_); go_simp; first | (refine hK _ ?_; clear hK K) | (apply Exists.intro; refine ⟨fun _ => ?_, hK _ ?_⟩; (first | with_reducible exact CV.out _ _ | with_reducible exact CA.out _ _); clear hK K)
            refine qw_take (by kernel_rfl) (fun K hK => ?_); go_simp; first | (refine hK _ ?_; clear hK K) | (apply Exists.intro; refine ⟨fun _ => ?_, hK _ ?_⟩; (first | with_reducible exact CV.out _ _ | with_reducible exact CA.out _ _); clear hK K)
            refine qw_take (by kernel_rfl) (fun K hK => ?_); go_simp; first | (refine hK _ ?_; clear hK K) | (apply Exists.intro; refine ⟨fun _ => ?_, hK _ ?_⟩; (first | with_reducible exact CV.out _ _ | with_reducible exact CA.out _ _); clear hK K)
            refine qw_take (by kernel_rfl) (fun K hK => ?_); go_simp; first | (refine hK _ ?_; clear hK K) | (apply Exists.intro; refine ⟨fun _ => ?_, hK _ ?_⟩; (first | with_reducible exact CV.out _ _ | with_reducible exact CA.out _ _); clear hK K)
            refine qw_take (by kernel_rfl) (fun K hK => ?_); go_simp; first | (refine hK _ ?_; clear hK K) | (apply Exists.intro; refine ⟨fun _ => ?_, hK _ ?_⟩; (first | with_reducible exact CV.out _ _ | with_reducible exact CA.out _ _); clear hK K)
            refine qw_take (by kernel_rfl) (fun K hK => ?_); go_simp; first | (refine hK _ ?_; clear hK K) | (apply Exists.intro; refine ⟨fun _ => ?_, hK _ ?_⟩; (first | with_reducible exact CV.out _ _ | with_reducible exact CA.out _ _); clear hK K)
            refine qw_take (by kernel_rfl) (fun K hK => ?_); go_simp; first | (refine hK _ ?_; clear hK K) | (apply Exists.intro; refine ⟨fun _ => ?_, hK _ ?_⟩; (first | with_reducible exact CV.out _ _ | with_reducible exact CA.out _ _); clear hK K)
            refine qw_take (by kernel_rfl) (fun K hK => ?_); go_simp; first | (refine hK _ ?_; clear hK K) | (apply Exists.intro; refine ⟨fun _ => ?_, hK _ ?_⟩; (first | with_reducible exact CV.out _ _ | with_reducible exact CA.out _ _); clear hK K)
            refine qw_take (by kernel_rfl) (fun K hK => ?_); go_simp; first | (refine hK _ ?_; clear hK K) | (apply Exists.intro; refine ⟨fun _ => ?_, hK _ ?_⟩; (first | with_reducible exact CV.out _ _ | with_reducible exact CA.out _ _); clear hK K)
            refine qw_take (by kernel_rfl) (fun K hK => ?_); go_simp; first | (refine hK _ ?_; clear hK K) | (apply Exists.intro; refine ⟨fun _ => ?_, hK _ ?_⟩; (first | with_reducible exact CV.out _ _ | with_reducible exact CA.out _ _); clear hK K)
            refine qw_take (by kernel_rfl) (fun K hK => ?_); go_simp; first | (refine hK _ ?_; clear hK K) | (apply Exists.intro; refine ⟨fun _ => ?_, hK _ ?_⟩; (first | with_reducible exact CV.out _ _ | with_reducible exact CA.out _ _); clear hK K)
            refine qw_take (by kernel_rfl) (fun K hK => ?_); go_simp; first | (refine hK _ ?_; clear hK K) | (apply Exists.intro; refine ⟨fun _ => ?_, hK _ ?_⟩; (first | with_reducible exact CV.out _ _ | with_reducible exact CA.out _ _); clear hK K)
            refine qw_take (by kernel_rfl) (fun K hK => ?_); go_simp; first | (refine hK _ ?_; clear hK K) | (apply Exists.intro; refine ⟨fun _ => ?_, hK _ ?_⟩; (first | with_reducible exact CV.out _ _ | with_reducible exact CA.out _ _); clear hK K)
            refine qw_take (by kernel_rfl) (fun K hK => ?_); go_simp; first | (refine hK _ ?_; clear hK K) | (apply Exists.intro; refine ⟨fun _ => ?_, hK _ ?_⟩; (first | with_reducible exact CV.out _ _ | with_reducible exact CA.out _ _); clear hK K)
            refine qw_take (by kernel_rfl) (fun K hK => ?_); go_simp; first | (refine hK _ ?_; clear hK K) | (apply Exists.intro; refine ⟨fun _ => ?_, hK _ ?_⟩; (first | with_reducible exact CV.out _ _ | with_reducible exact CA.out _ _); clear hK K)
            refine qw_take (by kernel_rfl) (fun K hK => ?_); go_simp; first | (refine hK _ ?_; clear hK K) | (apply Exists.intro; refine ⟨fun _ => ?_, hK _ ?_⟩; (first | with_reducible exact CV.out _ _ | with_reducible exact CA.out _ _); clear hK K)
            refine qw_nil ?_
            intro _ hw'
            obtain ⟨⟨dq, osq⟩, hw''⟩ := hw'
            subst hw''
            have HBL := Lib.hid (below_keep hB.out (below_regrown wr dq osq) hB.out.size)
            clear c0 c1 c2 r0 r1 r2 CV CA
            generalize Sort.grow (redrawn wr dq) osq = wl at *
            clear hki hkd hkn hwk hkl hkz hkm
            have HD := Lib.hid hd.out
            have HP := Lib.hid hp
            have HKX := Lib.hid hkx
            have H1 := Lib.hid h1
            have HLA := Lib.hid hlast
            have HCX := Lib.hid (fun m (hm : m < len) => (TmAt.at HX.out hm))
            clear hd hp hkx h1 hlast
            go_wp2_with fail
            go_loopw [4] (fun i wm => ∃ m : Nat, m ≤ k ∧ i = .int .i64 (m : Int) ∧ Hid (findT x1 x2 (l.take m) = none) ∧ Hid (Below w.heap.size w wm)) (fun i _ => k - (intOf i).toNat)
            case atStart => exact ⟨0, Nat.zero_le _, rfl, rfl, HBL⟩
            case round =>
              obtain ⟨m, hmk2, rfl, hm, hBm⟩ := hrel
              by_cases hmk : m < k
              · obtain ⟨b3, o3, y0, y1, y2, hab, _, hy, hc4⟩ := HCX.out m (by omega)
                simp only [Option.some.injEq, Addr.mk.injEq, and_true] at hab
                obtain ⟨rfl, rfl⟩ := hab
                obtain ⟨q0, q1, q2⟩ := hc4 _ hBm.out
                obtain ⟨c0, c1, c2⟩ := HC1.out _ hBm.out
                have hml : (m : Int) < (len : Int) := by omega
                have hmi : (m : Int) < (k : Int) := by omega
                have hmz : (0 : Int) ≤ (m : Int) := by omega
                have hkl0 : (k : Int) < (len : Int) := by omega
                have hkz0 : (0 : Int) ≤ (k : Int) := by omega
                clear hc4
                by_cases k1 : y1 = x1
                · by_cases k2 : y2 = x2
                  · have e1 : (y1 == x1) = true := beq_iff_eq.2 k1
                    have e2 : (y2 == x2) = true := beq_iff_eq.2 k2
                    have HNO := Lib.hid (HD.out.trans (fit_twice HKX.out HP.out (twice_at hmk HKX.out hy (keyB_iff.2 ⟨k1, k2⟩))))
                    clear hy k1 k2
                    go_wp2_with fail
                    have s1 := fun d os => cell_regrown q1 d os
                    have s2 := fun d os => cell_regrown q2 d os
                    have t1 := fun d os => cell_regrown c1 d os
                    have t2 := fun d os => cell_regrown c2 d os
                    clear q0 q1 q2 c0 c1 c2
                    refine wp_region_qw (by kernel_rfl) (by kernel_rfl) ?_
                    refine qw_take (by kernel_rfl) (fun K hK => ?_); go_simp; refine hK _ ?_; clear hK K
                    refine qw_take (by kernel_rfl) (fun K hK => ?_); go_simp; refine hK _ ?_; clear hK K
                    refine qw_take (by kernel_rfl) (fun K hK => ?_); go_simp; refine hK _ ?_; clear hK K
                    refine qw_take (by kernel_rfl) (fun K hK => ?_); go_simp; refine hK _ ?_; clear hK K
                    refine qw_take (by kernel_rfl) (fun K hK => ?_); go_simp; refine hK _ ?_; clear hK K
                    refine qw_take (by kernel_rfl) (fun K hK => ?_); go_simp; refine hK _ ?_; clear hK K
                    refine qw_take (by kernel_rfl) (fun K hK => ?_); go_simp; refine hK _ ?_; clear hK K
                    refine qw_take (by kernel_rfl) (fun K hK => ?_); go_simp; refine hK _ ?_; clear hK K
                    refine qw_take (by kernel_rfl) (fun K hK => ?_); go_simp; refine hK _ ?_; clear hK K
                    refine qw_take (by kernel_rfl) (fun K hK => ?_); go_simp; refine hK _ ?_; clear hK K
                    refine qw_take (by kernel_rfl) (fun K hK => ?_); go_simp; refine hK _ ?_; clear hK K
                    refine qw_take (by kernel_rfl) (fun K hK => ?_); go_simp; refine hK _ ?_; clear hK K
                    refine qw_take (by kernel_rfl) (fun K hK => ?_); go_simp; refine hK _ ?_; clear hK K
                    refine qw_take (by kernel_rfl) (fun K hK => ?_); go_simp; refine hK _ ?_; clear hK K
                    refine qw_take (by kernel_rfl) (fun K hK => ?_); go_simp; refine hK _ ?_; clear hK K
                    refine qw_take (by kernel_rfl) (fun K hK => ?_); go_simp; refine hK _ ?_; clear hK K
                    refine qw_take (by kernel_rfl) (fun K hK => ?_); go_simp; refine hK _ ?_; clear hK K
                    refine qw_take (by kernel_rfl) (fun K hK => ?_); go_simp; refine hK _ ?_; clear hK K
                    refine qw_take (by kernel_rfl) (fun K hK => ?_); go_simp; refine hK _ ?_; clear hK K
                    refine qw_take (by kernel_rfl) (fun K hK => ?_); go_simp; refine hK _ ?_; clear hK K
                    refine qw_take (by kernel_rfl) (fun K hK => ?_); go_simp; refine hK _ ?_; clear hK K
                    refine qw_take (by kernel_rfl) (fun K hK => ?_); go_simp; refine hK _ ?_; clear hK K
                    refine qw_take (by kernel_rfl) (fun K hK => ?_); go_simp; refine hK _ ?_; clear hK K
                    refine qw_take (by kernel_rfl) (fun K hK => ?_); go_simp; refine hK _ ?_; clear hK K
                    refine qw_nil ?_
                    intro _ hw'
                    obtain ⟨⟨dq, osq⟩, hw''⟩ := hw'
                    subst hw''
                    have HBQ := Lib.hid (below_keep hBm.out (below_regrown wr dq osq) hBm.out.size)
                    clear s1 s2 t1 t2
                    generalize Sort.grow (redrawn wr dq) osq = wq at *
                    go_wp2_with fail
                    go_ret
                    exact ⟨ret_bool HNO.out, HBQ.out⟩
                  · have e1 : (y1 == x1) = true := beq_iff_eq.2 k1
                    have e2 : (y2 == x2) = false := beq_eq_false_iff_ne.2 k2
                    have HNX := Lib.hid (none_at (by have := HKX.out; omega) hy hm.out (key_no2 k2))
                    clear hy k1 k2
                    go_wp2_with fail
                    have s1 := fun d os => cell_regrown q1 d os
                    have s2 := fun d os => cell_regrown q2 d os
                    have t1 := fun d os => cell_regrown c1 d os
                    have t2 := fun d os => cell_regrown c2 d os
                    clear q0 q1 q2 c0 c1 c2
                    refine wp_region_qw (by kernel_rfl) (by kernel_rfl) ?_
                    refine qw_take (by kernel_rfl) (fun K hK => ?_); go_simp; refine hK _ ?_; clear hK K
                    refine qw_take (by kernel_rfl) (fun K hK => ?_); go_simp; refine hK _ ?_; clear hK K
                    refine qw_take (by kernel_rfl) (fun K hK => ?_); go_simp; refine hK _ ?_; clear hK K
                    refine qw_take (by kernel_rfl) (fun K hK => ?_); go_simp; refine hK _ ?_; clear hK K
                    refine qw_take (by kernel_rfl) (fun K hK => ?_); go_simp; refine hK _ ?_; clear hK K
                    refine qw_take (by kernel_rfl) (fun K hK => ?_); go_simp; refine hK _ ?_; clear hK K
                    refine qw_take (by kernel_rfl) (fun K hK => ?_); go_simp; refine hK _ ?_; clear hK K
                    refine qw_take (by kernel_rfl) (fun K hK => ?_); go_simp; refine hK _ ?_; clear hK K
                    refine qw_take (by kernel_rfl) (fun K hK => ?_); go_simp; refine hK _ ?_; clear hK K
                    refine qw_take (by kernel_rfl) (fun K hK => ?_); go_simp; refine hK _ ?_; clear hK K
                    refine qw_take (by kernel_rfl) (fun K hK => ?_); go_simp; refine hK _ ?_; clear hK K
                    refine qw_take (by kernel_rfl) (fun K hK => ?_); go_simp; refine hK _ ?_; clear hK K
                    refine qw_take (by kernel_rfl) (fun K hK => ?_); go_simp; refine hK _ ?_; clear hK K
                    refine qw_take (by kernel_rfl) (fun K hK => ?_); go_simp; refine hK _ ?_; clear hK K
                    refine qw_take (by kernel_rfl) (fun K hK => ?_); go_simp; refine hK _ ?_; clear hK K
                    refine qw_take (by kernel_rfl) (fun K hK => ?_); go_simp; refine hK _ ?_; clear hK K
                    refine qw_take (by kernel_rfl) (fun K hK => ?_); go_simp; refine hK _ ?_; clear hK K
                    refine qw_take (by kernel_rfl) (fun K hK => ?_); go_simp; refine hK _ ?_; clear hK K
                    refine qw_take (by kernel_rfl) (fun K hK => ?_); go_simp; refine hK _ ?_; clear hK K
                    refine qw_take (by kernel_rfl) (fun K hK => ?_); go_simp; refine hK _ ?_; clear hK K
                    refine qw_take (by kernel_rfl) (fun K hK => ?_); go_simp; refine hK _ ?_; clear hK K
                    refine qw_take (by kernel_rfl) (fun K hK => ?_); go_simp; refine hK _ ?_; clear hK K
                    refine qw_take (by kernel_rfl) (fun K hK => ?_); go_simp; refine hK _ ?_; clear hK K
                    refine qw_take (by kernel_rfl) (fun K hK => ?_); go_simp; refine hK _ ?_; clear hK K
                    refine qw_nil ?_
                    intro _ hw'
                    obtain ⟨⟨dq, osq⟩, hw''⟩ := hw'
                    subst hw''
                    have HBQ := Lib.hid (below_keep hBm.out (below_regrown wr dq osq) hBm.out.size)
                    clear s1 s2 t1 t2
                    generalize Sort.grow (redrawn wr dq) osq = wq at *
                    go_wp2_with fail
                    go_roundw
                    case rel => exact ⟨m + 1, by omega, by go_num, HNX, HBQ⟩
                    case measure => simp [intOf]; omega
                · have e1 : (y1 == x1) = false := beq_eq_false_iff_ne.2 k1
                  have HNX := Lib.hid (none_at (by have := HKX.out; omega) hy hm.out (key_no1 k1))
                  clear hy k1
                  go_wp2_with fail
                  have s1 := fun d os => cell_regrown q1 d os
                  have s2 := fun d os => cell_regrown q2 d os
                  have t1 := fun d os => cell_regrown c1 d os
                  have t2 := fun d os => cell_regrown c2 d os
                  clear q0 q1 q2 c0 c1 c2
                  refine wp_region_qw (by kernel_rfl) (by kernel_rfl) ?_
                  refine qw_take (by kernel_rfl) (fun K hK => ?_); go_simp; refine hK _ ?_; clear hK K
                  refine qw_take (by kernel_rfl) (fun K hK => ?_); go_simp; refine hK _ ?_; clear hK K
                  refine qw_take (by kernel_rfl) (fun K hK => ?_); go_simp; refine hK _ ?_; clear hK K
                  refine qw_take (by kernel_rfl) (fun K hK => ?_); go_simp; refine hK _ ?_; clear hK K
                  refine qw_take (by kernel_rfl) (fun K hK => ?_); go_simp; refine hK _ ?_; clear hK K
                  refine qw_take (by kernel_rfl) (fun K hK => ?_); go_simp; refine hK _ ?_; clear hK K
                  refine qw_take (by kernel_rfl) (fun K hK => ?_); go_simp; refine hK _ ?_; clear hK K
                  refine qw_take (by kernel_rfl) (fun K hK => ?_); go_simp; refine hK _ ?_; clear hK K
                  refine qw_take (by kernel_rfl) (fun K hK => ?_); go_simp; refine hK _ ?_; clear hK K
                  refine qw_take (by kernel_rfl) (fun K hK => ?_); go_simp; refine hK _ ?_; clear hK K
                  refine qw_take (by kernel_rfl) (fun K hK => ?_); go_simp; refine hK _ ?_; clear hK K
                  refine qw_take (by kernel_rfl) (fun K hK => ?_); go_simp; refine hK _ ?_; clear hK K
                  refine qw_skip (by kernel_rfl) ?_; simp only [Act.put, List.setIfInBounds_toArray, List.set_cons_succ, List.set_cons_zero]
                  refine qw_skip (by kernel_rfl) ?_; simp only [Act.put, List.setIfInBounds_toArray, List.set_cons_succ, List.set_cons_zero]
                  refine qw_skip (by kernel_rfl) ?_; simp only [Act.put, List.setIfInBounds_toArray, List.set_cons_succ, List.set_cons_zero]
                  refine qw_skip (by kernel_rfl) ?_; simp only [Act.put, List.setIfInBounds_toArray, List.set_cons_succ, List.set_cons_zero]
                  refine qw_skip (by kernel_rfl) ?_; simp only [Act.put, List.setIfInBounds_toArray, List.set_cons_succ, List.set_cons_zero]
                  refine qw_skip (by kernel_rfl) ?_; simp only [Act.put, List.setIfInBounds_toArray, List.set_cons_succ, List.set_cons_zero]
                  refine qw_skip (by kernel_rfl) ?_; simp only [Act.put, List.setIfInBounds_toArray, List.set_cons_succ, List.set_cons_zero]
                  refine qw_skip (by kernel_rfl) ?_; simp only [Act.put, List.setIfInBounds_toArray, List.set_cons_succ, List.set_cons_zero]
                  refine qw_skip (by kernel_rfl) ?_; simp only [Act.put, List.setIfInBounds_toArray, List.set_cons_succ, List.set_cons_zero]
                  refine qw_skip (by kernel_rfl) ?_; simp only [Act.put, List.setIfInBounds_toArray, List.set_cons_succ, List.set_cons_zero]
                  refine qw_skip (by kernel_rfl) ?_; simp only [Act.put, List.setIfInBounds_toArray, List.set_cons_succ, List.set_cons_zero]
                  refine qw_take (by kernel_rfl) (fun K hK => ?_); go_simp; refine hK _ ?_; clear hK K
                  refine qw_nil ?_
                  intro _ hw'
                  obtain ⟨⟨dq, osq⟩, hw''⟩ := hw'
                  subst hw''
                  have HBQ := Lib.hid (below_keep hBm.out (below_regrown wr dq osq) hBm.out.size)
                  clear s1 s2 t1 t2
                  generalize Sort.grow (redrawn wr dq) osq = wq at *
                  go_wp2_with fail
                  go_roundw
                  case rel => exact ⟨m + 1, by omega, by go_num, HNX, HBQ⟩
                  case measure => simp [intOf]; omega
              · obtain rfl : m = k := by omega
                have HGO := Lib.hid (HD.out.trans (fit_next HKX.out HP.out H1.out HLA.out (by rw [hm.out]; rfl)))
                clear hm
                go_wp2_with fail
                go_roundw
                case rel => exact ⟨m + 1, by omega, by go_num, HGO, hBm⟩
                case measure => simp [intOf]; omega
        · have hlast : lastOk (l.take k) ⟨x0, x1, x2⟩ = true := by rw [show k = 0 by omega]; rfl
          have hki : ¬ (0 : Int) < (k : Int) := by omega
          have hkd : decide ((0 : Int) < (k : Int)) = false := by simp; omega
          go_wp2_with fail
          have c0 := fun d os => cell_regrown d0 d os
          have c1 := fun d os => cell_regrown d1 d os
          have c2 := fun d os => cell_regrown d2 d os
          clear d0 d1 d2
          refine wp_region_qw (by kernel_rfl) (by kernel_rfl) ?_
          refine qw_take (by kernel_rfl) (fun K hK => ?_); go_simp; first | (refine hK _ ?_; clear hK K) | (apply Exists.intro; refine ⟨fun _ => ?_, hK _ ?_⟩; (first | with_reducible exact CV.out _ _); clear hK K)
          refine qw_take (by kernel_rfl) (fun K hK => ?_); go_simp; first | (refine hK _ ?_; clear hK K) | (apply Exists.intro; refine ⟨fun _ => ?_, hK _ ?_⟩; (first | with_reducible exact CV.out _ _); clear hK K)
          refine qw_take (by kernel_rfl) (fun K hK => ?_); go_simp; first | (refine hK _ ?_; clear hK K) | (apply Exists.intro; refine ⟨fun _ => ?_, hK _ ?_⟩; (first | with_reducible exact CV.out _ _); clear hK K)
          refine qw_take (by kernel_rfl) (fun K hK => ?_); go_simp; first | (refine hK _ ?_; clear hK K) | (apply Exists.intro; refine ⟨fun _ => ?_, hK _ ?_⟩; (first | with_reducible exact CV.out _ _); clear hK K)
          refine qw_take (by kernel_rfl) (fun K hK => ?_); go_simp; first | (refine hK _ ?_; clear hK K) | (apply Exists.intro; refine ⟨fun _ => ?_, hK _ ?_⟩; (first | with_reducible exact CV.out _ _); clear hK K)
          refine qw_take (by kernel_rfl) (fun K hK => ?_); go_simp; first | (refine hK _ ?_; clear hK K) | (apply Exists.intro; refine ⟨fun _ => ?_, hK _ ?_⟩; (first | with_reducible exact CV.out _ _); clear hK K)
          refine qw_take (by kernel_rfl) (fun K hK => ?_); go_simp; first | (refine hK _ ?_; clear hK K) | (apply Exists.intro; refine ⟨fun _ => ?_, hK _ ?_⟩; (first | with_reducible exact CV.out _ _); clear hK K)
          refine qw_take (by kernel_rfl) (fun K hK => ?_); go_simp; first | (refine hK _ ?_; clear hK K) | (apply Exists.intro; refine ⟨fun _ => ?_, hK _ ?_⟩; (first | with_reducible exact CV.out _ _); clear hK K)
          refine qw_take (by kernel_rfl) (fun K hK => ?_); go_simp; first | (refine hK _ ?_; clear hK K) | (apply Exists.intro; refine ⟨fun _ => ?_, hK _ ?_⟩; (first | with_reducible exact CV.out _ _); clear hK K)
          refine qw_take (by kernel_rfl) (fun K hK => ?_); go_simp; first | (refine hK _ ?_; clear hK K) | (apply Exists.intro; refine ⟨fun _ => ?_, hK _ ?_⟩; (first | with_reducible exact CV.out _ _); clear hK K)
          refine qw_skip (by kernel_rfl) ?_; simp only [Act.put, List.setIfInBounds_toArray, List.set_cons_succ, List.set_cons_zero]
          refine qw_skip (by kernel_rfl) ?_; simp only [Act.put, List.setIfInBounds_toArray, List.set_cons_succ, List.set_cons_zero]
          refine qw_skip (by kernel_rfl) ?_; simp only [Act.put, List.setIfInBounds_toArray, List.set_cons_succ, List.set_cons_zero]
          refine qw_skip (by kernel_rfl) ?_; simp only [Act.put, List.setIfInBounds_toArray, List.set_cons_succ, List.set_cons_zero]
          refine qw_skip (by kernel_rfl) ?_; simp only [Act.put, List.setIfInBounds_toArray, List.set_cons_succ, List.set_cons_zero]
          refine qw_skip (by kernel_rfl) ?_; simp only [Act.put, List.setIfInBounds_toArray, List.set_cons_succ, List.set_cons_zero]
          refine qw_skip (by kernel_rfl) ?_; simp only [Act.put, List.setIfInBounds_toArray, List.set_cons_succ, List.set_cons_zero]
          refine qw_skip (by kernel_rfl) ?_; simp only [Act.put, List.setIfInBounds_toArray, List.set_cons_succ, List.set_cons_zero]
          refine qw_skip (by kernel_rfl) ?_; simp only [Act.put, List.setIfInBounds_toArray, List.set_cons_succ, List.set_cons_zero]
          refine qw_skip (by kernel_rfl) ?_; simp only [Act.put, List.setIfInBounds_toArray, List.set_cons_succ, List.set_cons_zero]
          refine qw_skip (by kernel_rfl) ?_; simp only [Act.put, List.setIfInBounds_toArray, List.set_cons_succ, List.set_cons_zero]
          refine qw_take (by kernel_rfl) (fun K hK => ?_); go_simp; first | (refine hK _ ?_; clear hK K) | (apply Exists.intro; refine ⟨fun _ => ?_, hK _ ?_⟩; (first | with_reducible exact CV.out _ _); clear hK K)
          refine qw_take (by kernel_rfl) (fun K hK => ?_); go_simp; first | (refine hK _ ?_; clear hK K) | (apply Exists.intro; refine ⟨fun _ => ?_, hK _ ?_⟩; (first | with_reducible exact CV.out _ _); clear hK K)
          refine qw_nil ?_
          intro _ hw'
          obtain ⟨⟨dq, osq⟩, hw''⟩ := hw'
          subst hw''
          have HBL := Lib.hid (below_keep hB.out (below_regrown wr dq osq) hB.out.size)
          clear c0 c1 c2 CV
          generalize Sort.grow (redrawn wr dq) osq = wl at *
          clear hki hkd
          have HD := Lib.hid hd.out
          have HP := Lib.hid hp
          have HKX := Lib.hid hkx
          have H1 := Lib.hid h1
          have HLA := Lib.hid hlast
          have HCX := Lib.hid (fun m (hm : m < len) => (TmAt.at HX.out hm))
          clear hd hp hkx h1 hlast
          go_wp2_with fail
          go_loopw [4] (fun i wm => ∃ m : Nat, m ≤ k ∧ i = .int .i64 (m : Int) ∧ Hid (findT x1 x2 (l.take m) = none) ∧ Hid (Below w.heap.size w wm)) (fun i _ => k - (intOf i).toNat)
          case atStart => exact ⟨0, Nat.zero_le _, rfl, rfl, HBL⟩
          case round =>
            obtain ⟨m, hmk2, rfl, hm, hBm⟩ := hrel
            by_cases hmk : m < k
            · obtain ⟨b3, o3, y0, y1, y2, hab, _, hy, hc4⟩ := HCX.out m (by omega)
              simp only [Option.some.injEq, Addr.mk.injEq, and_true] at hab
              obtain ⟨rfl, rfl⟩ := hab
              obtain ⟨q0, q1, q2⟩ := hc4 _ hBm.out
              obtain ⟨c0, c1, c2⟩ := HC1.out _ hBm.out
              have hml : (m : Int) < (len : Int) := by omega
              have hmi : (m : Int) < (k : Int) := by omega
              have hmz : (0 : Int) ≤ (m : Int) := by omega
              have hkl0 : (k : Int) < (len : Int) := by omega
              have hkz0 : (0 : Int) ≤ (k : Int) := by omega
              clear hc4
              by_cases k1 : y1 = x1
              · by_cases k2 : y2 = x2
                · have e1 : (y1 == x1) = true := beq_iff_eq.2 k1
                  have e2 : (y2 == x2) = true := beq_iff_eq.2 k2
                  have HNO := Lib.hid (HD.out.trans (fit_twice HKX.out HP.out (twice_at hmk HKX.out hy (keyB_iff.2 ⟨k1, k2⟩))))
                  clear hy k1 k2
                  go_wp2_with fail
                  have s1 := fun d os => cell_regrown q1 d os
                  have s2 := fun d os => cell_regrown q2 d os
                  have t1 := fun d os => cell_regrown c1 d os
                  have t2 := fun d os => cell_regrown c2 d os
                  clear q0 q1 q2 c0 c1 c2
                  refine wp_region_qw (by kernel_rfl) (by kernel_rfl) ?_
                  refine qw_take (by kernel_rfl) (fun K hK => ?_); go_simp; refine hK _ ?_; clear hK K
                  refine qw_take (by kernel_rfl) (fun K hK => ?_); go_simp; refine hK _ ?_; clear hK K
                  refine qw_take (by kernel_rfl) (fun K hK => ?_); go_simp; refine hK _ ?_; clear hK K
                  refine qw_take (by kernel_rfl) (fun K hK => ?_); go_simp; refine hK _ ?_; clear hK K
                  refine qw_take (by kernel_rfl) (fun K hK => ?_); go_simp; refine hK _ ?_; clear hK K
                  refine qw_take (by kernel_rfl) (fun K hK => ?_); go_simp; refine hK _ ?_; clear hK K
                  refine qw_take (by kernel_rfl) (fun K hK => ?_); go_simp; refine hK _ ?_; clear hK K
                  refine qw_take (by kernel_rfl) (fun K hK => ?_); go_simp; refine hK _ ?_; clear hK K
                  refine qw_take (by kernel_rfl) (fun K hK => ?_); go_simp; refine hK _ ?_; clear hK K
                  refine qw_take (by kernel_rfl) (fun K hK => ?_); go_simp; refine hK _ ?_; clear hK K
                  refine qw_take (by kernel_rfl) (fun K hK => ?_); go_simp; refine hK _ ?_; clear hK K
                  refine qw_take (by kernel_rfl) (fun K hK => ?_); go_simp; refine hK _ ?_; clear hK K
                  refine qw_take (by kernel_rfl) (fun K hK => ?_); go_simp; refine hK _ ?_; clear hK K
                  refine qw_take (by kernel_rfl) (fun K hK => ?_); go_simp; refine hK _ ?_; clear hK K
                  refine qw_take (by kernel_rfl) (fun K hK => ?_); go_simp; refine hK _ ?_; clear hK K
                  refine qw_take (by kernel_rfl) (fun K hK => ?_); go_simp; refine hK _ ?_; clear hK K
                  refine qw_take (by kernel_rfl) (fun K hK => ?_); go_simp; refine hK _ ?_; clear hK K
                  refine qw_take (by kernel_rfl) (fun K hK => ?_); go_simp; refine hK _ ?_; clear hK K
                  refine qw_take (by kernel_rfl) (fun K hK => ?_); go_simp; refine hK _ ?_; clear hK K
                  refine qw_take (by kernel_rfl) (fun K hK => ?_); go_simp; refine hK _ ?_; clear hK K
                  refine qw_take (by kernel_rfl) (fun K hK => ?_); go_simp; refine hK _ ?_; clear hK K
                  refine qw_take (by kernel_rfl) (fun K hK => ?_); go_simp; refine hK _ ?_; clear hK K
                  refine qw_take (by kernel_rfl) (fun K hK => ?_); go_simp; refine hK _ ?_; clear hK K
                  refine qw_take (by kernel_rfl) (fun K hK => ?_); go_simp; refine hK _ ?_; clear hK K
                  refine qw_nil ?_
                  intro _ hw'
                  obtain ⟨⟨dq, osq⟩, hw''⟩ := hw'
                  subst hw''
                  have HBQ := Lib.hid (below_keep hBm.out (below_regrown wr dq osq) hBm.out.size)
                  clear s1 s2 t1 t2
                  generalize Sort.grow (redrawn wr dq) osq = wq at *
                  go_wp2_with fail
                  go_ret
                  exact ⟨ret_bool HNO.out, HBQ.out⟩
                · have e1 : (y1 == x1) = true := beq_iff_eq.2 k1
                  have e2 : (y2 == x2) = false := beq_eq_false_iff_ne.2 k2
                  have HNX := Lib.hid (none_at (by have := HKX.out; omega) hy hm.out (key_no2 k2))
                  clear hy k1 k2
                  go_wp2_with fail
                  have s1 := fun d os => cell_regrown q1 d os
                  have s2 := fun d os => cell_regrown q2 d os
                  have t1 := fun d os => cell_regrown c1 d os
                  have t2 := fun d os => cell_regrown c2 d os
                  clear q0 q1 q2 c0 c1 c2
                  refine wp_region_qw (by kernel_rfl) (by kernel_rfl) ?_
                  refine qw_take (by kernel_rfl) (fun K hK => ?_); go_simp; refine hK _ ?_; clear hK K
                  refine qw_take (by kernel_rfl) (fun K hK => ?_); go_simp; refine hK _ ?_; clear hK K
                  refine qw_take (by kernel_rfl) (fun K hK => ?_); go_simp; refine hK _ ?_; clear hK K
                  refine qw_take (by kernel_rfl) (fun K hK => ?_); go_simp; refine hK _ ?_; clear hK K
                  refine qw_take (by kernel_rfl) (fun K hK => ?_); go_simp; refine hK _ ?_; clear hK K
                  refine qw_take (by kernel_rfl) (fun K hK => ?_); go_simp; refine hK _ ?_; clear hK K
                  refine qw_take (by kernel_rfl) (fun K hK => ?_); go_simp; refine hK _ ?_; clear hK K
                  refine qw_take (by kernel_rfl) (fun K hK => ?_); go_simp; refine hK _ ?_; clear hK K
                  refine qw_take (by kernel_rfl) (fun K hK => ?_); go_simp; refine hK _ ?_; clear hK K
                  refine qw_take (by kernel_rfl) (fun K hK => ?_); go_simp; refine hK _ ?_; clear hK K
                  refine qw_take (by kernel_rfl) (fun K hK => ?_); go_simp; refine hK _ ?_; clear hK K
                  refine qw_take (by kernel_rfl) (fun K hK => ?_); go_simp; refine hK _ ?_; clear hK K
                  refine qw_take (by kernel_rfl) (fun K hK => ?_); go_simp; refine hK _ ?_; clear hK K
                  refine qw_take (by kernel_rfl) (fun K hK => ?_); go_simp; refine hK _ ?_; clear hK K
                  refine qw_take (by kernel_rfl) (fun K hK => ?_); go_simp; refine hK _ ?_; clear hK K
                  refine qw_take (by kernel_rfl) (fun K hK => ?_); go_simp; refine hK _ ?_; clear hK K
                  refine qw_take (by kernel_rfl) (fun K hK => ?_); go_simp; refine hK _ ?_; clear hK K
                  refine qw_take (by kernel_rfl) (fun K hK => ?_); go_simp; refine hK _ ?_; clear hK K
                  refine qw_take (by kernel_rfl) (fun K hK => ?_); go_simp; refine hK _ ?_; clear hK K
                  refine qw_take (by kernel_rfl) (fun K hK => ?_); go_simp; refine hK _ ?_; clear hK K
                  refine qw_take (by kernel_rfl) (fun K hK => ?_); go_simp; refine hK _ ?_; clear hK K
                  refine qw_take (by kernel_rfl) (fun K hK => ?_); go_simp; refine hK _ ?_; clear hK K
                  refine qw_take (by kernel_rfl) (fun K hK => ?_); go_simp; refine hK _ ?_; clear hK K
                  refine qw_take (by kernel_rfl) (fun K hK => ?_); go_simp; refine hK _ ?_; clear hK K
                  refine qw_nil ?_
                  intro _ hw'
                  obtain ⟨⟨dq, osq⟩, hw''⟩ := hw'
                  subst hw''
                  have HBQ := Lib.hid (below_keep hBm.out (below_regrown wr dq osq) hBm.out.size)
                  clear s1 s2 t1 t2
                  generalize Sort.grow (redrawn wr dq) osq = wq at *
                  go_wp2_with fail
                  go_roundw
                  case rel => exact ⟨m + 1, by omega, by go_num, HNX, HBQ⟩
                  case measure => simp [intOf]; omega
              · have e1 : (y1 == x1) = false := beq_eq_false_iff_ne.2 k1
                have HNX := Lib.hid (none_at (by have := HKX.out; omega) hy hm.out (key_no1 k1))
                clear hy k1
                go_wp2_with fail
                have s1 := fun d os => cell_regrown q1 d os
                have s2 := fun d os => cell_regrown q2 d os
                have t1 := fun d os => cell_regrown c1 d os
                have t2 := fun d os => cell_regrown c2 d os
                clear q0 q1 q2 c0 c1 c2
                refine wp_region_qw (by kernel_rfl) (by kernel_rfl) ?_
                refine qw_take (by kernel_rfl) (fun K hK => ?_); go_simp; refine hK _ ?_; clear hK K
                refine qw_take (by kernel_rfl) (fun K hK => ?_); go_simp; refine hK _ ?_; clear hK K
                refine qw_take (by kernel_rfl) (fun K hK => ?_); go_simp; refine hK _ ?_; clear hK K
                refine qw_take (by kernel_rfl) (fun K hK => ?_); go_simp; refine hK _ ?_; clear hK K
                refine qw_take (by kernel_rfl) (fun K hK => ?_); go_simp; refine hK _ ?_; clear hK K
                refine qw_take (by kernel_rfl) (fun K hK => ?_); go_simp; refine hK _ ?_; clear hK K
                refine qw_take (by kernel_rfl) (fun K hK => ?_); go_simp; refine hK _ ?_; clear hK K
                refine qw_take (by kernel_rfl) (fun K hK => ?_); go_simp; refine hK _ ?_; clear hK K
                refine qw_take (by kernel_rfl) (fun K hK => ?_); go_simp; refine hK _ ?_; clear hK K
                refine qw_take (by kernel_rfl) (fun K hK => ?_); go_simp; refine hK _ ?_; clear hK K
                refine qw_take (by kernel_rfl) (fun K hK => ?_); go_simp; refine hK _ ?_; clear hK K
                refine qw_take (by kernel_rfl) (fun K hK => ?_); go_simp; refine hK _ ?_; clear hK K
                refine qw_skip (by kernel_rfl) ?_; simp only [Act.put, List.setIfInBounds_toArray, List.set_cons_succ, List.set_cons_zero]
                refine qw_skip (by kernel_rfl) ?_; simp only [Act.put, List.setIfInBounds_toArray, List.set_cons_succ, List.set_cons_zero]
                refine qw_skip (by kernel_rfl) ?_; simp only [Act.put, List.setIfInBounds_toArray, List.set_cons_succ, List.set_cons_zero]
                refine qw_skip (by kernel_rfl) ?_; simp only [Act.put, List.setIfInBounds_toArray, List.set_cons_succ, List.set_cons_zero]
                refine qw_skip (by kernel_rfl) ?_; simp only [Act.put, List.setIfInBounds_toArray, List.set_cons_succ, List.set_cons_zero]
                refine qw_skip (by kernel_rfl) ?_; simp only [Act.put, List.setIfInBounds_toArray, List.set_cons_succ, List.set_cons_zero]
                refine qw_skip (by kernel_rfl) ?_; simp only [Act.put, List.setIfInBounds_toArray, List.set_cons_succ, List.set_cons_zero]
                refine qw_skip (by kernel_rfl) ?_; simp only [Act.put, List.setIfInBounds_toArray, List.set_cons_succ, List.set_cons_zero]
                refine qw_skip (by kernel_rfl) ?_; simp only [Act.put, List.setIfInBounds_toArray, List.set_cons_succ, List.set_cons_zero]
                refine qw_skip (by kernel_rfl) ?_; simp only [Act.put, List.setIfInBounds_toArray, List.set_cons_succ, List.set_cons_zero]
                refine qw_skip (by kernel_rfl) ?_; simp only [Act.put, List.setIfInBounds_toArray, List.set_cons_succ, List.set_cons_zero]
                refine qw_take (by kernel_rfl) (fun K hK => ?_); go_simp; refine hK _ ?_; clear hK K
                refine qw_nil ?_
                intro _ hw'
                obtain ⟨⟨dq, osq⟩, hw''⟩ := hw'
                subst hw''
                have HBQ := Lib.hid (below_keep hBm.out (below_regrown wr dq osq) hBm.out.size)
                clear s1 s2 t1 t2
                generalize Sort.grow (redrawn wr dq) osq = wq at *
                go_wp2_with fail
                go_roundw
                case rel => exact ⟨m + 1, by omega, by go_num, HNX, HBQ⟩
                case measure => simp [intOf]; omega
            · obtain rfl : m = k := by omega
              have HGO := Lib.hid (HD.out.trans (fit_next HKX.out HP.out H1.out HLA.out (by rw [hm.out]; rfl)))
              clear hm
              go_wp2_with fail
              go_roundw
              case rel => exact ⟨m + 1, by omega, by go_num, HGO, hBm⟩
              case measure => simp [intOf]; omega
    · obtain rfl : k = len := by omega
      have HYES := Lib.hid (hd.out.trans (fit_done (by rw [HX.out.1]; exact hlk)))
      clear hd
      go_wp2_with fail
      go_ret
      exact ⟨ret_bool HYES.out, hB.out⟩
end Go.Proofs.Ytcfjnpepbjaacaa.Timer
