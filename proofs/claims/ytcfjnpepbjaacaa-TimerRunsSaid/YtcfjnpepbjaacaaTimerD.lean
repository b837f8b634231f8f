/-
  The contracts of Fit (both): any timers; what was there stays as it was.
-/
import Derived.Test.YtcfjnpepbjaacaaTimerB
import Derived.Test.YtcfjnpepbjaacaaTimerC
set_option linter.unusedVariables false
set_option linter.unusedSimpArgs false
set_option maxRecDepth 4000
namespace Go.Proofs.Ytcfjnpepbjaacaa.Timer
open Go.RowKit TimerP
open Go.Proofs.Ytcfjnpepbjaacaa.Kt

theorem getD_at {l : List Tm} {k : Nat} {x : Tm} (hk : k < l.length) (hx : l.getD k tm0 = x) : l[k] = x := by rw [← hx]; simp [List.getD, hk]
theorem fit_go {l : List Tm} {k : Nat} {x : Tm} (hk : k < l.length) (hx : l.getD k tm0 = x) : fitUp (l.take k) (l.drop k) = (okT (l.take k) x && fitUp (l.take (k + 1)) (l.drop (k + 1))) := by
  rw [fitUp_step hk, getD_at hk hx]
theorem fit_one {l : List Tm} {k : Nat} {x : Tm} (hk : k < l.length) (hx : l.getD k tm0 = x) (h : oneT x = false) : fitUp (l.take k) (l.drop k) = false := by
  rw [fit_go hk hx, okT, h]; rfl
theorem fit_last {l : List Tm} {k : Nat} {x y : Tm} (hk : k < l.length) (hx : l.getD k tm0 = x) (h0 : 0 < k) (hy : l.getD (k - 1) tm0 = y) (h : aheadB y x = false) : fitUp (l.take k) (l.drop k) = false := by
  have := lastOk_at hk h0
  rw [getD_at hk hx, getD_at (by omega) hy, h] at this
  rw [fit_go hk hx, okT, this]; simp
theorem last_yes {l : List Tm} {k : Nat} {x y : Tm} (hk : k < l.length) (hx : l.getD k tm0 = x) (h0 : 0 < k) (hy : l.getD (k - 1) tm0 = y) (h : aheadB y x = true) : lastOk (l.take k) x = true := by
  have := lastOk_at hk h0
  rw [getD_at hk hx, getD_at (by omega) hy, h] at this
  exact this
theorem all_find (g q : Int) : ∀ p : List Tm, (p.all fun y => !keyB g q y) = !(findT g q p).isSome
  | [] => rfl
  | y :: r => by
    rw [List.all_cons, findT, all_find g q r]
    cases h : keyB g q y <;> simp
theorem fit_twice {l : List Tm} {k : Nat} {x : Tm} (hk : k < l.length) (hx : l.getD k tm0 = x) (h : (findT x.saga x.kind (l.take k)).isSome = true) : fitUp (l.take k) (l.drop k) = false := by
  rw [fit_go hk hx, okT, all_find, h]; simp
theorem fit_next {l : List Tm} {k : Nat} {x : Tm} (hk : k < l.length) (hx : l.getD k tm0 = x) (h1 : oneT x = true) (h2 : lastOk (l.take k) x = true) (h3 : (findT x.saga x.kind (l.take k)).isSome = false) :
    fitUp (l.take k) (l.drop k) = fitUp (l.take (k + 1)) (l.drop (k + 1)) := by
  rw [fit_go hk hx, okT, all_find, h1, h2, h3]; rfl
theorem fit_done {l : List Tm} {k : Nat} (hk : ¬ k < l.length) : fitUp (l.take k) (l.drop k) = true := by
  rw [List.drop_eq_nil_of_le (by omega)]; rfl
theorem fitB_long {l : List Tm} (h : 64 < l.length) : fitB l = false := by unfold fitB; rw [decide_eq_false (by omega)]; rfl
theorem fitB_short {l : List Tm} (h : ¬ 64 < l.length) : fitB l = fitUp (l.take 0) (l.drop 0) := by unfold fitB; rw [decide_eq_true (by omega : l.length ≤ 64)]; simp
theorem find_is (a : Option Addr) (len cap : Nat) (l : List Tm) (g q z0 z1 z2 : Int) (b : Bool) (hz : getT (findT g q l) = ⟨z0, z1, z2⟩) (hb : (findT g q l).isSome = b) (w : World) (h : TmAt w a len l) :
    Calls Try.prog 7 #[.slice a len cap, .int .i64 g, .int .i64 q] w fun e w' => e = .returned (.tuple #[.agg #[.int .i64 z0, .int .i64 z1, .int .i64 z2], .bool b]) ∧ Below w.heap.size w w' := by
  have := find_any a len cap l g q _ rfl w h
  rw [hz, hb] at this
  exact this
theorem djoin {G : Prop} {F P : World → Nat → Prop} (main : (∀ w p, F w p → P w p) → G) (pf : ∀ w p, F w p → P w p) : G := main pf
theorem tm_split (t : Tm) : ∃ z0 z1 z2, t = ⟨z0, z1, z2⟩ := ⟨t.at_, t.saga, t.kind, rfl⟩

set_option maxHeartbeats 8000000 in
theorem fit_any (a : Option Addr) (len cap : Nat) (l : List Tm) (hcap : len ≤ cap) (v : Bool) (hv : fitB l = v) (w : World) (h : TmAt w a len l) :
    Calls Try.prog 11 #[.slice a len cap] w fun e w' => e = .returned (.bool v) ∧ Below w.heap.size w w' := by
  have hl := h.2.1
  by_cases h64 : 64 < len
  · have HNO : Hid (v = false) := hv.symm.trans (fitB_long (by rw [h.1]; exact h64))
    have e0 : (64 : Int) < (len : Int) := by omega
    clear h hv
    go_enter Try.func11, Try.ntmps11
    go_wp2_with fail
    go_ret
    exact ⟨ret_bool HNO.out, Below.refl _ _⟩
  have e0 : ¬ ((64 : Int) < (len : Int)) := by omega
  have HV : Hid (v = fitUp (l.take 0) (l.drop 0)) := hv.symm.trans (fitB_short (by rw [h.1]; exact h64))
  have HX := Lib.hid h
  clear h hv
  go_enter Try.func11, Try.ntmps11
  go_wp2_with fail
  go_loopw [12] (fun i wr => ∃ k : Nat, k ≤ len ∧ i = .int .i64 (k : Int) ∧ Hid (v = fitUp (l.take k) (l.drop k)) ∧ Hid (Below w.heap.size w wr)) (fun i _ => len - (intOf i).toNat)
  case atStart => exact ⟨0, Nat.zero_le _, rfl, HV, Below.refl _ w⟩
  case round =>
    obtain ⟨k, hk, rfl, hd, hB⟩ := hrel
    by_cases hlk : k < len
    · have hkx : k < l.length := by rw [HX.out.1]; exact hlk
      obtain ⟨b1, o1, x0, x1, x2, rfl, g1, hp, hc1⟩ := TmAt.at HX.out hlk
      obtain ⟨d0, d1, d2⟩ := hc1 wr hB.out
      have HBX := bx3_new 25 wr (.int .i64 x0) (.int .i64 x1) (.int .i64 x2)
      obtain ⟨wb, hwb⟩ : ∃ wb, wr.alloc (.cells #[.int .i64 x0, .int .i64 x1, .int .i64 x2] 25) = wb := ⟨_, rfl⟩
      rw [hwb] at HBX
      have HBX := Lib.hid HBX
      have HW := Lib.hid hwb
      have HPC := Lib.hid (fun m (hm : m < len) => (TmAt.at HX.out hm))
      clear hc1 g1 hwb
      cases h1 : oneT ⟨x0, x1, x2⟩ with
      | false =>
        have HNO := Lib.hid (hd.out.trans (fit_one hkx hp h1))
        have CV := Lib.hid (fun d os => Calls.regrown_of (valid_is x0 x1 x2 false h1 (Sort.grow (redrawn wb d) os)))
        clear hd hp hkx h1
        go_wp2_with fail
        rw [show wr.alloc (.cells #[.int .i64 x0, .int .i64 x1, .int .i64 x2] 25) = wb from HW.out]
        clear d0 d1 d2
        obtain ⟨C0, C1, C2⟩ := cells3 HBX.out.box
        have c0 := fun d os => cell_regrown C0 d os
        have c1 := fun d os => cell_regrown C1 d os
        have c2 := fun d os => cell_regrown C2 d os
        clear C0 C1 C2
        refine wp_region_qw (by kernel_rfl) (by kernel_rfl) ?_
        refine qw_take (by kernel_rfl) (fun K hK => ?_); go_simp; first | (refine hK _ ?_; clear hK K) | (apply Exists.intro; refine ⟨fun _ => ?_, hK _ ?_⟩; (first | with_reducible exact CV.out _ _); clear hK K)
        refine qw_take (by kernel_rfl) (fun K hK => ?_); go_simp; first | (refine hK _ ?_; clear hK K) | (apply Exists.intro; refine ⟨fun _ => ?_, hK _ ?_⟩; (first | with_reducible exact CV.out _ _); clear hK K)
        refine qw_take (by kernel_rfl) (fun K hK => ?_); go_simp; first | (refine hK _ ?_; clear hK K) | (apply Exists.intro; refine ⟨fun _ => ?_, hK _ ?_⟩; (first | with_reducible exact CV.out _ _); clear hK K)
        refine qw_take (by kernel_rfl) (fun K hK => ?_); go_simp; first | (refine hK _ ?_; clear hK K) | (apply Exists.intro; refine ⟨fun _ => ?_, hK _ ?_⟩; (first | with_reducible exact CV.out _ _); clear hK K)
        refine qw_skip (by kernel_rfl) ?_; simp only [Act.put, List.setIfInBounds_toArray, List.set_cons_succ, List.set_cons_zero]
        refine qw_skip (by kernel_rfl) ?_; simp only [Act.put, List.setIfInBounds_toArray, List.set_cons_succ, List.set_cons_zero]
        refine qw_skip (by kernel_rfl) ?_; simp only [Act.put, List.setIfInBounds_toArray, List.set_cons_succ, List.set_cons_zero]
        refine qw_skip (by kernel_rfl) ?_; simp only [Act.put, List.setIfInBounds_toArray, List.set_cons_succ, List.set_cons_zero]
        refine qw_skip (by kernel_rfl) ?_; simp only [Act.put, List.setIfInBounds_toArray, List.set_cons_succ, List.set_cons_zero]
        refine qw_skip (by kernel_rfl) ?_; simp only [Act.put, List.setIfInBounds_toArray, List.set_cons_succ, List.set_cons_zero]
        refine qw_skip (by kernel_rfl) ?_; simp only [Act.put, List.setIfInBounds_toArray, List.set_cons_succ, List.set_cons_zero]
        refine qw_skip (by kernel_rfl) ?_; simp only [Act.put, List.setIfInBounds_toArray, List.set_cons_succ, List.set_cons_zero]
        refine qw_skip (by kernel_rfl) ?_; simp only [Act.put, List.setIfInBounds_toArray, List.set_cons_succ, List.set_cons_zero]
        refine qw_skip (by kernel_rfl) ?_; simp only [Act.put, List.setIfInBounds_toArray, List.set_cons_succ, List.set_cons_zero]
        refine qw_skip (by kernel_rfl) ?_; simp only [Act.put, List.setIfInBounds_toArray, List.set_cons_succ, List.set_cons_zero]
        refine qw_skip (by kernel_rfl) ?_; simp only [Act.put, List.setIfInBounds_toArray, List.set_cons_succ, List.set_cons_zero]
        refine qw_take (by kernel_rfl) (fun K hK => ?_); go_simp; first | (refine hK _ ?_; clear hK K) | (apply Exists.intro; refine ⟨fun _ => ?_, hK _ ?_⟩; (first | with_reducible exact CV.out _ _); clear hK K)
        refine qw_nil ?_
        intro _ hw'
        obtain ⟨⟨dq, osq⟩, hw''⟩ := hw'
        subst hw''
        have HBL := Lib.hid (HBX.out.keep (below_regrown wb dq osq))
        clear c0 c1 c2 CV
        generalize Sort.grow (redrawn wb dq) osq = wl at *
        go_wp2_with fail
        go_ret
        exact ⟨ret_bool HNO.out, below_keep hB.out HBL.out.bel hB.out.size⟩
      | true =>
        have CV := Lib.hid (fun d os => Calls.regrown_of (valid_is x0 x1 x2 true h1 (Sort.grow (redrawn wb d) os)))
        by_cases hk0 : 0 < k
        · have hkm : k - 1 < len := by omega
          obtain ⟨b2, o2, y0, y1, y2, hab, _, hy, hc3⟩ := HPC.out (k - 1) hkm
          simp only [Option.some.injEq, Addr.mk.injEq, and_true] at hab
          obtain ⟨rfl, rfl⟩ := hab
          obtain ⟨R0, R1, R2⟩ := hc3 wb (below_keep hB.out HBX.out.bel hB.out.size)
          have hki : (0 : Int) < (k : Int) := by omega
          have hkd : decide ((0 : Int) < (k : Int)) = true := by simp; omega
          have hkn : ((k : Int) - 1).toNat = k - 1 := by omega
          have hwk : IntKind.i64.wrap ((k : Int) - 1) = ((k - 1 : Nat) : Int) := by rw [IntKind.wrap_i64]; omega
          have hkl : ((k - 1 : Nat) : Int) < (len : Int) := by omega
          have hkz : (0 : Int) ≤ ((k - 1 : Nat) : Int) := by omega
          cases ha : aheadB ⟨y0, y1, y2⟩ ⟨x0, x1, x2⟩ with
          | false =>
            have HNO := Lib.hid (hd.out.trans (fit_last hkx hp hk0 hy ha))
            have CA := Lib.hid (fun d os => Calls.regrown_of (ahead_is y0 y1 y2 x0 x1 x2 false ha (Sort.grow (redrawn wb d) os)))
            clear hd hp hkx h1 ha hy hc3
            go_wp2_with fail
            rw [show wr.alloc (.cells #[.int .i64 x0, .int .i64 x1, .int .i64 x2] 25) = wb from HW.out]
            clear d0 d1 d2
            obtain ⟨C0, C1, C2⟩ := cells3 HBX.out.box
            have c0 := fun d os => cell_regrown C0 d os
            have c1 := fun d os => cell_regrown C1 d os
            have c2 := fun d os => cell_regrown C2 d os
            have r0 := fun d os => cell_regrown R0 d os
            have r1 := fun d os => cell_regrown R1 d os
            have r2 := fun d os => cell_regrown R2 d os
            clear C0 C1 C2 R0 R1 R2
            refine wp_region_qw (by kernel_rfl) (by kernel_rfl) ?_
            refine qw_take (by kernel_rfl) (fun K hK => ?_); go_simp; first | (refine hK _ ?_; clear hK K) | (apply Exists.intro; refine ⟨fun _ => ?_, hK _ ?_⟩; (first | with_reducible exact CV.out _ _ | with_reducible exact CA.out _ _); clear hK K)
            refine qw_take (by kernel_rfl) (fun K hK => ?_); go_simp; first | (refine hK _ ?_; clear hK K) | (apply Exists.intro; refine ⟨fun _ => ?_, hK _ ?_⟩; (first | with_reducible exact CV.out _ _ | with_reducible exact CA.out _ _); clear hK K)
            refine qw_take (by kernel_rfl) (fun K hK => ?_); go_simp; first | (refine hK _ ?_; clear hK K) | (apply Exists.intro; refine ⟨fun _ => ?_, hK _ ?_⟩; (first | with_reducible exact CV.out _ _ | with_reducible exact CA.out _ _); clear hK K)
            refine qw_take (by kernel_rfl) (fun K hK => ?_); go_simp; first | (refine hK _ ?_; clear hK K) | (apply Exists.intro; refine ⟨fun _ => ?_, hK _ ?_⟩; (first | with_reducible exact CV.out _ _ | with_reducible exact CA.out _ _); clear hK K)
            refine qw_take (by kernel_rfl) (fun K hK => ?_); go_simp; first | (refine hK _ ?_; clear hK K) | (apply Exists.intro; refine ⟨fun _ => ?_, hK _ ?_⟩; (first | with_reducible exact CV.out _ _ | with_reducible exact CA.out _ _); clear hK K)
            refine qw_take (by kernel_rfl) (fun K hK => ?_); go_simp; first | (refine hK _ ?_; clear hK K) | (apply Exists.intro; refine ⟨fun _ => ?_, hK _ ?_⟩; (first | with_reducible exact CV.out _ _ | with_reducible exact CA.out _ _); clear hK K)
            refine qw_take (by kernel_rfl) (fun K hK => ?_); go_simp; first | (refine hK _ ?_; clear hK K) | (apply Exists.intro; refine ⟨fun _ => ?_, hK _ ?_⟩; (first | with_reducible exact CV.out _ _ | with_reducible exact CA.out _ _); clear hK K)
            refine qw_take (by kernel_rfl) (fun K hK => ?_); go_simp; first | (refine hK _ ?_; clear hK K) | (apply Exists.intro; refine ⟨fun _ => ?_, hK _ ?_⟩; (first | with_reducible exact CV.out _ _ | with_reducible exact CA.out _ _); clear hK K)
            refine qw_take (by kernel_rfl) (fun K hK => ?_); go_simp; first | (refine hK _ ?_; clear hK K) | (apply Exists.intro; refine ⟨fun _ => ?_, hK _ ?_⟩; (first | with_reducible exact CV.out _ _ | with_reducible exact CA.out _ _); clear hK K)
            refine qw_take (by kernel_rfl) (fun K hK => ?_); go_simp; first | (refine hK _ ?_; clear hK K) | (apply Exists.intro; refine ⟨fun _ => ?_, hK _ ?_⟩; (first | with_reducible exact CV.out _ _ | with_reducible exact CA.out _ _); clear hK K)
            refine qw_take (by kernel_rfl) (fun K hK => ?_); go_simp; first | (refine hK _ ?_; clear hK K) | (apply Exists.intro; refine ⟨fun _ => ?_, hK _ ?_⟩; (first | with_reducible exact CV.out _ _ | with_reducible exact CA.out _ _); clear hK K)
            refine qw_take (by kernel_rfl) (fun K hK => ?_); go_simp; first | (refine hK _ ?_; clear hK K) | (apply Exists.intro; refine ⟨fun _ => ?_, hK _ ?_⟩; (first | with_reducible exact CV.out _ _ | with_reducible exact CA.out _ _); clear hK K)
            refine qw_take (by kernel_rfl) (fun K hK => ?_); go_simp; first | (refine hK _ ?_; clear hK K) | (apply Exists.intro; refine ⟨fun _ => ?_, hK _ ?_⟩; (first | with_reducible exact CV.out _ _ | with_reducible exact CA.out _ _); clear hK K)
            refine qw_take (by kernel_rfl) (fun K hK => ?_); go_simp; first | (refine hK _ ?_; clear hK K) | (apply Exists.intro; refine ⟨fun _ => ?_, hK _ ?_⟩; (first | with_reducible exact CV.out _ _ | with_reducible exact CA.out _ _); clear hK K)
            refine qw_take (by kernel_rfl) (fun K hK => ?_); go_simp; first | (refine hK _ ?_; clear hK K) | (apply Exists.intro; refine ⟨fun _ => ?_, hK _ ?_⟩; (first | with_reducible exact CV.out _ _ | with_reducible exact CA.out _ _); clear hK K)
            refine qw_take (by kernel_rfl) (fun K hK => ?_); go_simp; first | (refine hK _ ?_; clear hK K) | (apply Exists.intro; refine ⟨fun _ => ?_, hK _ ?_⟩; (first | with_reducible exact CV.out _ _ | with_reducible exact CA.out _ _); clear hK K)
            refine qw_take (by kernel_rfl) (fun K hK => ?_); go_simp; first | (refine hK _ ?_; clear hK K) | (apply Exists.intro; refine ⟨fun _ => ?_, hK _ ?_⟩; (first | with_reducible exact CV.out _ _ | with_reducible exact CA.out _ _); clear hK K)
            refine qw_nil ?_
            intro _ hw'
            obtain ⟨⟨dq, osq⟩, hw''⟩ := hw'
            subst hw''
            have HBL := Lib.hid (HBX.out.keep (below_regrown wb dq osq))
            clear c0 c1 c2 r0 r1 r2 CV CA
            generalize Sort.grow (redrawn wb dq) osq = wl at *
            go_wp2_with fail
            go_ret
            exact ⟨ret_bool HNO.out, below_keep hB.out HBL.out.bel hB.out.size⟩
          | true =>
            have hlast := last_yes hkx hp hk0 hy ha
            have CA := Lib.hid (fun d os => Calls.regrown_of (ahead_is y0 y1 y2 x0 x1 x2 true ha (Sort.grow (redrawn wb d) os)))
            clear ha hy hc3
            go_wp2_with fail
            rw [show wr.alloc (.cells #[.int .i64 x0, .int .i64 x1, .int .i64 x2] 25) = wb from HW.out]
            clear d0 d1 d2
            obtain ⟨C0, C1, C2⟩ := cells3 HBX.out.box
            have c0 := fun d os => cell_regrown C0 d os
            have c1 := fun d os => cell_regrown C1 d os
            have c2 := fun d os => cell_regrown C2 d os
            have r0 := fun d os => cell_regrown R0 d os
            have r1 := fun d os => cell_regrown R1 d os
            have r2 := fun d os => cell_regrown R2 d os
            clear C0 C1 C2 R0 R1 R2
            refine wp_region_qw (by kernel_rfl) (by kernel_rfl) ?_
            refine qw_take (by kernel_rfl) (fun K hK => ?_); go_simp; first | (refine hK _ ?_; clear hK K) | (apply Exists.intro; refine ⟨fun _ => ?_, hK _ ?_⟩; (first | with_reducible exact CV.out _ _ | with_reducible exact CA.out _ _); clear hK K)
            refine qw_take (by kernel_rfl) (fun K hK => ?_); go_simp; first | (refine hK _ ?_; clear hK K) | (apply Exists.intro; refine ⟨fun _ => ?_, hK _ ?_⟩; (first | with_reducible exact CV.out _ _ | with_reducible exact CA.out _ _); clear hK K)
            refine qw_take (by kernel_rfl) (fun K hK => ?_); go_simp; first | (refine hK _ ?_; clear hK K) | (apply Exists.intro; refine ⟨fun _ => ?_, hK _ ?_⟩; (first | with_reducible exact CV.out _ _ | with_reducible exact CA.out _ _); clear hK K)
            refine qw_take (by kernel_rfl) (fun K hK => ?_); go_simp; first | (refine hK _ ?_; clear hK K) | (apply Exists.intro; refine ⟨fun _ => ?_, hK _ ?_⟩; (first | with_reducible exact CV.out _ _ | with_reducible exact CA.out _ _); clear hK K)
            refine qw_take (by kernel_rfl) (fun K hK => ?_); go_simp; first | (refine hK _ ?_; clear hK K) | (apply Exists.intro; refine ⟨fun _ => ?_, hK _ ?_⟩; (first | with_reducible exact CV.out _ _ | with_reducible exact CA.out _ _); clear hK K)
            refine qw_take (by kernel_rfl) (fun K hK => ?_); go_simp; first | (refine hK _ ?_; clear hK K) | (apply Exists.intro; refine ⟨fun _ => ?_, hK _ ?_⟩; (first | with_reducible exact CV.out _ _ | with_reducible exact CA.out _ _); clear hK K)
            refine qw_take (by kernel_rfl) (fun K hK => ?_); go_simp; first | (refine hK _ ?_; clear hK K) | (apply Exists.intro; refine ⟨fun _ => ?_, hK _ ?_⟩; (first | with_reducible exact CV.out _ _ | with_reducible exact CA.out _ _); clear hK K)
            refine qw_take (by kernel_rfl) (fun K hK => ?_); go_simp; first | (refine hK _ ?_; clear hK K) | (apply Exists.intro; refine ⟨fun _ => ?_, hK _ ?_⟩; (first | with_reducible exact CV.out _ _ | with_reducible exact CA.out _ _); clear hK K)
            refine qw_take (by kernel_rfl) (fun K hK => ?_); go_simp; first | (refine hK _ ?_; clear hK K) | (apply Exists.intro; refine ⟨fun _ => ?_, hK _ ?_⟩; (first | with_reducible exact CV.out _ _ | with_reducible exact CA.out _ _); clear hK K)
            refine qw_take (by kernel_rfl) (fun K hK => ?_); go_simp; first | (refine hK _ ?_; clear hK K) | (apply Exists.intro; refine ⟨fun _ => ?_, hK _ ?_⟩; (first | with_reducible exact CV.out _ _ | with_reducible exact CA.out _ _); clear hK K)
            refine qw_take (by kernel_rfl) (fun K hK => ?_); go_simp; first | (refine hK _ ?_; clear hK K) | (apply Exists.intro; refine ⟨fun _ => ?_, hK _ ?_⟩; (first | with_reducible exact CV.out _ _ | with_reducible exact CA.out _ _); clear hK K)
            refine qw_take (by kernel_rfl) (fun K hK => ?_); go_simp; first | (refine hK _ ?_; clear hK K) | (apply Exists.intro; refine ⟨fun _ => ?_, hK _ ?_⟩; (first | with_reducible exact CV.out _ _ | with_reducible exact CA.out _ _); clear hK K)
            refine qw_take (by kernel_rfl) (fun K hK => ?_); go_simp; first | (refine hK _ ?_; clear hK K) | (apply Exists.intro; refine ⟨fun _ => ?_, hK _ ?_⟩; (first | with_reducible exact CV.out _ _ | with_reducible exact CA.out _ _); clear hK K)
            refine qw_take (by kernel_rfl) (fun K hK => ?_); go_simp; first | (refine hK _ ?_; clear hK K) | (apply Exists.intro; refine ⟨fun _ => ?_, hK _ ?_⟩; (first | with_reducible exact CV.out _ _ | with_reducible exact CA.out _ _); clear hK K)
            refine qw_take (by kernel_rfl) (fun K hK => ?_); go_simp; first | (refine hK _ ?_; clear hK K) | (apply Exists.intro; refine ⟨fun _ => ?_, hK _ ?_⟩; (first | with_reducible exact CV.out _ _ | with_reducible exact CA.out _ _); clear hK K)
            refine qw_take (by kernel_rfl) (fun K hK => ?_); go_simp; first | (refine hK _ ?_; clear hK K) | (apply Exists.intro; refine ⟨fun _ => ?_, hK _ ?_⟩; (first | with_reducible exact CV.out _ _ | with_reducible exact CA.out _ _); clear hK K)
            refine qw_take (by kernel_rfl) (fun K hK => ?_); go_simp; first | (refine hK _ ?_; clear hK K) | (apply Exists.intro; refine ⟨fun _ => ?_, hK _ ?_⟩; (first | with_reducible exact CV.out _ _ | with_reducible exact CA.out _ _); clear hK K)
            refine qw_nil ?_
            intro _ hw'
            obtain ⟨⟨dq, osq⟩, hw''⟩ := hw'
            subst hw''
            have HBL := Lib.hid (HBX.out.keep (below_regrown wb dq osq))
            clear c0 c1 c2 r0 r1 r2 CV CA
            generalize Sort.grow (redrawn wb dq) osq = wl at *
            obtain ⟨z0, z1, z2, hz⟩ := tm_split (getT (findT x1 x2 (l.take k)))
            have K : Hid (∀ w', Below wl.heap.size wl w' → w'.cell? ⟨wr.heap.size, 1, none⟩ = some (.int .i64 x1) ∧ w'.cell? ⟨wr.heap.size, 2, none⟩ = some (.int .i64 x2)) := fun w' hb => ⟨(cells3 (HBL.out.box.keep hb)).2.1, (cells3 (HBL.out.box.keep hb)).2.2⟩
            have hi0 : (0 : Int) ≤ (k : Int) := by omega
            have hi1 : (k : Int) ≤ (cap : Int) := by omega
            have hi2 : k ≤ cap := by omega
            go_wp2_with fail
            have CF := Lib.hid (fun (b : Bool) (hb : (findT x1 x2 (l.take k)).isSome = b) (W : World) (hW : Below wl.heap.size wl W) => find_is (some ⟨b1, o1, none⟩) k cap (l.take k) x1 x2 z0 z1 z2 b hz hb W (Rw.part_take (HX.out.keep (below_keep (below_keep hB.out HBL.out.bel hB.out.size) hW (below_keep hB.out HBL.out.bel hB.out.size).size)) (by omega)))
            obtain ⟨bf, hbf⟩ : ∃ bf, (findT x1 x2 (l.take k)).isSome = bf := ⟨_, rfl⟩
            have CF := Lib.hid (CF.out bf hbf)
            clear hz
            apply djoin (F := fun W p => Below wl.heap.size wl W)
            · intro hG
              have b0 : Below wl.heap.size wl wl.drew := (Below.refl _ wl).drew
              have b1' : Below wl.heap.size wl (wl.alloc (.cells #[.int .i64 0, .int .i64 0, .int .i64 0] 25)).drew := ((Below.refl _ wl).alloc (Nat.le_refl _) _).drew
              have k0 := K.out _ b0
              have k1 := K.out _ b1'
              have k2 := K.out _ ((Below.refl _ wl).alloc (Nat.le_refl _) (.cells #[.int .i64 0, .int .i64 0, .int .i64 0] 25))
              go_region_held3 (fun w' => w'.cell? ⟨wr.heap.size, 1, none⟩ = some (.int .i64 x1) ∧ w'.cell? ⟨wr.heap.size, 2, none⟩ = some (.int .i64 x2))
                (first | with_reducible exact k0 | with_reducible exact k1 | with_reducible exact k2 | with_reducible exact k4 | with_reducible exact k5 | with_reducible exact k6)
                (first
                  | ((with_reducible refine (CF.out (wl.alloc (.cells #[.int .i64 0, .int .i64 0, .int .i64 0] 25)).drew b1').mono ?_); rintro e v4 ⟨rfl, hb4⟩; have b4 := below_keep b1' hb4 b1'.size; have k4 := K.out _ b4; have hz4 := (at3_new 25 wl (.int .i64 0) (.int .i64 0) (.int .i64 0)).drew.keep hb4; obtain ⟨s0, s1, s2⟩ := cells3 hz4; obtain ⟨s3, s4, s5⟩ := free3 hz4; have k5 := K.out _ (below_put3 b4 (Nat.le_refl _) (.int .i64 z0) (.int .i64 z1) (.int .i64 z2)))
                  | ((with_reducible refine (CF.out wl.drew b0).mono ?_); rintro e v4 ⟨rfl, hb4⟩; have b4 := below_keep b0 hb4 b0.size; have k4 := K.out _ b4; have k5 := K.out _ (b4.alloc b4.size (.cells #[.int .i64 0, .int .i64 0, .int .i64 0] 25)); have k6 := K.out _ (b4.alloc b4.size (.cells #[.int .i64 z0, .int .i64 z1, .int .i64 z2] 25))))
              · have hF : Below wl.heap.size wl (v4.alloc (.cells #[.int .i64 z0, .int .i64 z1, .int .i64 z2] 25)) := b4.alloc b4.size _
                generalize v4.alloc (.cells #[.int .i64 z0, .int .i64 z1, .int .i64 z2] 25) = W at hF ⊢
                generalize v4.heap.size = p
                exact hG W p hF
              · have hF := below_put3 b4 (Nat.le_refl _) (.int .i64 z0) (.int .i64 z1) (.int .i64 z2)
                have hg := hG _ wl.heap.size hF
                exact hg
            · intro W p hF
              have HBW := Lib.hid (below_keep (below_keep hB.out HBL.out.bel hB.out.size) hF (below_keep hB.out HBL.out.bel hB.out.size).size)
              clear hF K CF
              cases bf with
              | true =>
                have HNO := Lib.hid (hd.out.trans (fit_twice hkx hp hbf))
                clear hd hp hkx hbf hlast h1
                go_wp2_with fail
                go_ret
                exact ⟨ret_bool HNO.out, HBW.out⟩
              | false =>
                have HGO := Lib.hid (hd.out.trans (fit_next hkx hp h1 hlast hbf))
                clear hd hp hkx hbf hlast h1
                go_wp2_with fail
                go_roundw
                case rel => exact ⟨k + 1, by omega, by go_num, HGO, HBW⟩
                case measure => simp [intOf]; omega
        · have hlast : lastOk (l.take k) ⟨x0, x1, x2⟩ = true := by rw [show k = 0 by omega]; rfl
          have hki : ¬ (0 : Int) < (k : Int) := by omega
          have hkd : decide ((0 : Int) < (k : Int)) = false := by simp; omega
          go_wp2_with fail
          rw [show wr.alloc (.cells #[.int .i64 x0, .int .i64 x1, .int .i64 x2] 25) = wb from HW.out]
          clear d0 d1 d2
          obtain ⟨C0, C1, C2⟩ := cells3 HBX.out.box
          have c0 := fun d os => cell_regrown C0 d os
          have c1 := fun d os => cell_regrown C1 d os
          have c2 := fun d os => cell_regrown C2 d os
          clear C0 C1 C2
          refine wp_region_qw (by kernel_rfl) (by kernel_rfl) ?_
          refine qw_take (by kernel_rfl) (fun K hK => ?_); go_simp; first | (refine hK _ ?_; clear hK K) | (apply Exists.intro; refine ⟨fun _ => ?_, hK _ ?_⟩; (first | with_reducible exact CV.out _ _); clear hK K)
          refine qw_take (by kernel_rfl) (fun K hK => ?_); go_simp; first | (refine hK _ ?_; clear hK K) | (apply Exists.intro; refine ⟨fun _ => ?_, hK _ ?_⟩; (first | with_reducible exact CV.out _ _); clear hK K)
          refine qw_take (by kernel_rfl) (fun K hK => ?_); go_simp; first | (refine hK _ ?_; clear hK K) | (apply Exists.intro; refine ⟨fun _ => ?_, hK _ ?_⟩; (first | with_reducible exact CV.out _ _); clear hK K)
          refine qw_take (by kernel_rfl) (fun K hK => ?_); go_simp; first | (refine hK _ ?_; clear hK K) | (apply Exists.intro; refine ⟨fun _ => ?_, hK _ ?_⟩; (first | with_reducible exact CV.out _ _); clear hK K)
          refine qw_take (by kernel_rfl) (fun K hK => ?_); go_simp; first | (refine hK _ ?_; clear hK K) | (apply Exists.intro; refine ⟨fun _ => ?_, hK _ ?_⟩; (first | with_reducible exact CV.out _ _); clear hK K)
          refine qw_take (by kernel_rfl) (fun K hK => ?_); go_simp; first | (refine hK _ ?_; clear hK K) | (apply Exists.intro; refine ⟨fun _ => ?_, hK _ ?_⟩; (first | with_reducible exact CV.out _ _); clear hK K)
          refine qw_take (by kernel_rfl) (fun K hK => ?_); go_simp; first | (refine hK _ ?_; clear hK K) | (apply Exists.intro; refine ⟨fun _ => ?_, hK _ ?_⟩; (first | with_reducible exact CV.out _ _); clear hK K)
          refine qw_skip (by kernel_rfl) ?_; simp only [Act.put, List.setIfInBounds_toArray, List.set_cons_succ, List.set_cons_zero]
          refine qw_skip (by kernel_rfl) ?_; simp only [Act.put, List.setIfInBounds_toArray, List.set_cons_succ, List.set_cons_zero]
          refine qw_skip (by kernel_rfl) ?_; simp only [Act.put, List.setIfInBounds_toArray, List.set_cons_succ, List.set_cons_zero]
          refine qw_skip (by kernel_rfl) ?_; simp only [Act.put, List.setIfInBounds_toArray, List.set_cons_succ, List.set_cons_zero]
          refine qw_skip (by kernel_rfl) ?_; simp only [Act.put, List.setIfInBounds_toArray, List.set_cons_succ, List.set_cons_zero]
          refine qw_skip (by kernel_rfl) ?_; simp only [Act.put, List.setIfInBounds_toArray, List.set_cons_succ, List.set_cons_zero]
          refine qw_skip (by kernel_rfl) ?_; simp only [Act.put, List.setIfInBounds_toArray, List.set_cons_succ, List.set_cons_zero]
          refine qw_skip (by kernel_rfl) ?_; simp only [Act.put, List.setIfInBounds_toArray, List.set_cons_succ, List.set_cons_zero]
          refine qw_take (by kernel_rfl) (fun K hK => ?_); go_simp; first | (refine hK _ ?_; clear hK K) | (apply Exists.intro; refine ⟨fun _ => ?_, hK _ ?_⟩; (first | with_reducible exact CV.out _ _); clear hK K)
          refine qw_take (by kernel_rfl) (fun K hK => ?_); go_simp; first | (refine hK _ ?_; clear hK K) | (apply Exists.intro; refine ⟨fun _ => ?_, hK _ ?_⟩; (first | with_reducible exact CV.out _ _); clear hK K)
          refine qw_nil ?_
          intro _ hw'
          obtain ⟨⟨dq, osq⟩, hw''⟩ := hw'
          subst hw''
          have HBL := Lib.hid (HBX.out.keep (below_regrown wb dq osq))
          clear c0 c1 c2 CV
          generalize Sort.grow (redrawn wb dq) osq = wl at *
          obtain ⟨z0, z1, z2, hz⟩ := tm_split (getT (findT x1 x2 (l.take k)))
          have K : Hid (∀ w', Below wl.heap.size wl w' → w'.cell? ⟨wr.heap.size, 1, none⟩ = some (.int .i64 x1) ∧ w'.cell? ⟨wr.heap.size, 2, none⟩ = some (.int .i64 x2)) := fun w' hb => ⟨(cells3 (HBL.out.box.keep hb)).2.1, (cells3 (HBL.out.box.keep hb)).2.2⟩
          have hi0 : (0 : Int) ≤ (k : Int) := by omega
          have hi1 : (k : Int) ≤ (cap : Int) := by omega
          have hi2 : k ≤ cap := by omega
          go_wp2_with fail
          have CF := Lib.hid (fun (b : Bool) (hb : (findT x1 x2 (l.take k)).isSome = b) (W : World) (hW : Below wl.heap.size wl W) => find_is (some ⟨b1, o1, none⟩) k cap (l.take k) x1 x2 z0 z1 z2 b hz hb W (Rw.part_take (HX.out.keep (below_keep (below_keep hB.out HBL.out.bel hB.out.size) hW (below_keep hB.out HBL.out.bel hB.out.size).size)) (by omega)))
          obtain ⟨bf, hbf⟩ : ∃ bf, (findT x1 x2 (l.take k)).isSome = bf := ⟨_, rfl⟩
          have CF := Lib.hid (CF.out bf hbf)
          clear hz
          apply djoin (F := fun W p => Below wl.heap.size wl W)
          · intro hG
            have b0 : Below wl.heap.size wl wl.drew := (Below.refl _ wl).drew
            have b1' : Below wl.heap.size wl (wl.alloc (.cells #[.int .i64 0, .int .i64 0, .int .i64 0] 25)).drew := ((Below.refl _ wl).alloc (Nat.le_refl _) _).drew
            have k0 := K.out _ b0
            have k1 := K.out _ b1'
            have k2 := K.out _ ((Below.refl _ wl).alloc (Nat.le_refl _) (.cells #[.int .i64 0, .int .i64 0, .int .i64 0] 25))
            go_region_held3 (fun w' => w'.cell? ⟨wr.heap.size, 1, none⟩ = some (.int .i64 x1) ∧ w'.cell? ⟨wr.heap.size, 2, none⟩ = some (.int .i64 x2))
              (first | with_reducible exact k0 | with_reducible exact k1 | with_reducible exact k2 | with_reducible exact k4 | with_reducible exact k5 | with_reducible exact k6)
              (first
                | ((with_reducible refine (CF.out (wl.alloc (.cells #[.int .i64 0, .int .i64 0, .int .i64 0] 25)).drew b1').mono ?_); rintro e v4 ⟨rfl, hb4⟩; have b4 := below_keep b1' hb4 b1'.size; have k4 := K.out _ b4; have hz4 := (at3_new 25 wl (.int .i64 0) (.int .i64 0) (.int .i64 0)).drew.keep hb4; obtain ⟨s0, s1, s2⟩ := cells3 hz4; obtain ⟨s3, s4, s5⟩ := free3 hz4; have k5 := K.out _ (below_put3 b4 (Nat.le_refl _) (.int .i64 z0) (.int .i64 z1) (.int .i64 z2)))
                | ((with_reducible refine (CF.out wl.drew b0).mono ?_); rintro e v4 ⟨rfl, hb4⟩; have b4 := below_keep b0 hb4 b0.size; have k4 := K.out _ b4; have k5 := K.out _ (b4.alloc b4.size (.cells #[.int .i64 0, .int .i64 0, .int .i64 0] 25)); have k6 := K.out _ (b4.alloc b4.size (.cells #[.int .i64 z0, .int .i64 z1, .int .i64 z2] 25))))
            · have hF : Below wl.heap.size wl (v4.alloc (.cells #[.int .i64 z0, .int .i64 z1, .int .i64 z2] 25)) := b4.alloc b4.size _
              generalize v4.alloc (.cells #[.int .i64 z0, .int .i64 z1, .int .i64 z2] 25) = W at hF ⊢
              generalize v4.heap.size = p
              exact hG W p hF
            · have hF := below_put3 b4 (Nat.le_refl _) (.int .i64 z0) (.int .i64 z1) (.int .i64 z2)
              have hg := hG _ wl.heap.size hF
              exact hg
          · intro W p hF
            have HBW := Lib.hid (below_keep (below_keep hB.out HBL.out.bel hB.out.size) hF (below_keep hB.out HBL.out.bel hB.out.size).size)
            clear hF K CF
            cases bf with
            | true =>
              have HNO := Lib.hid (hd.out.trans (fit_twice hkx hp hbf))
              clear hd hp hkx hbf hlast h1
              go_wp2_with fail
              go_ret
              exact ⟨ret_bool HNO.out, HBW.out⟩
            | false =>
              have HGO := Lib.hid (hd.out.trans (fit_next hkx hp h1 hlast hbf))
              clear hd hp hkx hbf hlast h1
              go_wp2_with fail
              go_roundw
              case rel => exact ⟨k + 1, by omega, by go_num, HGO, HBW⟩
              case measure => simp [intOf]; omega
    · obtain rfl : k = len := by omega
      have HYES := Lib.hid (hd.out.trans (fit_done (by rw [HX.out.1]; exact hlk)))
      clear hd
      go_wp2_with fail
      go_ret
      exact ⟨ret_bool HYES.out, hB.out⟩
end Go.Proofs.Ytcfjnpepbjaacaa.Timer
