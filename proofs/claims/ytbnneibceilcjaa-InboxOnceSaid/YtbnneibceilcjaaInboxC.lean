/-
  The contracts of Fit, the program's and the document's: any boxes; what was there stays as it was.
-/
import Derived.Test.YtbnneibceilcjaaInboxB
set_option linter.unusedVariables false
set_option linter.unusedSimpArgs false
set_option maxRecDepth 4000
namespace Go.Proofs.Ytbnneibceilcjaa.Inbox
open Go.RowKit InP
open Go.Proofs.Ytbnneibceilcjaa.Kt
theorem nrfit_below (n : Int) (v : Bool) (hv : amtI n = v) (w : World) : Calls Try.prog 19 #[.int .i64 n] w fun e w' => e = .returned (.bool v) ∧ Below w.heap.size w w' := by
  refine (nrfit_is n v hv w).mono ?_
  rintro e w' ⟨rfl, rfl⟩
  exact ⟨rfl, Below.refl _ w⟩
/-- What stands before a number: one more than the lowest, or the number before it. -/
def LastI (low t : Int) (l : List Int) (k : Nat) : Prop := (k = 0 ∧ t = low + 1) ∨ (0 < k ∧ l.getD (k - 1) 0 = t ∧ low + 1 < t)
theorem last_start (low : Int) (l : List Int) : LastI low (low + 1) l 0 := .inl ⟨rfl, rfl⟩
theorem last_next {low x : Int} {l : List Int} {k : Nat} (hx : l.getD k 0 = x) (h : low + 1 < x) : LastI low x l (k + 1) := .inr ⟨by omega, hx, h⟩
theorem last_low {low t : Int} {l : List Int} {k : Nat} (h : LastI low t l k) : low + 1 ≤ t := by
  rcases h with ⟨_, rfl⟩ | ⟨_, _, h⟩ <;> omega
theorem up_go {low t x : Int} {l : List Int} {k : Nat} (hk : k < l.length) (hx : l.getD k 0 = x) (h : LastI low t l k) : upI low (l.take k) (l.drop k) = (amtI x && (decide (t < x) && upI low (l.take (k + 1)) (l.drop (k + 1)))) := by
  rw [upI_step hk]
  rw [getD_idx hk] at hx
  rw [hx]
  unfold okI
  rcases h with ⟨rfl, rfl⟩ | ⟨h0, ht, hlo⟩
  · rw [show lastOk (l.take 0) x = true from rfl, Bool.and_true, Bool.and_assoc]
  · rw [← hx, lastOk_at hk h0, hx]
    rw [getD_idx (by omega)] at ht
    rw [ht]
    by_cases h : t < x
    · rw [decide_eq_true h, decide_eq_true (by omega : low + 1 < x)]; simp
    · rw [decide_eq_false h]; simp
theorem up_amt {low t x : Int} {l : List Int} {k : Nat} (hk : k < l.length) (hx : l.getD k 0 = x) (h : LastI low t l k) (ha : amtI x = false) : upI low (l.take k) (l.drop k) = false := by
  rw [up_go hk hx h, ha]; rfl
theorem up_not {low t x : Int} {l : List Int} {k : Nat} (hk : k < l.length) (hx : l.getD k 0 = x) (h : LastI low t l k) (ha : ¬ t < x) : upI low (l.take k) (l.drop k) = false := by
  rw [up_go hk hx h, decide_eq_false ha]; simp
theorem up_next {low t x : Int} {l : List Int} {k : Nat} (hk : k < l.length) (hx : l.getD k 0 = x) (h : LastI low t l k) (ha : amtI x = true) (hb : t < x) : upI low (l.take k) (l.drop k) = upI low (l.take (k + 1)) (l.drop (k + 1)) := by
  rw [up_go hk hx h, ha, decide_eq_true hb]; rfl
theorem up_done {low : Int} {l : List Int} {k : Nat} (hk : ¬ k < l.length) : upI low (l.take k) (l.drop k) = true := by
  rw [List.drop_eq_nil_of_le (by omega)]; rfl
theorem fit_sv {s l : Int} {xs : List Int} (h1 : ¬ s = 1) (h2 : ¬ s = 2) : fitB ⟨s, l, xs⟩ = false := by simp [fitB, headOk, h1, h2]
theorem fit_low {s l : Int} {xs : List Int} (h : amtI l = false) : fitB ⟨s, l, xs⟩ = false := by simp [fitB, headOk, h]
theorem fit_long {s l : Int} {xs : List Int} (h : ¬ xs.length ≤ 16) : fitB ⟨s, l, xs⟩ = false := by
  unfold fitB headOk
  rw [decide_eq_false h]; simp
theorem fit_up {s l : Int} {xs : List Int} (hs : s = 1 ∨ s = 2) (h1 : amtI l = true) (h2 : xs.length ≤ 16) : fitB ⟨s, l, xs⟩ = upI l (xs.take 0) (xs.drop 0) := by
  have : (decide (s = 1) || decide (s = 2)) = true := by simp [hs]
  unfold fitB headOk
  simp only [this, h1, decide_eq_true h2]
  rfl
set_option maxHeartbeats 8000000 in
theorem fit_any (s l : Int) (a : Option Addr) (n c : Nat) (xs : List Int) (v : Bool) (hv : fitB ⟨s, l, xs⟩ = v) (w : World) (h : NsAt w a n xs) :
    Calls Try.prog 9 #[bxV s l (.slice a n c)] w fun e w' => e = .returned (.bool v) ∧ Below w.heap.size w w' := by
  unfold bxV
  have hl := h.2.1
  have HB := Lib.hid ((Below.refl w.heap.size w).alloc (Nat.le_refl _) (.cells #[.int .i64 s, .int .i64 l, .slice a n c] 24))
  by_cases hs : s = 1 ∨ s = 2
  · cases ha : amtI l with
    | false =>
      have HNO : Hid (v = false) := hv.symm.trans (fit_low ha)
      have K := Lib.hid (nfit_is l false ha (w.alloc (.cells #[.int .i64 s, .int .i64 l, .slice a n c] 24)))
      clear hv h ha
      rcases hs with rfl | rfl
      all_goals
        go_enter Try.func9, Try.ntmps9
        go_wp2_with fail
        refine K.out.mono ?_
        rintro e w1 ⟨rfl, rfl⟩
        go_wp2_with fail
        go_ret
        exact ⟨ret_bool HNO.out, HB.out⟩
    | true =>
      have K := Lib.hid (nfit_is l true ha (w.alloc (.cells #[.int .i64 s, .int .i64 l, .slice a n c] 24)))
      by_cases h16 : xs.length ≤ 16
      · have HV : Hid (v = upI l (xs.take 0) (xs.drop 0)) := hv.symm.trans (fit_up hs ha h16)
        have hlo := amtI_iff.1 ha
        have hlo0 := hlo.1
        have hlo1 := hlo.2
        have h16n : n ≤ 16 := by rw [← h.1]; exact h16
        have e0 : ¬ ((16 : Int) < (n : Int)) := by omega
        have HX := Lib.hid h
        clear hv h ha h16 hlo
        rcases hs with rfl | rfl
        all_goals
          go_enter Try.func9, Try.ntmps9
          go_wp2_with fail
          refine K.out.mono ?_
          rintro e w1 ⟨rfl, rfl⟩
          clear K
          go_wp2_with fail
          go_loopw [3, 32] (fun s3 i wr => ∃ (k : Nat) (t : Int), k ≤ n ∧ s3 = .int .i64 t ∧ i = .int .i64 (k : Int) ∧ Hid (LastI l t xs k) ∧ Hid (v = upI l (xs.take k) (xs.drop k)) ∧ Hid (Below w.heap.size w wr)) (fun _ i _ => n - (intOf i).toNat)
          case atStart => exact ⟨0, l + 1, Nat.zero_le _, rfl, rfl, last_start l xs, HV, HB.out⟩
          case round =>
            obtain ⟨k, t, hk, rfl, rfl, hL, hd, hB⟩ := hrel
            by_cases hlk : k < n
            · have hkx : k < xs.length := by rw [HX.out.1]; exact hlk
              obtain ⟨b1, o1, rfl, g1, hc1⟩ := NsAt.at HX.out hlk
              have d0 := hc1 wr hB.out
              obtain ⟨x, hx⟩ : ∃ x, xs.getD k 0 = x := ⟨_, rfl⟩
              rw [hx] at d0
              clear hc1 g1
              by_cases hle : x ≤ t
              · have HNO := Lib.hid (hd.out.trans (up_not hkx hx hL.out (by omega)))
                clear hd hkx hx hL
                go_wp2_with fail
                go_ret
                exact ⟨ret_bool HNO.out, hB.out⟩
              · cases ha : amtI x with
                | false =>
                  have HNO := Lib.hid (hd.out.trans (up_amt hkx hx hL.out ha))
                  have K := Lib.hid (nfit_is x false ha wr)
                  clear hd hkx hx hL ha
                  go_wp2_with fail
                  refine K.out.mono ?_
                  rintro e w1 ⟨rfl, rfl⟩
                  go_wp2_with fail
                  go_ret
                  exact ⟨ret_bool HNO.out, hB.out⟩
                | true =>
                  have HGO := Lib.hid (hd.out.trans (up_next hkx hx hL.out ha (by omega)))
                  have HLN := Lib.hid (last_next (low := l) hx (by have := last_low hL.out; omega))
                  have K := Lib.hid (nfit_is x true ha wr)
                  clear hd hkx hx hL ha
                  go_wp2_with fail
                  refine K.out.mono ?_
                  rintro e w1 ⟨rfl, rfl⟩
                  go_wp2_with fail
                  go_roundw
                  case rel => exact ⟨k + 1, x, by omega, rfl, by go_num, HLN, HGO, hB⟩
                  case measure => simp [intOf]; omega
            · obtain rfl : k = n := by omega
              have HNO := Lib.hid (hd.out.trans (up_done (by rw [HX.out.1]; exact hlk)))
              clear hd hL
              go_wp2_with fail
              go_ret
              exact ⟨ret_bool HNO.out, hB.out⟩
      · have HNO : Hid (v = false) := hv.symm.trans (fit_long h16)
        have e0 : (16 : Int) < (n : Int) := by have := h.1; omega
        clear hv h ha h16
        rcases hs with rfl | rfl
        all_goals
          go_enter Try.func9, Try.ntmps9
          go_wp2_with fail
          refine K.out.mono ?_
          rintro e w1 ⟨rfl, rfl⟩
          go_wp2_with fail
          go_ret
          exact ⟨ret_bool HNO.out, HB.out⟩
  · have h1 : ¬ s = 1 := fun e => hs (.inl e)
    have h2 : ¬ s = 2 := fun e => hs (.inr e)
    have HNO : Hid (v = false) := hv.symm.trans (fit_sv h1 h2)
    have g1 : (s != 1) = true := bne_iff_ne.2 h1
    have g2 : (s != 2) = true := bne_iff_ne.2 h2
    clear hv h hs h1 h2
    go_enter Try.func9, Try.ntmps9
    go_wp2_with fail
    go_ret
    exact ⟨ret_bool HNO.out, HB.out⟩
set_option maxHeartbeats 8000000 in
theorem rfit_any (s l : Int) (a : Option Addr) (n c : Nat) (xs : List Int) (v : Bool) (hv : fitB ⟨s, l, xs⟩ = v) (w : World) (h : NsAt w a n xs) :
    Calls Try.prog 10 #[bxV s l (.slice a n c)] w fun e w' => e = .returned (.bool v) ∧ Below w.heap.size w w' := by
  unfold bxV
  have hl := h.2.1
  have HB := Lib.hid ((Below.refl w.heap.size w).alloc (Nat.le_refl _) (.cells #[.int .i64 s, .int .i64 l, .slice a n c] 24))
  by_cases hs : s = 1 ∨ s = 2
  · cases ha : amtI l with
    | false =>
      have HNO : Hid (v = false) := hv.symm.trans (fit_low ha)
      have K := Lib.hid (nrfit_is l false ha (w.alloc (.cells #[.int .i64 s, .int .i64 l, .slice a n c] 24)))
      clear hv h ha
      rcases hs with rfl | rfl
      all_goals
        go_enter Try.func10, Try.ntmps10
        go_wp2_with fail
        refine K.out.mono ?_
        rintro e w1 ⟨rfl, rfl⟩
        go_wp2_with fail
        go_ret
        exact ⟨ret_bool HNO.out, HB.out⟩
    | true =>
      have K := Lib.hid (nrfit_is l true ha (w.alloc (.cells #[.int .i64 s, .int .i64 l, .slice a n c] 24)))
      by_cases h16 : xs.length ≤ 16
      · have HV : Hid (v = upI l (xs.take 0) (xs.drop 0)) := hv.symm.trans (fit_up hs ha h16)
        have hlo := amtI_iff.1 ha
        have hlo0 := hlo.1
        have hlo1 := hlo.2
        have h16n : n ≤ 16 := by rw [← h.1]; exact h16
        have e0 : ¬ ((16 : Int) < (n : Int)) := by omega
        have HX := Lib.hid h
        clear hv h ha h16 hlo
        rcases hs with rfl | rfl
        · go_enter Try.func10, Try.ntmps10
          go_wp2_with fail
          refine K.out.mono ?_
          rintro e w1 ⟨rfl, rfl⟩
          clear K
          go_wp2_with fail
          go_loopw [3] (fun i wr => ∃ k : Nat, k ≤ n ∧ i = .int .i64 (k : Int) ∧ Hid (∃ t, LastI l t xs k) ∧ Hid (v = upI l (xs.take k) (xs.drop k)) ∧ Hid (Bx3 24 w wr (.int .i64 1) (.int .i64 l) (.slice a n c))) (fun i _ => n - (intOf i).toNat)
          case atStart => exact ⟨0, Nat.zero_le _, rfl, ⟨l + 1, last_start l xs⟩, HV, bx3_new _ w _ _ _⟩
          case round =>
            obtain ⟨k, hk, rfl, hL, hd, hB⟩ := hrel
            obtain ⟨_, B1, B2⟩ := cells3 hB.out.box
            by_cases hlk : k < n
            · have hkx : k < xs.length := by rw [HX.out.1]; exact hlk
              obtain ⟨t, hLt⟩ := hL.out
              have hLL := last_low hLt
              have HPC := Lib.hid (fun m (hm : m < n) => (NsAt.at HX.out hm))
              obtain ⟨b1, o1, rfl, g1, hc1⟩ := NsAt.at HX.out hlk
              have d0 := hc1 wr hB.out.bel
              obtain ⟨x, hx⟩ : ∃ x, xs.getD k 0 = x := ⟨_, rfl⟩
              rw [hx] at d0
              have hkl1 : (k : Int) < (n : Int) := by omega
              have hkz1 : (0 : Int) ≤ (k : Int) := by omega
              clear hc1 g1 hL
              cases ha : amtI x with
              | false =>
                have HNO := Lib.hid (hd.out.trans (up_amt hkx hx hLt ha))
                have CV := Lib.hid (fun d os => Calls.regrown_of (nrfit_below x false ha (Sort.grow (redrawn wr d) os)))
                clear hd hkx hx hLt ha hLL HPC
                go_wp2_with fail
                have c0 := fun d os => cell_regrown d0 d os
                have x1 := fun d os => cell_regrown B1 d os
                have x2 := fun d os => cell_regrown B2 d os
                clear d0 B1 B2
                refine wp_region_qw (by kernel_rfl) (by kernel_rfl) ?_
                iterate 8 (refine qw_take (by kernel_rfl) (fun K hK => ?_); go_simp; first | (refine hK _ ?_; clear hK K) | (apply Exists.intro; refine ⟨fun _ => ?_, hK _ ?_⟩; (first | with_reducible exact CV.out _ _); clear hK K))
                iterate 9 (refine qw_skip (by kernel_rfl) ?_; simp only [Act.put, List.setIfInBounds_toArray, List.set_cons_succ, List.set_cons_zero])
                iterate 2 (refine qw_take (by kernel_rfl) (fun K hK => ?_); go_simp; first | (refine hK _ ?_; clear hK K) | (apply Exists.intro; refine ⟨fun _ => ?_, hK _ ?_⟩; (first | with_reducible exact CV.out _ _); clear hK K))
                iterate 16 (refine qw_skip (by kernel_rfl) ?_; simp only [Act.put, List.setIfInBounds_toArray, List.set_cons_succ, List.set_cons_zero])
                refine qw_take (by kernel_rfl) (fun K hK => ?_); go_simp; first | (refine hK _ ?_; clear hK K) | (apply Exists.intro; refine ⟨fun _ => ?_, hK _ ?_⟩; (first | with_reducible exact CV.out _ _); clear hK K)
                refine qw_nil ?_
                intro _ hw'
                obtain ⟨⟨dq, osq⟩, hw''⟩ := hw'
                subst hw''
                have HBL := Lib.hid (hB.out.keep (below_regrown wr dq osq))
                clear c0 x1 x2 CV
                generalize Sort.grow (redrawn wr dq) osq = wl at *
                go_wp2_with fail
                go_ret
                exact ⟨ret_bool HNO.out, HBL.out.bel⟩
              | true =>
                have CV := Lib.hid (fun d os => Calls.regrown_of (nrfit_below x true ha (Sort.grow (redrawn wr d) os)))
                obtain ⟨p, hp⟩ : ∃ p, l + 1 = p := ⟨_, rfl⟩
                have hwp : IntKind.i64.wrap (l + 1) = p := by rw [IntKind.wrap_i64, ← hp]; omega
                by_cases hle : x ≤ l + 1
                · have HNO := Lib.hid (hd.out.trans (up_not hkx hx hLt (by omega)))
                  have hle2 : decide (x ≤ p) = true := decide_eq_true (by omega)
                  clear hle hp hd hkx hx hLt ha hLL HPC
                  go_wp2_with fail
                  have c0 := fun d os => cell_regrown d0 d os
                  have x1 := fun d os => cell_regrown B1 d os
                  have x2 := fun d os => cell_regrown B2 d os
                  clear d0 B1 B2
                  refine wp_region_qw (by kernel_rfl) (by kernel_rfl) ?_
                  iterate 19 (refine qw_take (by kernel_rfl) (fun K hK => ?_); go_simp; first | (refine hK _ ?_; clear hK K) | (apply Exists.intro; refine ⟨fun _ => ?_, hK _ ?_⟩; (first | with_reducible exact CV.out _ _); clear hK K))
                  iterate 16 (refine qw_skip (by kernel_rfl) ?_; simp only [Act.put, List.setIfInBounds_toArray, List.set_cons_succ, List.set_cons_zero])
                  refine qw_take (by kernel_rfl) (fun K hK => ?_); go_simp; first | (refine hK _ ?_; clear hK K) | (apply Exists.intro; refine ⟨fun _ => ?_, hK _ ?_⟩; (first | with_reducible exact CV.out _ _); clear hK K)
                  refine qw_nil ?_
                  intro _ hw'
                  obtain ⟨⟨dq, osq⟩, hw''⟩ := hw'
                  subst hw''
                  have HBL := Lib.hid (hB.out.keep (below_regrown wr dq osq))
                  clear c0 x1 x2 CV
                  generalize Sort.grow (redrawn wr dq) osq = wl at *
                  go_wp2_with fail
                  go_ret
                  exact ⟨ret_bool HNO.out, HBL.out.bel⟩
                · have hle2 : decide (x ≤ p) = false := decide_eq_false (by omega)
                  by_cases hk0 : 0 < k
                  · obtain ⟨_, hy, hlt⟩ := hLt.resolve_left (by omega)
                    obtain ⟨b2, o2, hab, _, hc3⟩ := HPC.out (k - 1) (by omega)
                    simp only [Option.some.injEq, Addr.mk.injEq, and_true] at hab
                    obtain ⟨rfl, rfl⟩ := hab
                    have R0 := hc3 wr hB.out.bel
                    rw [hy] at R0
                    have hki : (0 : Int) < (k : Int) := by omega
                    have hkd : decide ((0 : Int) < (k : Int)) = true := by simp; omega
                    have hkn : ((k : Int) - 1).toNat = k - 1 := by omega
                    have hwk : IntKind.i64.wrap ((k : Int) - 1) = ((k - 1 : Nat) : Int) := by rw [IntKind.wrap_i64]; omega
                    have hkl : ((k - 1 : Nat) : Int) < (n : Int) := by omega
                    have hkz : (0 : Int) ≤ ((k - 1 : Nat) : Int) := by omega
                    by_cases hxt : x ≤ t
                    · have HNO := Lib.hid (hd.out.trans (up_not hkx hx hLt (by omega)))
                      have hld : decide (x ≤ t) = true := decide_eq_true hxt
                      clear hle hp hd hkx hx hLt ha hLL HPC hy hlt hc3
                      go_wp2_with fail
                      have c0 := fun d os => cell_regrown d0 d os
                      have x1 := fun d os => cell_regrown B1 d os
                      have x2 := fun d os => cell_regrown B2 d os
                      have r0 := fun d os => cell_regrown R0 d os
                      clear R0
                      clear d0 B1 B2
                      refine wp_region_qw (by kernel_rfl) (by kernel_rfl) ?_
                      iterate 36 (refine qw_take (by kernel_rfl) (fun K hK => ?_); go_simp; first | (refine hK _ ?_; clear hK K) | (apply Exists.intro; refine ⟨fun _ => ?_, hK _ ?_⟩; (first | with_reducible exact CV.out _ _); clear hK K))
                      refine qw_nil ?_
                      intro _ hw'
                      obtain ⟨⟨dq, osq⟩, hw''⟩ := hw'
                      subst hw''
                      have HBL := Lib.hid (hB.out.keep (below_regrown wr dq osq))
                      clear c0 x1 x2 r0 CV
                      generalize Sort.grow (redrawn wr dq) osq = wl at *
                      go_wp2_with fail
                      go_ret
                      exact ⟨ret_bool HNO.out, HBL.out.bel⟩
                    · have HGO := Lib.hid (hd.out.trans (up_next hkx hx hLt ha (by omega)))
                      have HLN := Lib.hid (last_next (low := l) hx (by omega))
                      have hld : decide (x ≤ t) = false := decide_eq_false hxt
                      clear hle hp hd hkx hx hLt ha hLL HPC hy hlt hc3
                      go_wp2_with fail
                      have c0 := fun d os => cell_regrown d0 d os
                      have x1 := fun d os => cell_regrown B1 d os
                      have x2 := fun d os => cell_regrown B2 d os
                      have r0 := fun d os => cell_regrown R0 d os
                      clear R0
                      clear d0 B1 B2
                      refine wp_region_qw (by kernel_rfl) (by kernel_rfl) ?_
                      iterate 36 (refine qw_take (by kernel_rfl) (fun K hK => ?_); go_simp; first | (refine hK _ ?_; clear hK K) | (apply Exists.intro; refine ⟨fun _ => ?_, hK _ ?_⟩; (first | with_reducible exact CV.out _ _); clear hK K))
                      refine qw_nil ?_
                      intro _ hw'
                      obtain ⟨⟨dq, osq⟩, hw''⟩ := hw'
                      subst hw''
                      have HBL := Lib.hid (hB.out.keep (below_regrown wr dq osq))
                      clear c0 x1 x2 r0 CV
                      generalize Sort.grow (redrawn wr dq) osq = wl at *
                      clear hki hkd hkn hwk hkl hkz hld hle2 hwp
                      go_wp2_with fail
                      go_roundw
                      case rel => exact ⟨k + 1, by omega, by go_num, ⟨x, HLN.out⟩, HGO, HBL⟩
                      case measure => simp [intOf]; omega
                  · obtain ⟨_, ht⟩ := hLt.resolve_right (by omega)
                    obtain rfl : k = 0 := by omega
                    rw [Nat.add_zero] at d0
                    have hki : (0 : Int) < (n : Int) := by omega
                    have hkd : decide ((0 : Int) < (0 : Int)) = false := rfl
                    have HGO := Lib.hid (hd.out.trans (up_next hkx hx hLt ha (by omega)))
                    have HLN := Lib.hid (last_next (low := l) hx (by omega))
                    clear hle hp hd hkx hx hLt ha hLL HPC ht
                    go_wp2_with fail
                    have c0 := fun d os => cell_regrown d0 d os
                    have x1 := fun d os => cell_regrown B1 d os
                    have x2 := fun d os => cell_regrown B2 d os
                    clear d0 B1 B2
                    refine wp_region_qw (by kernel_rfl) (by kernel_rfl) ?_
                    iterate 22 (refine qw_take (by kernel_rfl) (fun K hK => ?_); go_simp; first | (refine hK _ ?_; clear hK K) | (apply Exists.intro; refine ⟨fun _ => ?_, hK _ ?_⟩; (first | with_reducible exact CV.out _ _); clear hK K))
                    iterate 12 (refine qw_skip (by kernel_rfl) ?_; simp only [Act.put, List.setIfInBounds_toArray, List.set_cons_succ, List.set_cons_zero])
                    iterate 2 (refine qw_take (by kernel_rfl) (fun K hK => ?_); go_simp; first | (refine hK _ ?_; clear hK K) | (apply Exists.intro; refine ⟨fun _ => ?_, hK _ ?_⟩; (first | with_reducible exact CV.out _ _); clear hK K))
                    refine qw_nil ?_
                    intro _ hw'
                    obtain ⟨⟨dq, osq⟩, hw''⟩ := hw'
                    subst hw''
                    have HBL := Lib.hid (hB.out.keep (below_regrown wr dq osq))
                    clear c0 x1 x2 CV
                    generalize Sort.grow (redrawn wr dq) osq = wl at *
                    clear hki hkd hle2 hwp
                    go_wp2_with fail
                    go_roundw
                    case rel => exact ⟨1, by omega, by go_num, ⟨x, HLN.out⟩, HGO, HBL⟩
                    case measure => simp [intOf]; omega
            · obtain rfl : k = n := by omega
              have HNO := Lib.hid (hd.out.trans (up_done (by rw [HX.out.1]; exact hlk)))
              clear hd hL
              go_wp2_with fail
              go_ret
              exact ⟨ret_bool HNO.out, hB.out.bel⟩
        · go_enter Try.func10, Try.ntmps10
          go_wp2_with fail
          refine K.out.mono ?_
          rintro e w1 ⟨rfl, rfl⟩
          clear K
          go_wp2_with fail
          go_loopw [3] (fun i wr => ∃ k : Nat, k ≤ n ∧ i = .int .i64 (k : Int) ∧ Hid (∃ t, LastI l t xs k) ∧ Hid (v = upI l (xs.take k) (xs.drop k)) ∧ Hid (Bx3 24 w wr (.int .i64 2) (.int .i64 l) (.slice a n c))) (fun i _ => n - (intOf i).toNat)
          case atStart => exact ⟨0, Nat.zero_le _, rfl, ⟨l + 1, last_start l xs⟩, HV, bx3_new _ w _ _ _⟩
          case round =>
            obtain ⟨k, hk, rfl, hL, hd, hB⟩ := hrel
            obtain ⟨_, B1, B2⟩ := cells3 hB.out.box
            by_cases hlk : k < n
            · have hkx : k < xs.length := by rw [HX.out.1]; exact hlk
              obtain ⟨t, hLt⟩ := hL.out
              have hLL := last_low hLt
              have HPC := Lib.hid (fun m (hm : m < n) => (NsAt.at HX.out hm))
              obtain ⟨b1, o1, rfl, g1, hc1⟩ := NsAt.at HX.out hlk
              have d0 := hc1 wr hB.out.bel
              obtain ⟨x, hx⟩ : ∃ x, xs.getD k 0 = x := ⟨_, rfl⟩
              rw [hx] at d0
              have hkl1 : (k : Int) < (n : Int) := by omega
              have hkz1 : (0 : Int) ≤ (k : Int) := by omega
              clear hc1 g1 hL
              cases ha : amtI x with
              | false =>
                have HNO := Lib.hid (hd.out.trans (up_amt hkx hx hLt ha))
                have CV := Lib.hid (fun d os => Calls.regrown_of (nrfit_below x false ha (Sort.grow (redrawn wr d) os)))
                clear hd hkx hx hLt ha hLL HPC
                go_wp2_with fail
                have c0 := fun d os => cell_regrown d0 d os
                have x1 := fun d os => cell_regrown B1 d os
                have x2 := fun d os => cell_regrown B2 d os
                clear d0 B1 B2
                refine wp_region_qw (by kernel_rfl) (by kernel_rfl) ?_
                iterate 8 (refine qw_take (by kernel_rfl) (fun K hK => ?_); go_simp; first | (refine hK _ ?_; clear hK K) | (apply Exists.intro; refine ⟨fun _ => ?_, hK _ ?_⟩; (first | with_reducible exact CV.out _ _); clear hK K))
                iterate 9 (refine qw_skip (by kernel_rfl) ?_; simp only [Act.put, List.setIfInBounds_toArray, List.set_cons_succ, List.set_cons_zero])
                iterate 2 (refine qw_take (by kernel_rfl) (fun K hK => ?_); go_simp; first | (refine hK _ ?_; clear hK K) | (apply Exists.intro; refine ⟨fun _ => ?_, hK _ ?_⟩; (first | with_reducible exact CV.out _ _); clear hK K))
                iterate 16 (refine qw_skip (by kernel_rfl) ?_; simp only [Act.put, List.setIfInBounds_toArray, List.set_cons_succ, List.set_cons_zero])
                refine qw_take (by kernel_rfl) (fun K hK => ?_); go_simp; first | (refine hK _ ?_; clear hK K) | (apply Exists.intro; refine ⟨fun _ => ?_, hK _ ?_⟩; (first | with_reducible exact CV.out _ _); clear hK K)
                refine qw_nil ?_
                intro _ hw'
                obtain ⟨⟨dq, osq⟩, hw''⟩ := hw'
                subst hw''
                have HBL := Lib.hid (hB.out.keep (below_regrown wr dq osq))
                clear c0 x1 x2 CV
                generalize Sort.grow (redrawn wr dq) osq = wl at *
                go_wp2_with fail
                go_ret
                exact ⟨ret_bool HNO.out, HBL.out.bel⟩
              | true =>
                have CV := Lib.hid (fun d os => Calls.regrown_of (nrfit_below x true ha (Sort.grow (redrawn wr d) os)))
                obtain ⟨p, hp⟩ : ∃ p, l + 1 = p := ⟨_, rfl⟩
                have hwp : IntKind.i64.wrap (l + 1) = p := by rw [IntKind.wrap_i64, ← hp]; omega
                by_cases hle : x ≤ l + 1
                · have HNO := Lib.hid (hd.out.trans (up_not hkx hx hLt (by omega)))
                  have hle2 : decide (x ≤ p) = true := decide_eq_true (by omega)
                  clear hle hp hd hkx hx hLt ha hLL HPC
                  go_wp2_with fail
                  have c0 := fun d os => cell_regrown d0 d os
                  have x1 := fun d os => cell_regrown B1 d os
                  have x2 := fun d os => cell_regrown B2 d os
                  clear d0 B1 B2
                  refine wp_region_qw (by kernel_rfl) (by kernel_rfl) ?_
                  iterate 19 (refine qw_take (by kernel_rfl) (fun K hK => ?_); go_simp; first | (refine hK _ ?_; clear hK K) | (apply Exists.intro; refine ⟨fun _ => ?_, hK _ ?_⟩; (first | with_reducible exact CV.out _ _); clear hK K))
                  iterate 16 (refine qw_skip (by kernel_rfl) ?_; simp only [Act.put, List.setIfInBounds_toArray, List.set_cons_succ, List.set_cons_zero])
                  refine qw_take (by kernel_rfl) (fun K hK => ?_); go_simp; first | (refine hK _ ?_; clear hK K) | (apply Exists.intro; refine ⟨fun _ => ?_, hK _ ?_⟩; (first | with_reducible exact CV.out _ _); clear hK K)
                  refine qw_nil ?_
                  intro _ hw'
                  obtain ⟨⟨dq, osq⟩, hw''⟩ := hw'
                  subst hw''
                  have HBL := Lib.hid (hB.out.keep (below_regrown wr dq osq))
                  clear c0 x1 x2 CV
                  generalize Sort.grow (redrawn wr dq) osq = wl at *
                  go_wp2_with fail
                  go_ret
                  exact ⟨ret_bool HNO.out, HBL.out.bel⟩
                · have hle2 : decide (x ≤ p) = false := decide_eq_false (by omega)
                  by_cases hk0 : 0 < k
                  · obtain ⟨_, hy, hlt⟩ := hLt.resolve_left (by omega)
                    obtain ⟨b2, o2, hab, _, hc3⟩ := HPC.out (k - 1) (by omega)
                    simp only [Option.some.injEq, Addr.mk.injEq, and_true] at hab
                    obtain ⟨rfl, rfl⟩ := hab
                    have R0 := hc3 wr hB.out.bel
                    rw [hy] at R0
                    have hki : (0 : Int) < (k : Int) := by omega
                    have hkd : decide ((0 : Int) < (k : Int)) = true := by simp; omega
                    have hkn : ((k : Int) - 1).toNat = k - 1 := by omega
                    have hwk : IntKind.i64.wrap ((k : Int) - 1) = ((k - 1 : Nat) : Int) := by rw [IntKind.wrap_i64]; omega
                    have hkl : ((k - 1 : Nat) : Int) < (n : Int) := by omega
                    have hkz : (0 : Int) ≤ ((k - 1 : Nat) : Int) := by omega
                    by_cases hxt : x ≤ t
                    · have HNO := Lib.hid (hd.out.trans (up_not hkx hx hLt (by omega)))
                      have hld : decide (x ≤ t) = true := decide_eq_true hxt
                      clear hle hp hd hkx hx hLt ha hLL HPC hy hlt hc3
                      go_wp2_with fail
                      have c0 := fun d os => cell_regrown d0 d os
                      have x1 := fun d os => cell_regrown B1 d os
                      have x2 := fun d os => cell_regrown B2 d os
                      have r0 := fun d os => cell_regrown R0 d os
                      clear R0
                      clear d0 B1 B2
                      refine wp_region_qw (by kernel_rfl) (by kernel_rfl) ?_
                      iterate 36 (refine qw_take (by kernel_rfl) (fun K hK => ?_); go_simp; first | (refine hK _ ?_; clear hK K) | (apply Exists.intro; refine ⟨fun _ => ?_, hK _ ?_⟩; (first | with_reducible exact CV.out _ _); clear hK K))
                      refine qw_nil ?_
                      intro _ hw'
                      obtain ⟨⟨dq, osq⟩, hw''⟩ := hw'
                      subst hw''
                      have HBL := Lib.hid (hB.out.keep (below_regrown wr dq osq))
                      clear c0 x1 x2 r0 CV
                      generalize Sort.grow (redrawn wr dq) osq = wl at *
                      go_wp2_with fail
                      go_ret
                      exact ⟨ret_bool HNO.out, HBL.out.bel⟩
                    · have HGO := Lib.hid (hd.out.trans (up_next hkx hx hLt ha (by omega)))
                      have HLN := Lib.hid (last_next (low := l) hx (by omega))
                      have hld : decide (x ≤ t) = false := decide_eq_false hxt
                      clear hle hp hd hkx hx hLt ha hLL HPC hy hlt hc3
                      go_wp2_with fail
                      have c0 := fun d os => cell_regrown d0 d os
                      have x1 := fun d os => cell_regrown B1 d os
                      have x2 := fun d os => cell_regrown B2 d os
                      have r0 := fun d os => cell_regrown R0 d os
                      clear R0
                      clear d0 B1 B2
                      refine wp_region_qw (by kernel_rfl) (by kernel_rfl) ?_
                      iterate 36 (refine qw_take (by kernel_rfl) (fun K hK => ?_); go_simp; first | (refine hK _ ?_; clear hK K) | (apply Exists.intro; refine ⟨fun _ => ?_, hK _ ?_⟩; (first | with_reducible exact CV.out _ _); clear hK K))
                      refine qw_nil ?_
                      intro _ hw'
                      obtain ⟨⟨dq, osq⟩, hw''⟩ := hw'
                      subst hw''
                      have HBL := Lib.hid (hB.out.keep (below_regrown wr dq osq))
                      clear c0 x1 x2 r0 CV
                      generalize Sort.grow (redrawn wr dq) osq = wl at *
                      clear hki hkd hkn hwk hkl hkz hld hle2 hwp
                      go_wp2_with fail
                      go_roundw
                      case rel => exact ⟨k + 1, by omega, by go_num, ⟨x, HLN.out⟩, HGO, HBL⟩
                      case measure => simp [intOf]; omega
                  · obtain ⟨_, ht⟩ := hLt.resolve_right (by omega)
                    obtain rfl : k = 0 := by omega
                    rw [Nat.add_zero] at d0
                    have hki : (0 : Int) < (n : Int) := by omega
                    have hkd : decide ((0 : Int) < (0 : Int)) = false := rfl
                    have HGO := Lib.hid (hd.out.trans (up_next hkx hx hLt ha (by omega)))
                    have HLN := Lib.hid (last_next (low := l) hx (by omega))
                    clear hle hp hd hkx hx hLt ha hLL HPC ht
                    go_wp2_with fail
                    have c0 := fun d os => cell_regrown d0 d os
                    have x1 := fun d os => cell_regrown B1 d os
                    have x2 := fun d os => cell_regrown B2 d os
                    clear d0 B1 B2
                    refine wp_region_qw (by kernel_rfl) (by kernel_rfl) ?_
                    iterate 22 (refine qw_take (by kernel_rfl) (fun K hK => ?_); go_simp; first | (refine hK _ ?_; clear hK K) | (apply Exists.intro; refine ⟨fun _ => ?_, hK _ ?_⟩; (first | with_reducible exact CV.out _ _); clear hK K))
                    iterate 12 (refine qw_skip (by kernel_rfl) ?_; simp only [Act.put, List.setIfInBounds_toArray, List.set_cons_succ, List.set_cons_zero])
                    iterate 2 (refine qw_take (by kernel_rfl) (fun K hK => ?_); go_simp; first | (refine hK _ ?_; clear hK K) | (apply Exists.intro; refine ⟨fun _ => ?_, hK _ ?_⟩; (first | with_reducible exact CV.out _ _); clear hK K))
                    refine qw_nil ?_
                    intro _ hw'
                    obtain ⟨⟨dq, osq⟩, hw''⟩ := hw'
                    subst hw''
                    have HBL := Lib.hid (hB.out.keep (below_regrown wr dq osq))
                    clear c0 x1 x2 CV
                    generalize Sort.grow (redrawn wr dq) osq = wl at *
                    clear hki hkd hle2 hwp
                    go_wp2_with fail
                    go_roundw
                    case rel => exact ⟨1, by omega, by go_num, ⟨x, HLN.out⟩, HGO, HBL⟩
                    case measure => simp [intOf]; omega
            · obtain rfl : k = n := by omega
              have HNO := Lib.hid (hd.out.trans (up_done (by rw [HX.out.1]; exact hlk)))
              clear hd hL
              go_wp2_with fail
              go_ret
              exact ⟨ret_bool HNO.out, hB.out.bel⟩
      · have HNO : Hid (v = false) := hv.symm.trans (fit_long h16)
        have e0 : (16 : Int) < (n : Int) := by have := h.1; omega
        clear hv h ha h16
        rcases hs with rfl | rfl
        all_goals
          go_enter Try.func10, Try.ntmps10
          go_wp2_with fail
          refine K.out.mono ?_
          rintro e w1 ⟨rfl, rfl⟩
          go_wp2_with fail
          go_ret
          exact ⟨ret_bool HNO.out, HB.out⟩
  · have h1 : ¬ s = 1 := fun e => hs (.inl e)
    have h2 : ¬ s = 2 := fun e => hs (.inr e)
    have HNO : Hid (v = false) := hv.symm.trans (fit_sv h1 h2)
    have g1 : (s != 1) = true := bne_iff_ne.2 h1
    have g2 : (s != 2) = true := bne_iff_ne.2 h2
    clear hv h hs h1 h2
    go_enter Try.func10, Try.ntmps10
    go_wp2_with fail
    go_ret
    exact ⟨ret_bool HNO.out, HB.out⟩
end Go.Proofs.Ytbnneibceilcjaa.Inbox
