/-
  The contract of Fit: any entries; what was there stays as it was.
-/
import Derived.Test.YtamcidlkbhanfaaOutboxF
import Derived.Deep.RegionHeld3
set_option linter.unusedVariables false
set_option linter.unusedSimpArgs false
set_option maxRecDepth 4000
set_option maxRecDepth 4000
namespace Go.Proofs.Ytamcidlkbhanfaa.Outbox
open Go.RowKit OutP
open Go.Proofs.Ytamcidlkbhanfaa.Kt

theorem djoin {G : Prop} {F P : World → Nat → Prop} (main : (∀ w p, F w p → P w p) → G) (pf : ∀ w p, F w p → P w p) : G := main pf
theorem find_is (a : Option Addr) (len cap : Nat) (l : List En) (g : Int) (z0 z1 z2 : Int) (z3 : Bool) (z4 z5 : Int) (z6 : Bool) (b : Bool) (hz : getE (findE g l) = ⟨z0, z1, z2, z3, z4, z5, z6⟩) (hb : (findE g l).isSome = b) (hlen : len ≤ 1000000) (w : World) (h : EnAt w a len l) :
    Calls Try.prog 51 #[.slice a len cap, .int .i64 g] w fun e w' => e = .returned (.tuple #[.agg #[.int .i64 z0, .int .i64 z1, .int .i64 z2, .bool z3, .int .i64 z4, .int .i64 z5, .bool z6], .bool b]) ∧ Below w.heap.size w w' := by
  have := find_any a len cap l g _ rfl hlen w h
  rw [hz, hb] at this
  exact this
set_option maxHeartbeats 8000000 in
theorem fit_any (a : Option Addr) (len cap : Nat) (l : List En) (hcap : len ≤ cap) (v : Bool) (hv : fitB l = v) (w : World) (h : EnAt w a len l) :
    Calls Try.prog 34 #[.slice a len cap] w fun e w' => e = .returned (.bool v) ∧ Below w.heap.size w w' := by
  have hl := h.2.1
  by_cases h16 : 16 < len
  · have HNO : Hid (v = false) := hv.symm.trans (fitB_long (by rw [h.1]; exact h16))
    have e0 : (16 : Int) < (len : Int) := by omega
    clear h hv
    go_enter Try.func34, Try.ntmps34
    go_wp2_with fail
    go_ret
    exact ⟨ret_bool HNO.out, Below.refl _ _⟩
  have e0 : ¬ ((16 : Int) < (len : Int)) := by omega
  have HV : Hid (v = fitUp (l.take 0) (l.drop 0)) := hv.symm.trans (fitB_short (by rw [h.1]; exact h16))
  have HX := Lib.hid h
  clear h hv
  go_enter Try.func34, Try.ntmps34
  go_wp2_with fail
  go_loopw [12] (fun i wr => ∃ k : Nat, k ≤ len ∧ i = .int .i64 (k : Int) ∧ Hid (v = fitUp (l.take k) (l.drop k)) ∧ Hid (Below w.heap.size w wr)) (fun i _ => len - (intOf i).toNat)
  case atStart => exact ⟨0, Nat.zero_le _, rfl, HV, Below.refl _ w⟩
  case round =>
    obtain ⟨k, hk, rfl, hd, hB⟩ := hrel
    by_cases hlk : k < len
    · have hkx : k < l.length := by rw [HX.out.1]; exact hlk
      obtain ⟨b1, o1, x0, x1, x2, x3, x4, x5, x6, rfl, g1, hp, hc1⟩ := EnAt.at HX.out hlk
      obtain ⟨d0, d1, d2, d3, d4, d5, d6⟩ := hc1 wr hB.out
      have HBX := bx7_new 23 wr (.int .i64 x0) (.int .i64 x1) (.int .i64 x2) (.bool x3) (.int .i64 x4) (.int .i64 x5) (.bool x6)
      obtain ⟨wb, hwb⟩ : ∃ wb, wr.alloc (.cells #[.int .i64 x0, .int .i64 x1, .int .i64 x2, .bool x3, .int .i64 x4, .int .i64 x5, .bool x6] 23) = wb := ⟨_, rfl⟩
      rw [hwb] at HBX
      have HBX := Lib.hid HBX
      have HW := Lib.hid hwb
      have HPC := Lib.hid (fun m (hm : m < len) => (EnAt.at HX.out hm))
      clear hc1 g1 hwb
      cases h1 : oneE ⟨x0, x1, x2, x3, x4, x5, x6⟩ with
      | false =>
        have HNO := Lib.hid (hd.out.trans (fit_one hkx hp h1))
        have CV := Lib.hid (fun d os => Calls.regrown_of (valid_is x0 x1 x2 x3 x4 x5 x6 false h1 (Sort.grow (redrawn wb d) os)))
        clear hd hp hkx h1
        go_wp2_with fail
        rw [show wr.alloc (.cells #[.int .i64 x0, .int .i64 x1, .int .i64 x2, .bool x3, .int .i64 x4, .int .i64 x5, .bool x6] 23) = wb from HW.out]
        clear d0 d1 d2 d3 d4 d5 d6
        obtain ⟨C0, C1, C2, C3, C4, C5, C6⟩ := cells7 HBX.out.box
        have c0 := fun d os => cell_regrown C0 d os
        have c1 := fun d os => cell_regrown C1 d os
        have c2 := fun d os => cell_regrown C2 d os
        have c3 := fun d os => cell_regrown C3 d os
        have c4 := fun d os => cell_regrown C4 d os
        have c5 := fun d os => cell_regrown C5 d os
        have c6 := fun d os => cell_regrown C6 d os
        clear C0 C1 C2 C3 C4 C5 C6
        refine wp_region_qw (by kernel_rfl) (by kernel_rfl) ?_
        iterate 4 (refine qw_take (by kernel_rfl) (fun K hK => ?_); go_simp; first | (refine hK _ ?_; clear hK K) | (apply Exists.intro; refine ⟨fun _ => ?_, hK _ ?_⟩; (first | with_reducible exact CV.out _ _); clear hK K))
        iterate 13 (refine qw_skip (by kernel_rfl) ?_; simp only [Act.put, List.setIfInBounds_toArray, List.set_cons_succ, List.set_cons_zero])
        refine qw_take (by kernel_rfl) (fun K hK => ?_); go_simp; first | (refine hK _ ?_; clear hK K) | (apply Exists.intro; refine ⟨fun _ => ?_, hK _ ?_⟩; (first | with_reducible exact CV.out _ _); clear hK K)
        refine qw_nil ?_
        intro _ hw'
        obtain ⟨⟨dq, osq⟩, hw''⟩ := hw'
        subst hw''
        have HBL := Lib.hid (HBX.out.keep (below_regrown wb dq osq))
        clear c0 c1 c2 c3 c4 c5 c6 CV
        generalize Sort.grow (redrawn wb dq) osq = wl at *
        go_wp2_with fail
        go_ret
        exact ⟨ret_bool HNO.out, below_keep hB.out HBL.out.bel hB.out.size⟩
      | true =>
        have CV := Lib.hid (fun d os => Calls.regrown_of (valid_is x0 x1 x2 x3 x4 x5 x6 true h1 (Sort.grow (redrawn wb d) os)))
        by_cases hk0 : 0 < k
        · have hkm : k - 1 < len := by omega
          obtain ⟨b2, o2, y0, y1, y2, y3, y4, y5, y6, hab, _, hy, hc3⟩ := HPC.out (k - 1) hkm
          simp only [Option.some.injEq, Addr.mk.injEq, and_true] at hab
          obtain ⟨rfl, rfl⟩ := hab
          obtain ⟨R0, _, _, _, _, _, _⟩ := hc3 wb (below_keep hB.out HBX.out.bel hB.out.size)
          have hki : (0 : Int) < (k : Int) := by omega
          have hkd : decide ((0 : Int) < (k : Int)) = true := by simp; omega
          have hkn : ((k : Int) - 1).toNat = k - 1 := by omega
          have hwk : IntKind.i64.wrap ((k : Int) - 1) = ((k - 1 : Nat) : Int) := by rw [IntKind.wrap_i64]; omega
          have hkl : ((k - 1 : Nat) : Int) < (len : Int) := by omega
          have hkz : (0 : Int) ≤ ((k - 1 : Nat) : Int) := by omega
          by_cases ha : y0 < x0
          · have hlast := last_yes hkx hp hk0 hy ha
            have hle : decide (x0 ≤ y0) = false := by simp; omega
            clear ha hy hc3
            go_wp2_with fail
            rw [show wr.alloc (.cells #[.int .i64 x0, .int .i64 x1, .int .i64 x2, .bool x3, .int .i64 x4, .int .i64 x5, .bool x6] 23) = wb from HW.out]
            clear d0 d1 d2 d3 d4 d5 d6
            obtain ⟨C0, C1, C2, C3, C4, C5, C6⟩ := cells7 HBX.out.box
            have c0 := fun d os => cell_regrown C0 d os
            have c1 := fun d os => cell_regrown C1 d os
            have c2 := fun d os => cell_regrown C2 d os
            have c3 := fun d os => cell_regrown C3 d os
            have c4 := fun d os => cell_regrown C4 d os
            have c5 := fun d os => cell_regrown C5 d os
            have c6 := fun d os => cell_regrown C6 d os
            have r0 := fun d os => cell_regrown R0 d os
            clear C0 C1 C2 C3 C4 C5 C6 R0
            refine wp_region_qw (by kernel_rfl) (by kernel_rfl) ?_
            iterate 18 (refine qw_take (by kernel_rfl) (fun K hK => ?_); go_simp; first | (refine hK _ ?_; clear hK K) | (apply Exists.intro; refine ⟨fun _ => ?_, hK _ ?_⟩; (first | with_reducible exact CV.out _ _); clear hK K))
            refine qw_nil ?_
            intro _ hw'
            obtain ⟨⟨dq, osq⟩, hw''⟩ := hw'
            subst hw''
            have HBL := Lib.hid (HBX.out.keep (below_regrown wb dq osq))
            clear c0 c1 c2 c3 c4 c5 c6 r0 CV
            generalize Sort.grow (redrawn wb dq) osq = wl at *
            clear hki hkd hkn hwk hkl hkz hle hkm
            obtain ⟨z0, z1, z2, z3, z4, z5, z6, hz⟩ := en_split (getE (findE x1 (l.take k)))
            have K : Hid (∀ w', Below wl.heap.size wl w' → w'.cell? ⟨wr.heap.size, 1, none⟩ = some (.int .i64 x1)) := fun w' hb => (cells7 (HBL.out.box.keep hb)).2.1
            have hi0 : (0 : Int) ≤ (k : Int) := by omega
            have hi1 : (k : Int) ≤ (cap : Int) := by omega
            have hi2 : k ≤ cap := by omega
            go_wp2_with fail
            have CF := Lib.hid (fun (b : Bool) (hb : (findE x1 (l.take k)).isSome = b) (W : World) (hW : Below wl.heap.size wl W) => find_is (some ⟨b1, o1, none⟩) k cap (l.take k) x1 z0 z1 z2 z3 z4 z5 z6 b hz hb (by omega) W (Rw.part_take (HX.out.keep (below_keep (below_keep hB.out HBL.out.bel hB.out.size) hW (below_keep hB.out HBL.out.bel hB.out.size).size)) (by omega)))
            obtain ⟨bf, hbf⟩ : ∃ bf, (findE x1 (l.take k)).isSome = bf := ⟨_, rfl⟩
            have CF := Lib.hid (CF.out bf hbf)
            clear hz
            apply djoin (F := fun W p => Below wl.heap.size wl W)
            · intro hG
              have b0 : Below wl.heap.size wl wl.drew := (Below.refl _ wl).drew
              have b1' : Below wl.heap.size wl (wl.alloc (.cells #[.int .i64 0, .int .i64 0, .int .i64 0, .bool false, .int .i64 0, .int .i64 0, .bool false] 23)).drew := ((Below.refl _ wl).alloc (Nat.le_refl _) _).drew
              have k0 := K.out _ b0
              have k1 := K.out _ b1'
              have k2 := K.out _ ((Below.refl _ wl).alloc (Nat.le_refl _) (.cells #[.int .i64 0, .int .i64 0, .int .i64 0, .bool false, .int .i64 0, .int .i64 0, .bool false] 23))
              go_region_held3 (fun w' => w'.cell? ⟨wr.heap.size, 1, none⟩ = some (.int .i64 x1))
                (first | with_reducible exact k0 | with_reducible exact k1 | with_reducible exact k2 | with_reducible exact k4 | with_reducible exact k5 | with_reducible exact k6)
                (first
                  | ((with_reducible refine (CF.out (wl.alloc (.cells #[.int .i64 0, .int .i64 0, .int .i64 0, .bool false, .int .i64 0, .int .i64 0, .bool false] 23)).drew b1').mono ?_); rintro e v4 ⟨rfl, hb4⟩; have b4 := below_keep b1' hb4 b1'.size; have k4 := K.out _ b4; have hz4 := (at7_new 23 wl (.int .i64 0) (.int .i64 0) (.int .i64 0) (.bool false) (.int .i64 0) (.int .i64 0) (.bool false)).drew.keep hb4; obtain ⟨s0, s1, s2, s3, s4, s5, s6⟩ := cells7 hz4; obtain ⟨s7, s8, s9, s10, s11, s12, s13⟩ := free7 hz4; have k5 := K.out _ (below_put7 b4 (Nat.le_refl _) (.int .i64 z0) (.int .i64 z1) (.int .i64 z2) (.bool z3) (.int .i64 z4) (.int .i64 z5) (.bool z6)))
                  | ((with_reducible refine (CF.out wl.drew b0).mono ?_); rintro e v4 ⟨rfl, hb4⟩; have b4 := below_keep b0 hb4 b0.size; have k4 := K.out _ b4; have k5 := K.out _ (b4.alloc b4.size (.cells #[.int .i64 0, .int .i64 0, .int .i64 0, .bool false, .int .i64 0, .int .i64 0, .bool false] 23)); have k6 := K.out _ (b4.alloc b4.size (.cells #[.int .i64 z0, .int .i64 z1, .int .i64 z2, .bool z3, .int .i64 z4, .int .i64 z5, .bool z6] 23))))
              · have hF : Below wl.heap.size wl (v4.alloc (.cells #[.int .i64 z0, .int .i64 z1, .int .i64 z2, .bool z3, .int .i64 z4, .int .i64 z5, .bool z6] 23)) := b4.alloc b4.size _
                generalize v4.alloc (.cells #[.int .i64 z0, .int .i64 z1, .int .i64 z2, .bool z3, .int .i64 z4, .int .i64 z5, .bool z6] 23) = W at hF ⊢
                generalize v4.heap.size = p
                exact hG W p hF
              · have hF := below_put7 b4 (Nat.le_refl _) (.int .i64 z0) (.int .i64 z1) (.int .i64 z2) (.bool z3) (.int .i64 z4) (.int .i64 z5) (.bool z6)
                have hg := hG _ wl.heap.size hF
                exact hg
            · intro W p hF
              have HBW := Lib.hid (below_keep (below_keep hB.out HBL.out.bel hB.out.size) hF (below_keep hB.out HBL.out.bel hB.out.size).size)
              clear hF K CF
              cases bf with
              | true =>
                have HNO := Lib.hid (hd.out.trans (fit_twice hkx hp hbf))
                clear hd hp hkx hbf hlast h1
                go_wp2_with fail
                go_ret
                exact ⟨ret_bool HNO.out, HBW.out⟩
              | false =>
                have HGO := Lib.hid (hd.out.trans (fit_next hkx hp h1 hlast hbf))
                clear hd hp hkx hbf hlast h1
                go_wp2_with fail
                go_roundw
                case rel => exact ⟨k + 1, by omega, by go_num, HGO, HBW⟩
                case measure => simp [intOf]; omega
          · have HNO := Lib.hid (hd.out.trans (fit_last hkx hp hk0 hy ha))
            have hle : decide (x0 ≤ y0) = true := by simp; omega
            clear hd hp hkx h1 ha hy hc3
            go_wp2_with fail
            rw [show wr.alloc (.cells #[.int .i64 x0, .int .i64 x1, .int .i64 x2, .bool x3, .int .i64 x4, .int .i64 x5, .bool x6] 23) = wb from HW.out]
            clear d0 d1 d2 d3 d4 d5 d6
            obtain ⟨C0, C1, C2, C3, C4, C5, C6⟩ := cells7 HBX.out.box
            have c0 := fun d os => cell_regrown C0 d os
            have c1 := fun d os => cell_regrown C1 d os
            have c2 := fun d os => cell_regrown C2 d os
            have c3 := fun d os => cell_regrown C3 d os
            have c4 := fun d os => cell_regrown C4 d os
            have c5 := fun d os => cell_regrown C5 d os
            have c6 := fun d os => cell_regrown C6 d os
            have r0 := fun d os => cell_regrown R0 d os
            clear C0 C1 C2 C3 C4 C5 C6 R0
            refine wp_region_qw (by kernel_rfl) (by kernel_rfl) ?_
            iterate 18 (refine qw_take (by kernel_rfl) (fun K hK => ?_); go_simp; first | (refine hK _ ?_; clear hK K) | (apply Exists.intro; refine ⟨fun _ => ?_, hK _ ?_⟩; (first | with_reducible exact CV.out _ _); clear hK K))
            refine qw_nil ?_
            intro _ hw'
            obtain ⟨⟨dq, osq⟩, hw''⟩ := hw'
            subst hw''
            have HBL := Lib.hid (HBX.out.keep (below_regrown wb dq osq))
            clear c0 c1 c2 c3 c4 c5 c6 r0 CV
            generalize Sort.grow (redrawn wb dq) osq = wl at *
            go_wp2_with fail
            go_ret
            exact ⟨ret_bool HNO.out, below_keep hB.out HBL.out.bel hB.out.size⟩
        · have hlast : lastOk (l.take k) ⟨x0, x1, x2, x3, x4, x5, x6⟩ = true := by rw [show k = 0 by omega]; rfl
          have hki : ¬ (0 : Int) < (k : Int) := by omega
          have hkd : decide ((0 : Int) < (k : Int)) = false := by simp; omega
          go_wp2_with fail
          rw [show wr.alloc (.cells #[.int .i64 x0, .int .i64 x1, .int .i64 x2, .bool x3, .int .i64 x4, .int .i64 x5, .bool x6] 23) = wb from HW.out]
          clear d0 d1 d2 d3 d4 d5 d6
          obtain ⟨C0, C1, C2, C3, C4, C5, C6⟩ := cells7 HBX.out.box
          have c0 := fun d os => cell_regrown C0 d os
          have c1 := fun d os => cell_regrown C1 d os
          have c2 := fun d os => cell_regrown C2 d os
          have c3 := fun d os => cell_regrown C3 d os
          have c4 := fun d os => cell_regrown C4 d os
          have c5 := fun d os => cell_regrown C5 d os
          have c6 := fun d os => cell_regrown C6 d os
          clear C0 C1 C2 C3 C4 C5 C6
          refine wp_region_qw (by kernel_rfl) (by kernel_rfl) ?_
          iterate 7 (refine qw_take (by kernel_rfl) (fun K hK => ?_); go_simp; first | (refine hK _ ?_; clear hK K) | (apply Exists.intro; refine ⟨fun _ => ?_, hK _ ?_⟩; (first | with_reducible exact CV.out _ _); clear hK K))
          iterate 9 (refine qw_skip (by kernel_rfl) ?_; simp only [Act.put, List.setIfInBounds_toArray, List.set_cons_succ, List.set_cons_zero])
          iterate 2 (refine qw_take (by kernel_rfl) (fun K hK => ?_); go_simp; first | (refine hK _ ?_; clear hK K) | (apply Exists.intro; refine ⟨fun _ => ?_, hK _ ?_⟩; (first | with_reducible exact CV.out _ _); clear hK K))
          refine qw_nil ?_
          intro _ hw'
          obtain ⟨⟨dq, osq⟩, hw''⟩ := hw'
          subst hw''
          have HBL := Lib.hid (HBX.out.keep (below_regrown wb dq osq))
          clear c0 c1 c2 c3 c4 c5 c6 CV
          generalize Sort.grow (redrawn wb dq) osq = wl at *
          clear hki hkd
          obtain ⟨z0, z1, z2, z3, z4, z5, z6, hz⟩ := en_split (getE (findE x1 (l.take k)))
          have K : Hid (∀ w', Below wl.heap.size wl w' → w'.cell? ⟨wr.heap.size, 1, none⟩ = some (.int .i64 x1)) := fun w' hb => (cells7 (HBL.out.box.keep hb)).2.1
          have hi0 : (0 : Int) ≤ (k : Int) := by omega
          have hi1 : (k : Int) ≤ (cap : Int) := by omega
          have hi2 : k ≤ cap := by omega
          go_wp2_with fail
          have CF := Lib.hid (fun (b : Bool) (hb : (findE x1 (l.take k)).isSome = b) (W : World) (hW : Below wl.heap.size wl W) => find_is (some ⟨b1, o1, none⟩) k cap (l.take k) x1 z0 z1 z2 z3 z4 z5 z6 b hz hb (by omega) W (Rw.part_take (HX.out.keep (below_keep (below_keep hB.out HBL.out.bel hB.out.size) hW (below_keep hB.out HBL.out.bel hB.out.size).size)) (by omega)))
          obtain ⟨bf, hbf⟩ : ∃ bf, (findE x1 (l.take k)).isSome = bf := ⟨_, rfl⟩
          have CF := Lib.hid (CF.out bf hbf)
          clear hz
          apply djoin (F := fun W p => Below wl.heap.size wl W)
          · intro hG
            have b0 : Below wl.heap.size wl wl.drew := (Below.refl _ wl).drew
            have b1' : Below wl.heap.size wl (wl.alloc (.cells #[.int .i64 0, .int .i64 0, .int .i64 0, .bool false, .int .i64 0, .int .i64 0, .bool false] 23)).drew := ((Below.refl _ wl).alloc (Nat.le_refl _) _).drew
            have k0 := K.out _ b0
            have k1 := K.out _ b1'
            have k2 := K.out _ ((Below.refl _ wl).alloc (Nat.le_refl _) (.cells #[.int .i64 0, .int .i64 0, .int .i64 0, .bool false, .int .i64 0, .int .i64 0, .bool false] 23))
            go_region_held3 (fun w' => w'.cell? ⟨wr.heap.size, 1, none⟩ = some (.int .i64 x1))
              (first | with_reducible exact k0 | with_reducible exact k1 | with_reducible exact k2 | with_reducible exact k4 | with_reducible exact k5 | with_reducible exact k6)
              (first
                | ((with_reducible refine (CF.out (wl.alloc (.cells #[.int .i64 0, .int .i64 0, .int .i64 0, .bool false, .int .i64 0, .int .i64 0, .bool false] 23)).drew b1').mono ?_); rintro e v4 ⟨rfl, hb4⟩; have b4 := below_keep b1' hb4 b1'.size; have k4 := K.out _ b4; have hz4 := (at7_new 23 wl (.int .i64 0) (.int .i64 0) (.int .i64 0) (.bool false) (.int .i64 0) (.int .i64 0) (.bool false)).drew.keep hb4; obtain ⟨s0, s1, s2, s3, s4, s5, s6⟩ := cells7 hz4; obtain ⟨s7, s8, s9, s10, s11, s12, s13⟩ := free7 hz4; have k5 := K.out _ (below_put7 b4 (Nat.le_refl _) (.int .i64 z0) (.int .i64 z1) (.int .i64 z2) (.bool z3) (.int .i64 z4) (.int .i64 z5) (.bool z6)))
                | ((with_reducible refine (CF.out wl.drew b0).mono ?_); rintro e v4 ⟨rfl, hb4⟩; have b4 := below_keep b0 hb4 b0.size; have k4 := K.out _ b4; have k5 := K.out _ (b4.alloc b4.size (.cells #[.int .i64 0, .int .i64 0, .int .i64 0, .bool false, .int .i64 0, .int .i64 0, .bool false] 23)); have k6 := K.out _ (b4.alloc b4.size (.cells #[.int .i64 z0, .int .i64 z1, .int .i64 z2, .bool z3, .int .i64 z4, .int .i64 z5, .bool z6] 23))))
            · have hF : Below wl.heap.size wl (v4.alloc (.cells #[.int .i64 z0, .int .i64 z1, .int .i64 z2, .bool z3, .int .i64 z4, .int .i64 z5, .bool z6] 23)) := b4.alloc b4.size _
              generalize v4.alloc (.cells #[.int .i64 z0, .int .i64 z1, .int .i64 z2, .bool z3, .int .i64 z4, .int .i64 z5, .bool z6] 23) = W at hF ⊢
              generalize v4.heap.size = p
              exact hG W p hF
            · have hF := below_put7 b4 (Nat.le_refl _) (.int .i64 z0) (.int .i64 z1) (.int .i64 z2) (.bool z3) (.int .i64 z4) (.int .i64 z5) (.bool z6)
              have hg := hG _ wl.heap.size hF
              exact hg
          · intro W p hF
            have HBW := Lib.hid (below_keep (below_keep hB.out HBL.out.bel hB.out.size) hF (below_keep hB.out HBL.out.bel hB.out.size).size)
            clear hF K CF
            cases bf with
            | true =>
              have HNO := Lib.hid (hd.out.trans (fit_twice hkx hp hbf))
              clear hd hp hkx hbf hlast h1
              go_wp2_with fail
              go_ret
              exact ⟨ret_bool HNO.out, HBW.out⟩
            | false =>
              have HGO := Lib.hid (hd.out.trans (fit_next hkx hp h1 hlast hbf))
              clear hd hp hkx hbf hlast h1
              go_wp2_with fail
              go_roundw
              case rel => exact ⟨k + 1, by omega, by go_num, HGO, HBW⟩
              case measure => simp [intOf]; omega
    · obtain rfl : k = len := by omega
      have HYES := Lib.hid (hd.out.trans (fit_done (by rw [HX.out.1]; exact hlk)))
      clear hd
      go_wp2_with fail
      go_ret
      exact ⟨ret_bool HYES.out, hB.out⟩
end Go.Proofs.Ytamcidlkbhanfaa.Outbox
