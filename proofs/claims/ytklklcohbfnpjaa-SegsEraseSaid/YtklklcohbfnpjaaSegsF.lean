/-
  The contract of the document's Erase: any disk, any sectors.
-/
import Derived.Test.YtklklcohbfnpjaaSegsE
import Derived.Test.YtklklcohbfnpjaaMix
set_option linter.unusedVariables false
set_option maxRecDepth 4000
namespace Go.Proofs.Ytklklcohbfnpjaa
open Go.RowKit DiskP SegsP
open Ints (IntsAt IntsAt.keep)

set_option maxHeartbeats 2000000 in
theorem rerase_rk (b n : Nat) (st : St) (L : List Nat) (a : Option Addr) (len cap : Nat) (xs : List Int) (w : World) (h : Rk w L b st) (hok : Ok n st) (hn : n + len ≤ 1000000) (hI : IntsAt w a len xs) (ha : 0 < len → ∀ y, a = some y → y.block ∉ L) :
    Calls Try.prog 27 #[.pointer (some ⟨b, 0, none⟩), .slice a len cap] w (Rid w L b (er st false xs).2 (.int .i64 (er st false xs).1)) := by
  obtain ⟨r, hr⟩ : ∃ r, er st false xs = r := ⟨_, rfl⟩
  rw [hr]
  have HLN := Lib.hid hI.1; have HF := Lib.hid hI.2.1; have HROW := Lib.hid hI; have HR := Lib.hid hr; have HOK := Lib.hid hok; have HD1 := Lib.hid h
  have HA := Lib.hid ha; have HBK := Lib.hid blank_rk
  have hbs : DiskP.blank.size = 128 := fill_size 0 128
  have HBS := Lib.hid hbs
  clear h hok hI hr ha hbs
  obtain ⟨bl, hbl⟩ : ∃ bl, DiskP.blank = bl := ⟨_, rfl⟩
  rw [hbl] at HBS
  simp only [hbl] at HBK
  have HBL := Lib.hid hbl
  clear hbl
  go_enter Try.func27, Try.ntmps27
  go_wp2_with fail
  go_loopw [5, 6] (fun f i wr => ∃ (j : Nat) (sj : St) (fd : Bool) (Lj : List Nat), j ≤ len ∧ f = .bool fd ∧ i = .int .i64 (j : Int) ∧ Hid (er sj fd (xs.drop j) = r) ∧ Hid (Rk wr Lj b sj) ∧ Hid (Upd L w wr Lj) ∧ Hid (Ok (n + j) sj)) (fun _ i _ => len - (intOf i).toNat)
  case atStart => exact ⟨0, st, false, L, Nat.zero_le _, rfl, rfl, by rw [List.drop_zero]; exact HR.out, HD1.out, Upd.refl _ _, HOK.out⟩
  case round =>
    obtain ⟨j, sj, fd, Lj, hj, rfl, rfl, hE, hD, hU, hOK⟩ := hrel
    have HROWJ := Lib.hid (ints_upd HROW.out HA.out hU.out)
    have hnj : n + j ≤ 1000000000 := by omega
    by_cases hlt : j < len
    · obtain ⟨b1, o1, rfl, hb1, hd1⟩ := HROWJ.out.2.2.resolve_left (by omega)
      have hjx : j < xs.length := by rw [HLN.out]; exact hlt
      have d1 := hd1 j hlt
      have hdr : xs.drop j = xs.getD j 0 :: xs.drop (j + 1) := by rw [List.drop_eq_getElem_cons hjx]; simp [List.getD, hjx]
      obtain ⟨k0, k1⟩ := HF.out _ (Ints.getD_mem hjx)
      rw [hdr] at hE
      generalize xs.getD j 0 = k at *
      clear hd1 hdr HROWJ
      obtain ⟨s, hs⟩ : ∃ s, (rd sj k).1 = s := ⟨_, rfl⟩
      obtain ⟨er1, he1⟩ : ∃ er1, (rd sj k).2 = er1 := ⟨_, rfl⟩
      have hread := rread_rk b (n + j) sj Lj k wr hD.out hOK.out hnj
      rw [hs, he1] at hread
      have HS := Lib.hid hs; have HE1 := Lib.hid he1
      clear hs he1
      go_wp2_with fail
      refine hread.mono ?_
      rintro e w2 ⟨rfl, rfl⟩
      clear hread
      by_cases hz0 : er1 = 0
      · subst hz0
        go_wp2_with fail
        refine (HBK.out wr).mono ?_
        rintro e w3 ⟨rfl, hb⟩
        have HD3 := Lib.hid (rk_below hD.out hb); have HU3 := Lib.hid (hU.out.trans (Upd.of_below hb))
        have d3 := (hb.cell (p := ⟨b1, o1 + j, none⟩) hb1).trans d1
        have hb13 : b1 < w3.heap.size := Nat.lt_of_lt_of_le hb1 hb.size
        clear hb hD hU d1
        by_cases hsb : s = bl
        · have HE2 := Lib.hid (by have := hE.out; rw [er_skip HE1.out (HS.out.trans (hsb.trans HBL.out.symm))] at this; exact this)
          have hq := str_beq_yes hsb
          clear hsb hE
          go_wp2_with fail
          go_roundw
          case rel => exact ⟨j + 1, sj, fd, Lj, by omega, rfl, by go_num, HE2, HD3, HU3, Lib.hid (hOK.out.mono (by omega))⟩
          case measure => simp [intOf]; omega
        · have hq := str_beq_no hsb
          have HWR := Lib.hid (fun w h => rwrite_rk b (n + j) sj Lj k bl w h hOK.out hnj (by rw [HBS.out]; decide))
          have HOK3 := Lib.hid (wr_ok hOK.out k bl)
          have HST := Lib.hid (fun h3 => er_step (f := fd) (l := xs.drop (j + 1)) HE1.out (fun e => hsb (HS.out.symm.trans (e.trans HBL.out))) h3)
          have HSO := Lib.hid (fun h3 => er_stop (f := fd) (l := xs.drop (j + 1)) HE1.out (fun e => hsb (HS.out.symm.trans (e.trans HBL.out))) h3)
          rw [HBL.out] at HST HSO
          obtain ⟨wv, hwv⟩ : ∃ wv, (DiskP.wr sj k bl).1 = wv := ⟨_, rfl⟩
          obtain ⟨s2, hs2⟩ : ∃ s2, (DiskP.wr sj k bl).2 = s2 := ⟨_, rfl⟩
          rw [hwv, hs2] at HWR
          rw [hs2] at HOK3
          have hwe : DiskP.wr sj k bl = (wv, s2) := by rw [← hwv, ← hs2]
          rw [hwe] at HST HSO
          clear hsb hwv hs2 hwe
          go_wp2_with fail
          refine wp_region_any (by kernel_rfl) ?_
          change wpAny _ _ _ _ _ _ _ (World.drew _)
          refine wpAny_take (i := 0) (v := ?_) rfl (by kernel_rfl) (by kernel_rfl) (by kernel_rfl) (fun _ _ _ h => h) (Or.inl ⟨by kernel_rfl, ?_⟩) ?_; rotate_left; focus ((intro w'); go_simp; (try with_reducible rfl))
          refine wpAny_take (i := 1) (v := ?_) rfl (by kernel_rfl) (by kernel_rfl) (by kernel_rfl) (fun _ _ _ h => h) (Or.inl ⟨by kernel_rfl, ?_⟩) ?_; rotate_left; focus ((intro w'); go_simp; (try with_reducible rfl))
          refine wpAny_take (i := 2) (v := ?_) rfl (by kernel_rfl) (by kernel_rfl) (by kernel_rfl) (fun _ _ _ h => h) (Or.inl ⟨by kernel_rfl, ?_⟩) ?_; rotate_left; focus ((intro w'); go_simp; (try with_reducible rfl))
          refine wpAny_take (i := 3) (v := ?_) rfl (by kernel_rfl) (by kernel_rfl) (by kernel_rfl) (fun _ _ _ h => h) (Or.inl ⟨by kernel_rfl, ?_⟩) ?_; rotate_left; focus ((intro w'); go_simp; (try with_reducible rfl))
          refine wpAny_ready (rs := [4, 5]) (by kernel_rfl) (by simp) ?_
          refine AllReady.cons rfl (fun K hK => ?_) (AllReady.cons rfl (fun K hK => ?_) AllReady.nil)
          · go_simp
            refine hK _ _ ?_
            clear hK K
            refine wpAny_ready (rs := [5]) (by kernel_rfl) (by simp) ?_
            refine AllReady.cons rfl (fun K hK => ?_) AllReady.nil
            go_simp
            refine (HBK.out _).mono ?_
            rintro e w4 ⟨rfl, hb⟩
            have HD4 := Lib.hid (rk_below (w := w3.drew) (HD3.out.keep fun _ _ => rfl) hb); have HU4 := Lib.hid (HU3.out.trans (Upd.of_below ((Below.refl _ w3).drew.trans hb)))
            have d4 := (hb.cell (p := ⟨b1, o1 + j, none⟩) hb13).trans d3
            clear hb
            refine hK _ _ ?_
            clear hK K
            refine Mix.wpAny_of_seqV [6, 7] _ _ _ (by kernel_rfl) ?_
            simp only [Mix.pick, List.filterMap_cons, List.filterMap_nil, List.getElem?_cons_zero, List.getElem?_cons_succ]
            go_wp2_with fail
            refine (HWR.out _ HD4.out).mono ?_
            rintro e w5 ⟨rfl, L5, hD5, hU5⟩
            have HD5 := Lib.hid hD5; have HU5 := Lib.hid (HU4.out.trans hU5)
            clear hD5 hU5 HD4 HU4 HWR HBK
            by_cases hw0 : wv = 0
            · subst hw0
              have HE2 := Lib.hid (by have := hE.out; rw [HST.out rfl] at this; exact this)
              clear hE HST HSO
              go_wp2_with fail
              go_roundw
              case rel => exact ⟨j + 1, s2, true, L5, by omega, rfl, by go_num, HE2, HD5, HU5, HOK3⟩
              case measure => simp [intOf]; omega
            · have hne : (wv != 0) = true := by simpa using hw0
              have HE2 := Lib.hid (by have := hE.out; rw [HSO.out hw0] at this; exact this)
              have HEND := Lib.hid (show Rid w L b s2 (.int .i64 wv) (.returned (.int .i64 wv)) w5 from ⟨rfl, L5, HD5.out, HU5.out⟩)
              clear hE HST HSO hw0
              go_wp2_with fail
              go_ret
              rw [← HE2.out]
              exact HEND.out
          · go_simp
            refine (HBK.out _).mono ?_
            rintro e w4 ⟨rfl, hb⟩
            have HD4 := Lib.hid (rk_below (w := w3.drew) (HD3.out.keep fun _ _ => rfl) hb); have HU4 := Lib.hid (HU3.out.trans (Upd.of_below ((Below.refl _ w3).drew.trans hb)))
            have d4 := (hb.cell (p := ⟨b1, o1 + j, none⟩) hb13).trans d3
            clear hb
            refine hK _ _ ?_
            clear hK K
            refine wpAny_ready (rs := [4]) (by kernel_rfl) (by simp) ?_
            refine AllReady.cons rfl (fun K hK => ?_) AllReady.nil
            go_simp
            refine hK _ _ ?_
            clear hK K
            refine Mix.wpAny_of_seqV [6, 7] _ _ _ (by kernel_rfl) ?_
            simp only [Mix.pick, List.filterMap_cons, List.filterMap_nil, List.getElem?_cons_zero, List.getElem?_cons_succ]
            go_wp2_with fail
            refine (HWR.out _ HD4.out).mono ?_
            rintro e w5 ⟨rfl, L5, hD5, hU5⟩
            have HD5 := Lib.hid hD5; have HU5 := Lib.hid (HU4.out.trans hU5)
            clear hD5 hU5 HD4 HU4 HWR HBK
            by_cases hw0 : wv = 0
            · subst hw0
              have HE2 := Lib.hid (by have := hE.out; rw [HST.out rfl] at this; exact this)
              clear hE HST HSO
              go_wp2_with fail
              go_roundw
              case rel => exact ⟨j + 1, s2, true, L5, by omega, rfl, by go_num, HE2, HD5, HU5, HOK3⟩
              case measure => simp [intOf]; omega
            · have hne : (wv != 0) = true := by simpa using hw0
              have HE2 := Lib.hid (by have := hE.out; rw [HSO.out hw0] at this; exact this)
              have HEND := Lib.hid (show Rid w L b s2 (.int .i64 wv) (.returned (.int .i64 wv)) w5 from ⟨rfl, L5, HD5.out, HU5.out⟩)
              clear hE HST HSO hw0
              go_wp2_with fail
              go_ret
              rw [← HE2.out]
              exact HEND.out
      · have hne : (er1 != 0) = true := by simpa using hz0
        have HE2 := Lib.hid (by have := hE.out; rw [er_bad (fun e => hz0 (HE1.out.symm.trans e)), HE1.out] at this; exact this)
        have HEND := Lib.hid (show Rid w L b sj (.int .i64 er1) (.returned (.int .i64 er1)) wr from ⟨rfl, Lj, hD.out, hU.out⟩)
        clear hE hz0
        go_wp2_with fail
        go_ret
        rw [← HE2.out]
        exact HEND.out
    · obtain rfl : j = len := by omega
      rw [List.drop_of_length_le (by rw [HLN.out]; omega)] at hE
      clear HROWJ
      cases fd with
      | false =>
        have HE2 : Hid ((0, sj) = r) := hE
        have HEND := Lib.hid (show Rid w L b sj (.int .i64 0) (.returned (.int .i64 0)) wr from ⟨rfl, Lj, hD.out, hU.out⟩)
        clear hE
        go_wp2_with fail
        go_ret
        rw [← HE2.out]
        exact HEND.out
      | true =>
        have HE2 : Hid (fl sj = r) := hE
        have hfl := rflush_rk b (n + j) sj Lj wr hD.out hOK.out hnj
        rw [HE2.out] at hfl
        clear hE
        go_wp2_with fail
        refine hfl.mono ?_
        rintro e w4 ⟨rfl, L4, hD4, hU4⟩
        have HEND := Lib.hid (show Rid w L b r.2 (.int .i64 r.1) (.returned (.int .i64 r.1)) w4 from ⟨rfl, L4, hD4, hU.out.trans hU4⟩)
        clear hD4 hU4
        go_wp2_with fail
        go_ret
        exact HEND.out
end Go.Proofs.Ytklklcohbfnpjaa
