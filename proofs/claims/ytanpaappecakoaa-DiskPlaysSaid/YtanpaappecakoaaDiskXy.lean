/-
  DiskPlays with up to 20 sectors: any acts.
-/
import Derived.Test.YtanpaappecakoaaDiskX
import Derived.Test.YtanpaappecakoaaMix
set_option linter.unusedVariables false
namespace Go.Proofs.Ytanpaappecakoaa
open Go.RowKit DiskP

set_option maxRecDepth 100000 in
set_option maxHeartbeats 8000000 in
theorem plays_yes (n : Nat) (a : Option Addr) (len cap : Nat) (f : Nat → AVal) (w : World) (hA : ActsAt w a len f) (h1 : 2 ≤ n) (h2 : n ≤ 20) :
    Calls Try.prog 3 #[.int .i64 (n : Int), .slice a len cap] w (TrueIn w) := by
  have hl := hA.1
  have hf := few_any a len cap 30 f w hA (by decide)
  have hn1 := new_yes n w h1 (by omega)
  have y1 : ¬ 20 < (n : Int) := by omega
  have HF := Lib.hid hf; have HN1 := Lib.hid hn1
  have HA := Lib.hid hA
  have hok := new_ok n h1 (by omega)
  have hlen0 : (fresh (List.replicate n DiskP.blank)).S.length = n := by simp [fresh]
  have hrn := fun w => rnew_yes n w h1 (by omega)
  have HRN := Lib.hid hrn
  obtain ⟨S0, hS0⟩ : ∃ S0, List.replicate n DiskP.blank = S0 := ⟨_, rfl⟩
  rw [hS0] at HN1 hok hlen0
  simp only [hS0] at HRN
  have HOK0 := Lib.hid hok; have HLEN0 := Lib.hid hlen0
  clear hf hn1 hA hok hlen0 hrn hS0
  go_enter Try.func3, Try.ntmps3
  go_wp2_with fail
  refine HF.out.mono ?_
  rintro e w' ⟨r, rfl, hfew, rfl⟩
  cases r with
  | false =>
    go_wp2_with fail
    refine (awake_in (Below.refl _ w)).mono ?_
    rintro e wq ⟨rfl, hb⟩
    have HB := Lib.hid hb
    clear hb
    go_wp2_with fail
    go_ret
    exact ⟨rfl, HB.out⟩
  | true =>
    obtain ⟨hl30, hkl⟩ := hfew rfl
    have HKL := Lib.hid hkl
    clear hfew hkl
    go_wp2_with fail
    refine HN1.out.mono ?_
    rintro e w1 ⟨d, L, rfl, hD, hL, hb⟩
    have HD1 := Lib.hid hD; have HL1 := Lib.hid hL; have HB1 := Lib.hid hb
    clear hD hL hb HN1
    go_wp2_with fail
    refine (HRN.out w1).mono ?_
    rintro e w2 ⟨x, M, rfl, hR, hM, hb⟩
    have HBO := Lib.hid (show Both w w2 d x (fresh S0) (fresh S0) from ⟨L, M, dk_below HD1.out hb, hR, fun k hk => ⟨HL1.out k hk, fun hkM => by have := hM k hkM; have := HD1.out.lt k hk; omega⟩, fun k hk => Nat.le_trans HB1.out.size (hM k hk), HB1.out.trans (hb.mono HB1.out.size)⟩)
    clear hR hM hb HD1 HL1 HB1 HRN
    go_wp2_with fail
    go_loopw [9] (fun i wr => ∃ (j : Nat) (st : St), j ≤ len ∧ i = .int .i64 (j : Int) ∧ Hid (Both w wr d x st st) ∧ Hid (Ok j st) ∧ Hid (st.S.length = n)) (fun i _ => len - (intOf i).toNat)
    case atStart => exact ⟨0, fresh S0, Nat.zero_le _, rfl, HBO, HOK0, HLEN0⟩
    case round =>
      obtain ⟨j, st, hj, rfl, hBO, hOK, hLN⟩ := hrel
      by_cases hlt : j < len
      · obtain ⟨b, off, rfl, _, hc⟩ := HA.out.2.resolve_left (by omega)
        obtain ⟨y, hy⟩ : ∃ y, f j = y := ⟨_, rfl⟩
        have hat0 := hc j hlt
        have hat := hat0.below hBO.out.bel
        have hkl := HKL.out j hlt
        have hb0 : b < w.heap.size := World.block_lt_of_cell? w _ (hc j hlt).c0
        have hkn := (hc j hlt).kn
        rw [hy] at hat0 hat hkl hkn
        have HAT0 := Lib.hid hat0
        have HAT := Lib.hid hat; have HKN := Lib.hid hkn
        have HFIT := Lib.hid (hat.fit hkl)
        have HYK := Lib.hid (show y.kl ≤ 1000000000 by omega)
        have d0 := hat.c0; have d1 := hat.c1; have d2 := hat.c2; have d3 := hat.c3; have d4 := hat.c4
        have HOK2 := Lib.hid (step_ok hOK.out HFIT.out)
        have HLN2 := Lib.hid (step_len (st := st) (x := y) |>.trans hLN.out)
        clear hc hat hat0 hkl hy hkn
        go_wp2_with fail
        refine (hBO.out.stepD (fun L h => do_dk d j st L y wr h hOK.out (by omega) HFIT.out HAT.out.kb)).mono ?_
        rintro e w3 ⟨rfl, hB3⟩
        have HAT3 := Lib.hid (HAT0.out.below hB3.bel)
        have e0 := HAT3.out.c0; have e1 := HAT3.out.c1; have e2 := HAT3.out.c2; have e3 := HAT3.out.c3; have e4 := HAT3.out.c4
        have HB3 := Lib.hid hB3
        clear hB3 d0 d1 d2 d3 d4 HAT
        go_wp2_with fail
        refine (HB3.out.stepR (fun M h hM => do_rk x j st M y w3 h hOK.out (by omega) HFIT.out HAT3.out.kb (fun h0 z hz hzM => by have := hM _ hzM; have := HKN.out h0 z hz; omega))).mono ?_
        rintro e w4 ⟨rfl, hB4⟩
        have HB4 := Lib.hid hB4.drew
        clear hB4 e0 e1 e2 e3 e4 HAT3 HB3
        go_wp2_with fail
        generalize (step st y).1 = r at *
        generalize (step st y).2 = s2 at *
        obtain ⟨L, M, hD, hR, _, _, hbe⟩ := HB4.out
        obtain ⟨gx, capx, wx, hRA, _⟩ := hR
        have hwn : s2.W.length ≤ 1000000000 := by have := HOK2.out.wn; omega
        obtain ⟨ax, cx, rfl, hwx⟩ := wts_of hRA.wts rfl hwn
        have q1 : w4.drew.cell? ⟨x, 1, none⟩ = some (.slice ax s2.W.length cx) := cell_of_heap hRA.blk
        have q3 : w4.drew.cell? ⟨x, 3, none⟩ = some (.int .i64 (s2.ops : Int)) := cell_of_heap hRA.blk
        have q4 : w4.drew.cell? ⟨x, 4, none⟩ = some (.bool s2.dead) := cell_of_heap hRA.blk
        have hxl : x < w4.drew.heap.size := heap_lt hRA.blk
        have HD := Lib.hid hD; have HWX := Lib.hid hwx; have HWN := Lib.hid hwn
        clear hD hRA hwx hbe hwn
        refine wp_region_any (by kernel_rfl) ?_
        change wpAny _ _ _ _ _ _ _ (World.drew _)
        refine wpAny_take (i := 0) (v := ?_) rfl (by kernel_rfl) (by kernel_rfl) (by kernel_rfl) (fun _ _ _ h => h) (Or.inl ⟨by kernel_rfl, ?_⟩) ?_; rotate_left; focus ((intro w'); go_simp; (try with_reducible rfl))
        refine wpAny_take (i := 1) (v := ?_) rfl (by kernel_rfl) (by kernel_rfl) (by kernel_rfl) (fun _ _ _ h => h) (Or.inl ⟨by kernel_rfl, ?_⟩) ?_; rotate_left; focus ((intro w'); go_simp; (try with_reducible rfl))
        refine wpAny_take (i := 2) (v := ?_) rfl (by kernel_rfl) (by kernel_rfl) (by kernel_rfl) (fun _ _ _ h => h) (Or.inl ⟨by kernel_rfl, ?_⟩) ?_; rotate_left; focus ((intro w'); go_simp; (try with_reducible rfl))
        refine wpAny_take (i := 3) (v := ?_) rfl (by kernel_rfl) (by kernel_rfl) (by kernel_rfl) (fun _ _ _ h => h) (Or.inl ⟨by kernel_rfl, ?_⟩) ?_; rotate_left; focus ((intro w'); go_simp; (try with_reducible rfl))
        refine wpAny_take (i := 4) (v := ?_) rfl (by kernel_rfl) (by kernel_rfl) (by kernel_rfl) (fun _ _ _ h => h) (Or.inl ⟨by kernel_rfl, ?_⟩) ?_; rotate_left; focus ((intro w'); go_simp; (try with_reducible rfl))
        refine wpAny_take (i := 5) (v := ?_) rfl (by kernel_rfl) (by kernel_rfl) (by kernel_rfl) (fun _ _ _ h => h) (Or.inl ⟨by kernel_rfl, ?_⟩) ?_; rotate_left; focus ((intro w'); go_simp; (try with_reducible rfl))
        refine wpAny_take (i := 6) (v := ?_) rfl (by kernel_rfl) (by kernel_rfl) (by kernel_rfl) (fun _ _ _ h => h) (Or.inl ⟨by kernel_rfl, ?_⟩) ?_; rotate_left; focus ((intro w'); go_simp; (try with_reducible rfl))
        refine wpAny_take (i := 7) (v := ?_) rfl (by kernel_rfl) (by kernel_rfl) (by kernel_rfl) (fun _ _ _ h => h) (Or.inl ⟨by kernel_rfl, ?_⟩) ?_; rotate_left; focus ((intro w'); go_simp; (try with_reducible rfl))
        refine wpAny_take (i := 8) (v := ?_) rfl (by kernel_rfl) (by kernel_rfl) (by kernel_rfl) (fun _ _ _ h => h) (Or.inl ⟨by kernel_rfl, ?_⟩) ?_; rotate_left; focus ((intro w'); go_simp; (try with_reducible rfl))
        refine wpAny_take (i := 9) (v := ?_) rfl (by kernel_rfl) (by kernel_rfl) (by kernel_rfl) (fun _ _ _ h => h) (Or.inl ⟨by kernel_rfl, ?_⟩) ?_; rotate_left; focus ((intro w'); go_simp; (try with_reducible rfl))
        refine wpAny_take (i := 11) (v := ?_) rfl (by kernel_rfl) (by kernel_rfl) (by kernel_rfl) (fun _ _ _ h => h) (Or.inl ⟨by kernel_rfl, ?_⟩) ?_; rotate_left; focus ((intro w'); go_simp; (try with_reducible rfl))
        refine wpAny_take (i := 12) (v := ?_) rfl (by kernel_rfl) (by kernel_rfl) (by kernel_rfl) (fun _ _ _ h => h) (Or.inl ⟨by kernel_rfl, ?_⟩) ?_; rotate_left; focus ((intro w'); go_simp; (try with_reducible rfl))
        refine wpAny_take (i := 13) (v := ?_) rfl (by kernel_rfl) (by kernel_rfl) (by kernel_rfl) (fun _ _ _ h => h) (Or.inl ⟨by kernel_rfl, ?_⟩) ?_; rotate_left; focus ((intro w'); go_simp; (try with_reducible rfl))
        apply join
        · intro hG
          refine wpAny_ready (rs := [10, 14]) (by kernel_rfl) (by simp) ?_
          refine AllReady.cons rfl (fun K hK => ?_) (AllReady.cons rfl (fun K hK => ?_) AllReady.nil)
          · go_simp
            refine (dead_dk d s2 L _ HD.out).mono ?_
            rintro e w' ⟨rfl, rfl⟩
            refine hK _ _ ?_
            clear hK K
            refine wpAny_ready (rs := [14]) (by kernel_rfl) (by simp) ?_
            refine AllReady.cons rfl (fun K hK => ?_) AllReady.nil
            go_simp
            refine hK _ _ ?_
            clear hK K
            exact hG
          · go_simp
            refine hK _ _ ?_
            clear hK K
            refine wpAny_ready (rs := [10]) (by kernel_rfl) (by simp) ?_
            refine AllReady.cons rfl (fun K hK => ?_) AllReady.nil
            go_simp
            refine (dead_dk d s2 L _ HD.out).mono ?_
            rintro e w' ⟨rfl, rfl⟩
            refine hK _ _ ?_
            clear hK K
            exact hG
        · refine wpAny_take (i := 15) (v := ?_) rfl (by kernel_rfl) (by kernel_rfl) (by kernel_rfl) (fun _ _ _ h => h) (Or.inl ⟨by kernel_rfl, ?_⟩) ?_; rotate_left; focus ((intro w'); go_simp; (try with_reducible rfl))
          refine wpAny_take (i := 16) (v := ?_) rfl (by kernel_rfl) (by kernel_rfl) (by kernel_rfl) (fun _ _ _ h => h) (Or.inl ⟨by kernel_rfl, ?_⟩) ?_; rotate_left; focus ((intro w'); go_simp; (try with_reducible rfl))
          refine wpAny_take (i := 17) (v := ?_) rfl (by kernel_rfl) (by kernel_rfl) (by kernel_rfl) (fun _ _ _ h => h) (Or.inl ⟨by kernel_rfl, ?_⟩) ?_; rotate_left; focus ((intro w'); go_simp; (try with_reducible rfl))
          refine wpAny_take (i := 18) (v := ?_) rfl (by kernel_rfl) (by kernel_rfl) (by kernel_rfl) (fun _ _ _ h => h) (Or.inl ⟨by kernel_rfl, ?_⟩) ?_; rotate_left; focus ((intro w'); go_simp; (try with_reducible rfl))
          refine wpAny_take (i := 20) (v := ?_) rfl (by kernel_rfl) (by kernel_rfl) (by kernel_rfl) (fun _ _ _ h => h) (Or.inl ⟨by kernel_rfl, ?_⟩) ?_; rotate_left; focus ((intro w'); go_simp; (try with_reducible rfl))
          refine wpAny_take (i := 21) (v := ?_) rfl (by kernel_rfl) (by kernel_rfl) (by kernel_rfl) (fun _ _ _ h => h) (Or.inl ⟨by kernel_rfl, ?_⟩) ?_; rotate_left; focus ((intro w'); go_simp; (try with_reducible rfl))
          refine wpAny_take (i := 22) (v := ?_) rfl (by kernel_rfl) (by kernel_rfl) (by kernel_rfl) (fun _ _ _ h => h) (Or.inl ⟨by kernel_rfl, ?_⟩) ?_; rotate_left; focus ((intro w'); go_simp; (try with_reducible rfl))
          apply join
          · intro hG
            refine wpAny_ready (rs := [19, 23]) (by kernel_rfl) (by simp) ?_
            refine AllReady.cons rfl (fun K hK => ?_) (AllReady.cons rfl (fun K hK => ?_) AllReady.nil)
            · go_simp
              refine (ops_dk d s2 L _ HD.out).mono ?_
              rintro e w' ⟨rfl, rfl⟩
              refine hK _ _ ?_
              clear hK K
              refine wpAny_ready (rs := [23]) (by kernel_rfl) (by simp) ?_
              refine AllReady.cons rfl (fun K hK => ?_) AllReady.nil
              go_simp
              refine hK _ _ ?_
              clear hK K
              exact hG
            · go_simp
              refine hK _ _ ?_
              clear hK K
              refine wpAny_ready (rs := [19]) (by kernel_rfl) (by simp) ?_
              refine AllReady.cons rfl (fun K hK => ?_) AllReady.nil
              go_simp
              refine (ops_dk d s2 L _ HD.out).mono ?_
              rintro e w' ⟨rfl, rfl⟩
              refine hK _ _ ?_
              clear hK K
              exact hG
          · refine wpAny_take (i := 24) (v := ?_) rfl (by kernel_rfl) (by kernel_rfl) (by kernel_rfl) (fun _ _ _ h => h) (Or.inl ⟨by kernel_rfl, ?_⟩) ?_; rotate_left; focus ((intro w'); go_simp; (try with_reducible rfl))
            refine wpAny_take (i := 25) (v := ?_) rfl (by kernel_rfl) (by kernel_rfl) (by kernel_rfl) (fun _ _ _ h => h) (Or.inl ⟨by kernel_rfl, ?_⟩) ?_; rotate_left; focus ((intro w'); go_simp; (try with_reducible rfl))
            refine wpAny_take (i := 26) (v := ?_) rfl (by kernel_rfl) (by kernel_rfl) (by kernel_rfl) (fun _ _ _ h => h) (Or.inl ⟨by kernel_rfl, ?_⟩) ?_; rotate_left; focus ((intro w'); go_simp; (try with_reducible rfl))
            refine wpAny_take (i := 27) (v := ?_) rfl (by kernel_rfl) (by kernel_rfl) (by kernel_rfl) (fun _ _ _ h => h) (Or.inl ⟨by kernel_rfl, ?_⟩) ?_; rotate_left; focus ((intro w'); go_simp; (try with_reducible rfl))
            refine wpAny_take (i := 29) (v := ?_) rfl (by kernel_rfl) (by kernel_rfl) (by kernel_rfl) (fun _ _ _ h => h) (Or.inl ⟨by kernel_rfl, ?_⟩) ?_; rotate_left; focus ((intro w'); go_simp; (try with_reducible rfl))
            refine wpAny_take (i := 30) (v := ?_) rfl (by kernel_rfl) (by kernel_rfl) (by kernel_rfl) (fun _ _ _ h => h) (Or.inl ⟨by kernel_rfl, ?_⟩) ?_; rotate_left; focus ((intro w'); go_simp; (try with_reducible rfl))
            refine wpAny_take (i := 31) (v := ?_) rfl (by kernel_rfl) (by kernel_rfl) (by kernel_rfl) (fun _ _ _ h => h) (Or.inl ⟨by kernel_rfl, ?_⟩) ?_; rotate_left; focus ((intro w'); go_simp; (try with_reducible rfl))
            refine wpAny_ready (rs := [28, 32]) (by kernel_rfl) (by simp) ?_
            refine AllReady.cons rfl (fun K hK => ?_) (AllReady.cons rfl (fun K hK => ?_) AllReady.nil)
            · go_simp
              refine (waits_dk d (j + 1) s2 L w4.drew HD.out HOK2.out (by omega)).mono ?_
              rintro e wz ⟨v, rfl, hown, hb⟩
              obtain ⟨a1, c1, rfl, hw1⟩ := wts_of hown rfl HWN.out
              have HSW := Lib.hid (sameWaits_yes a1 ax s2.W.length c1 cx s2.W wz hw1 (HWX.out.below hb))
              have HB5 := Lib.hid (HB4.out.below hb)
              have q5 : wz.cell? ⟨x, 1, none⟩ = some (.slice ax s2.W.length cx) := (hb.cell (p := ⟨x, 1, none⟩) hxl).trans q1
              clear hown hw1 hb
              refine hK _ _ ?_
              clear hK K
              refine wpAny_ready (rs := [32]) (by kernel_rfl) (by simp) ?_
              refine AllReady.cons rfl (fun K hK => ?_) AllReady.nil
              go_simp
              refine hK _ _ ?_
              clear hK K
              refine wpAny_ready (rs := [33]) (by kernel_rfl) (by simp) ?_
              refine AllReady.cons rfl (fun K hK => ?_) AllReady.nil
              go_simp
              refine HSW.out.mono ?_
              rintro e wy ⟨rfl, hb⟩
              have HB6 := Lib.hid (HB5.out.below hb)
              clear hb HSW HB5
              refine hK _ _ ?_
              clear hK K
              refine Mix.wpAny_of_seqV [34, 35] _ _ _ (by kernel_rfl) ?_
              simp only [Mix.pick, List.filterMap_cons, List.filterMap_nil, List.getElem?_cons_zero, List.getElem?_cons_succ]
              go_wp2_with fail
              go_roundw
              case rel => exact ⟨j + 1, s2, by omega, by go_num, HB6, HOK2, HLN2⟩
              case measure => simp [intOf]; omega
            · go_simp
              refine hK _ _ ?_
              clear hK K
              refine wpAny_ready (rs := [28]) (by kernel_rfl) (by simp) ?_
              refine AllReady.cons rfl (fun K hK => ?_) AllReady.nil
              go_simp
              refine (waits_dk d (j + 1) s2 L w4.drew HD.out HOK2.out (by omega)).mono ?_
              rintro e wz ⟨v, rfl, hown, hb⟩
              obtain ⟨a1, c1, rfl, hw1⟩ := wts_of hown rfl HWN.out
              have HSW := Lib.hid (sameWaits_yes a1 ax s2.W.length c1 cx s2.W wz hw1 (HWX.out.below hb))
              have HB5 := Lib.hid (HB4.out.below hb)
              have q5 : wz.cell? ⟨x, 1, none⟩ = some (.slice ax s2.W.length cx) := (hb.cell (p := ⟨x, 1, none⟩) hxl).trans q1
              clear hown hw1 hb
              refine hK _ _ ?_
              clear hK K
              refine wpAny_ready (rs := [33]) (by kernel_rfl) (by simp) ?_
              refine AllReady.cons rfl (fun K hK => ?_) AllReady.nil
              go_simp
              refine HSW.out.mono ?_
              rintro e wy ⟨rfl, hb⟩
              have HB6 := Lib.hid (HB5.out.below hb)
              clear hb HSW HB5
              refine hK _ _ ?_
              clear hK K
              refine Mix.wpAny_of_seqV [34, 35] _ _ _ (by kernel_rfl) ?_
              simp only [Mix.pick, List.filterMap_cons, List.filterMap_nil, List.getElem?_cons_zero, List.getElem?_cons_succ]
              go_wp2_with fail
              go_roundw
              case rel => exact ⟨j + 1, s2, by omega, by go_num, HB6, HOK2, HLN2⟩
              case measure => simp [intOf]; omega
      · obtain rfl : j = len := by omega
        go_wp2_with fail
        have HB4 := Lib.hid hBO.out.drew
        obtain ⟨L, M, hD, hR, _, _, hbe⟩ := HB4.out
        obtain ⟨gx, capx, wx, hRA, _⟩ := hR
        have q0 : wr.drew.cell? ⟨x, 0, none⟩ = some (.slice (some ⟨gx, 0, none⟩) st.S.length capx) := cell_of_heap hRA.blk
        have hxl : x < wr.drew.heap.size := heap_lt hRA.blk
        have HRS := Lib.hid (strs_of hRA.sec hOK.out.hi)
        have HD := Lib.hid hD
        have HLN := hLN
        have hln := hLN.out
        have hlni : ((st.S.length : Int) == (n : Int)) = true := by rw [hln]; simp
        clear hD hRA hbe hln
        refine wp_region_any (by kernel_rfl) ?_
        change wpAny _ _ _ _ _ _ _ (World.drew _)
        refine wpAny_take (i := 0) (v := ?_) rfl (by kernel_rfl) (by kernel_rfl) (by kernel_rfl) (fun _ _ _ h => h) (Or.inl ⟨by kernel_rfl, ?_⟩) ?_; rotate_left; focus ((intro w'); go_simp; (try with_reducible rfl))
        refine wpAny_take (i := 1) (v := ?_) rfl (by kernel_rfl) (by kernel_rfl) (by kernel_rfl) (fun _ _ _ h => h) (Or.inl ⟨by kernel_rfl, ?_⟩) ?_; rotate_left; focus ((intro w'); go_simp; (try with_reducible rfl))
        refine wpAny_take (i := 2) (v := ?_) rfl (by kernel_rfl) (by kernel_rfl) (by kernel_rfl) (fun _ _ _ h => h) (Or.inl ⟨by kernel_rfl, ?_⟩) ?_; rotate_left; focus ((intro w'); go_simp; (try with_reducible rfl))
        refine wpAny_take (i := 3) (v := ?_) rfl (by kernel_rfl) (by kernel_rfl) (by kernel_rfl) (fun _ _ _ h => h) (Or.inl ⟨by kernel_rfl, ?_⟩) ?_; rotate_left; focus ((intro w'); go_simp; (try with_reducible rfl))
        refine wpAny_take (i := 5) (v := ?_) rfl (by kernel_rfl) (by kernel_rfl) (by kernel_rfl) (fun _ _ _ h => h) (Or.inl ⟨by kernel_rfl, ?_⟩) ?_; rotate_left; focus ((intro w'); go_simp; (try with_reducible rfl))
        refine wpAny_take (i := 6) (v := ?_) rfl (by kernel_rfl) (by kernel_rfl) (by kernel_rfl) (fun _ _ _ h => h) (Or.inl ⟨by kernel_rfl, ?_⟩) ?_; rotate_left; focus ((intro w'); go_simp; (try with_reducible rfl))
        refine wpAny_take (i := 7) (v := ?_) rfl (by kernel_rfl) (by kernel_rfl) (by kernel_rfl) (fun _ _ _ h => h) (Or.inl ⟨by kernel_rfl, ?_⟩) ?_; rotate_left; focus ((intro w'); go_simp; (try with_reducible rfl))
        refine wpAny_ready (rs := [4, 8]) (by kernel_rfl) (by simp) ?_
        refine AllReady.cons rfl (fun K hK => ?_) (AllReady.cons rfl (fun K hK => ?_) AllReady.nil)
        · go_simp
          refine (sectors_dk d j st L wr.drew HD.out hOK.out).mono ?_
          rintro e wz ⟨g1, c1, rfl, hown, hb⟩
          have HSAME := Lib.hid (same_yes (some ⟨g1, 0, none⟩) (some ⟨gx, 0, none⟩) st.S.length c1 capx st.S wz (strs_of hown hOK.out.hi) (HRS.out.below hb))
          have HB5 := Lib.hid (HB4.out.below hb)
          have HD5 := Lib.hid (dk_below HD.out hb)
          have q5 : wz.cell? ⟨x, 0, none⟩ = some (.slice (some ⟨gx, 0, none⟩) st.S.length capx) := (hb.cell (p := ⟨x, 0, none⟩) hxl).trans q0
          clear hown hb
          refine hK _ _ ?_
          clear hK K
          refine wpAny_ready (rs := [8]) (by kernel_rfl) (by simp) ?_
          refine AllReady.cons rfl (fun K hK => ?_) AllReady.nil
          go_simp
          refine hK _ _ ?_
          clear hK K
          refine wpAny_ready (rs := [9]) (by kernel_rfl) (by simp) ?_
          refine AllReady.cons rfl (fun K hK => ?_) AllReady.nil
          go_simp
          refine HSAME.out.mono ?_
          rintro e wy ⟨rfl, hb⟩
          have HB6 := Lib.hid (HB5.out.below hb)
          have HD6 := Lib.hid (dk_below HD5.out hb)
          clear hb HSAME HB5 HD5
          refine hK _ _ ?_
          clear hK K
          refine wpAny_take (i := 10) (v := ?_) rfl (by kernel_rfl) (by kernel_rfl) (by kernel_rfl) (fun _ _ _ h => h) (Or.inl ⟨by kernel_rfl, ?_⟩) ?_; rotate_left; focus ((intro w'); go_simp; (try with_reducible rfl))
          refine wpAny_take (i := 11) (v := ?_) rfl (by kernel_rfl) (by kernel_rfl) (by kernel_rfl) (fun _ _ _ h => h) (Or.inl ⟨by kernel_rfl, ?_⟩) ?_; rotate_left; focus ((intro w'); go_simp; (try with_reducible rfl))
          refine wpAny_take (i := 13) (v := ?_) rfl (by kernel_rfl) (by kernel_rfl) (by kernel_rfl) (fun _ _ _ h => h) (Or.inl ⟨by kernel_rfl, ?_⟩) ?_; rotate_left; focus ((intro w'); go_simp; (try with_reducible rfl))
          refine wpAny_ready (rs := [12]) (by kernel_rfl) (by simp) ?_
          refine AllReady.cons rfl (fun K hK => ?_) AllReady.nil
          go_simp
          refine (size_dk d st L wy HD6.out).mono ?_
          rintro e w' ⟨rfl, rfl⟩
          refine hK _ _ ?_
          clear hK K
          refine wpAny_take (i := 14) (v := ?_) rfl (by kernel_rfl) (by kernel_rfl) (by kernel_rfl) (fun _ _ _ h => h) (Or.inl ⟨by kernel_rfl, ?_⟩) ?_; rotate_left; focus ((intro w'); go_simp; (try with_reducible rfl))
          refine wpAny_take (i := 15) (v := ?_) rfl (by kernel_rfl) (by kernel_rfl) (by kernel_rfl) (fun _ _ _ h => h) (Or.inl ⟨by kernel_rfl, ?_⟩) ?_; rotate_left; focus ((intro w'); go_simp; (try with_reducible rfl))
          refine wpAny_take (i := 16) (v := ?_) rfl (by kernel_rfl) (by kernel_rfl) (by kernel_rfl) (fun _ _ _ h => h) (Or.inl ⟨by kernel_rfl, ?_⟩) ?_; rotate_left; focus ((intro w'); go_simp; (try with_reducible rfl))
          refine wpAny_take (i := 17) (v := ?_) rfl (by kernel_rfl) (by kernel_rfl) (by kernel_rfl) (fun _ _ _ h => h) (Or.inl ⟨by kernel_rfl, ?_⟩) ?_; rotate_left; focus ((intro w'); go_simp; (try with_reducible rfl))
          refine wpAny_ready (rs := [18]) (by kernel_rfl) (by simp) ?_
          refine AllReady.cons rfl (fun K hK => ?_) AllReady.nil
          go_simp
          refine (awake_in HB6.out.bel).mono ?_
          rintro e wq ⟨rfl, hb⟩
          have HBQ := Lib.hid hb
          clear hb
          refine hK _ _ ?_
          clear hK K
          refine wpAny_take (i := 19) (v := ?_) rfl (by kernel_rfl) (by kernel_rfl) (by kernel_rfl) (fun _ _ _ h => h) (Or.inl ⟨by kernel_rfl, ?_⟩) ?_; rotate_left; focus ((intro w'); go_simp; (try with_reducible rfl))
          refine Mix.wpAny_of_seqV [20] _ _ _ (by kernel_rfl) ?_
          simp only [Mix.pick, List.filterMap_cons, List.filterMap_nil, List.getElem?_cons_zero, List.getElem?_cons_succ]
          go_wp2_with fail
          go_ret
          exact ⟨rfl, HBQ.out⟩
        · go_simp
          refine hK _ _ ?_
          clear hK K
          refine wpAny_ready (rs := [4]) (by kernel_rfl) (by simp) ?_
          refine AllReady.cons rfl (fun K hK => ?_) AllReady.nil
          go_simp
          refine (sectors_dk d j st L wr.drew HD.out hOK.out).mono ?_
          rintro e wz ⟨g1, c1, rfl, hown, hb⟩
          have HSAME := Lib.hid (same_yes (some ⟨g1, 0, none⟩) (some ⟨gx, 0, none⟩) st.S.length c1 capx st.S wz (strs_of hown hOK.out.hi) (HRS.out.below hb))
          have HB5 := Lib.hid (HB4.out.below hb)
          have HD5 := Lib.hid (dk_below HD.out hb)
          have q5 : wz.cell? ⟨x, 0, none⟩ = some (.slice (some ⟨gx, 0, none⟩) st.S.length capx) := (hb.cell (p := ⟨x, 0, none⟩) hxl).trans q0
          clear hown hb
          refine hK _ _ ?_
          clear hK K
          refine wpAny_ready (rs := [9]) (by kernel_rfl) (by simp) ?_
          refine AllReady.cons rfl (fun K hK => ?_) AllReady.nil
          go_simp
          refine HSAME.out.mono ?_
          rintro e wy ⟨rfl, hb⟩
          have HB6 := Lib.hid (HB5.out.below hb)
          have HD6 := Lib.hid (dk_below HD5.out hb)
          clear hb HSAME HB5 HD5
          refine hK _ _ ?_
          clear hK K
          refine wpAny_take (i := 10) (v := ?_) rfl (by kernel_rfl) (by kernel_rfl) (by kernel_rfl) (fun _ _ _ h => h) (Or.inl ⟨by kernel_rfl, ?_⟩) ?_; rotate_left; focus ((intro w'); go_simp; (try with_reducible rfl))
          refine wpAny_take (i := 11) (v := ?_) rfl (by kernel_rfl) (by kernel_rfl) (by kernel_rfl) (fun _ _ _ h => h) (Or.inl ⟨by kernel_rfl, ?_⟩) ?_; rotate_left; focus ((intro w'); go_simp; (try with_reducible rfl))
          refine wpAny_take (i := 13) (v := ?_) rfl (by kernel_rfl) (by kernel_rfl) (by kernel_rfl) (fun _ _ _ h => h) (Or.inl ⟨by kernel_rfl, ?_⟩) ?_; rotate_left; focus ((intro w'); go_simp; (try with_reducible rfl))
          refine wpAny_ready (rs := [12]) (by kernel_rfl) (by simp) ?_
          refine AllReady.cons rfl (fun K hK => ?_) AllReady.nil
          go_simp
          refine (size_dk d st L wy HD6.out).mono ?_
          rintro e w' ⟨rfl, rfl⟩
          refine hK _ _ ?_
          clear hK K
          refine wpAny_take (i := 14) (v := ?_) rfl (by kernel_rfl) (by kernel_rfl) (by kernel_rfl) (fun _ _ _ h => h) (Or.inl ⟨by kernel_rfl, ?_⟩) ?_; rotate_left; focus ((intro w'); go_simp; (try with_reducible rfl))
          refine wpAny_take (i := 15) (v := ?_) rfl (by kernel_rfl) (by kernel_rfl) (by kernel_rfl) (fun _ _ _ h => h) (Or.inl ⟨by kernel_rfl, ?_⟩) ?_; rotate_left; focus ((intro w'); go_simp; (try with_reducible rfl))
          refine wpAny_take (i := 16) (v := ?_) rfl (by kernel_rfl) (by kernel_rfl) (by kernel_rfl) (fun _ _ _ h => h) (Or.inl ⟨by kernel_rfl, ?_⟩) ?_; rotate_left; focus ((intro w'); go_simp; (try with_reducible rfl))
          refine wpAny_take (i := 17) (v := ?_) rfl (by kernel_rfl) (by kernel_rfl) (by kernel_rfl) (fun _ _ _ h => h) (Or.inl ⟨by kernel_rfl, ?_⟩) ?_; rotate_left; focus ((intro w'); go_simp; (try with_reducible rfl))
          refine wpAny_ready (rs := [18]) (by kernel_rfl) (by simp) ?_
          refine AllReady.cons rfl (fun K hK => ?_) AllReady.nil
          go_simp
          refine (awake_in HB6.out.bel).mono ?_
          rintro e wq ⟨rfl, hb⟩
          have HBQ := Lib.hid hb
          clear hb
          refine hK _ _ ?_
          clear hK K
          refine wpAny_take (i := 19) (v := ?_) rfl (by kernel_rfl) (by kernel_rfl) (by kernel_rfl) (fun _ _ _ h => h) (Or.inl ⟨by kernel_rfl, ?_⟩) ?_; rotate_left; focus ((intro w'); go_simp; (try with_reducible rfl))
          refine Mix.wpAny_of_seqV [20] _ _ _ (by kernel_rfl) ?_
          simp only [Mix.pick, List.filterMap_cons, List.filterMap_nil, List.getElem?_cons_zero, List.getElem?_cons_succ]
          go_wp2_with fail
          go_ret
          exact ⟨rfl, HBQ.out⟩
end Go.Proofs.Ytanpaappecakoaa
