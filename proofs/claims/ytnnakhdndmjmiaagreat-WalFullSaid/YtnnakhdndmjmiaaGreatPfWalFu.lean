/-
  The walk of WalFull: any number, any acts.
-/
import Derived.Test.YtnnakhdndmjmiaaGreatPfWalW
set_option linter.unusedVariables false
set_option maxRecDepth 4000
namespace Go.Proofs.YtnnakhdndmjmiaaGreat.Wal
open Go.RowKit DiskP SegsP WalP Disk
open Ints (IntsAt IntsAt.keep)

theorem and31 (x : Nat) (h : x < 256) : bits .and .u8 (x : Int) 31 = ((x % 32 : Nat) : Int) := by
  rw [show (31 : Int) = ((31 : Nat) : Int) from rfl, u8_and_nat x 31 h (by decide), show (31 : Nat) = 2 ^ 5 - 1 from rfl, Nat.and_two_pow_sub_one_eq_mod]
/-- A log at rest, without a fuse, j acts behind the beginning. -/
structure Cm (lg : Lg) (st : St) (K : Kept) (m j : Nat) : Prop where
  rests : Rests lg st K
  unf : Unfused st
  ok : Ok (10 + 2000 * j) st
  gen : lg.x.gen ≤ (j : Int) + 1
  num : lg.num ≤ (j : Int) + 1
  len : st.S.length = m
  cnt : K.bats.length ≤ j
theorem Cm.more {lg : Lg} {st : St} {K : Kept} {m j : Nat} (h : Cm lg st K m j) : Cm lg st K m (j + 1) := ⟨h.rests, h.unf, h.ok.mono (by omega), by have := h.gen; omega, by have := h.num; omega, h.len, by have := h.cnt; omega⟩
theorem acts_keep {w wz : World} {a : Option Addr} {len : Nat} {f : Nat → WAct} (h : WActsAt w a len f) (hb : Below w.heap.size w wz) : WActsAt wz a len f := by
  refine ⟨h.1, h.2.imp id ?_⟩
  rintro ⟨b, off, rfl, hlt, hc⟩
  have hs := hb.size
  have hk : ∀ i v, w.cell? ⟨b, i, none⟩ = some v → wz.cell? ⟨b, i, none⟩ = some v := fun i v hv => (hb.cell (p := ⟨b, i, none⟩) hlt).trans hv
  refine ⟨b, off, rfl, by omega, fun i hi => ?_⟩
  have g := hc i hi
  exact ⟨hk _ _ g.c0, hk _ _ g.c1, hk _ _ g.c2, hk _ _ g.c3, hk _ _ g.c4, hk _ _ g.c5, g.nlo, g.nhi, g.tlo, g.thi, g.rs.keep hb, g.rz, g.rnn, g.kb.keep (L := []) (fun _ _ _ hm => by cases hm) (fun k hk _ => hb.block k hk) hs, g.kn, fun h0 y hy => by have := g.knew h0 y hy; omega, g.txs⟩
set_option maxHeartbeats 8000000 in
theorem walFull_walk (m0 : Nat) (a : Option Addr) (len cap : Nat) (f : Nat → WAct) (w : World) (h : WActsAt w a len f) (hm : m0 < 256) :
    Calls Tryz.prog 6 #[.int .u8 (m0 : Int), .slice a len cap] w fun e w' => e = .returned (.bool true) ∧ Below w.heap.size w w' := by
  obtain ⟨m, hmm⟩ : ∃ m, 10 + m0 % 32 = m := ⟨_, rfl⟩
  have hm1 : 10 ≤ m := by omega
  have hm2 : m ≤ 41 := by omega
  have hand := and31 m0 hm
  have hsum : IntKind.i64.wrap (10 + ((m0 % 32 : Nat) : Int)) = (m : Int) := by rw [IntWalk.i64_in] <;> omega
  have HN := Lib.hid (new_yes m w (by omega) (by omega))
  have HFEW := Lib.hid (fun wz (hb : Below w.heap.size w wz) => wfew_any a len cap 25 f wz (acts_keep h hb) (by decide))
  have HAW := Lib.hid (fun wz (hb : Below w.heap.size w wz) => awake_in hb)
  have HC := Lib.hid h.2
  have hl := h.1
  have HMM := Lib.hid (show (10 : Int) + (m0 : Int) % 32 = (m : Int) by omega)
  clear h hmm
  go_enter Tryz.func6, Tryz.ntmps6
  go_wp2_with fail
  rw [HMM.out]
  refine HN.out.mono ?_
  rintro e w1 ⟨d, L0, rfl, hD, hL0, hb1⟩
  have HB1 := Lib.hid hb1
  have HO := Lib.hid (open_new L0 d m w1 (by omega) (by omega) hD)
  have HL0 := Lib.hid hL0
  clear HN hD hL0 hb1
  go_wp2_with fail
  refine (HFEW.out w1 HB1.out).mono ?_
  rintro e w1' ⟨r, rfl, hr, hw1'⟩
  subst hw1'
  have HFW := Lib.hid hr
  clear hr HFEW
  cases r with
  | false =>
    go_wp2_with fail
    refine (HAW.out w1 HB1.out).mono ?_
    rintro e w2 ⟨rfl, hb2⟩
    have HB2 := Lib.hid hb2
    clear hb2 HAW
    go_wp2_with fail
    go_ret
    exact ⟨rfl, HB2.out⟩
  | true =>
    obtain ⟨hl25, hfw⟩ := HFW.out rfl
    have HFX := Lib.hid hfw
    clear hfw HFW
    go_wp2_with fail
    refine HO.out.mono ?_
    rintro e w2 ⟨st0, ⟨b, L, a1, c1, rfl, hn1, hbt1, hls1, hU1, hbig1⟩, hr1, hlen1, hu1, hok1⟩
    rw [show keptV ⟨none, []⟩ a1 c1 = .agg #[.bool false, .string ⟨#[]⟩, .slice a1 0 c1] from rfl]
    have hs1 := HB1.out.size
    have e2 : Env w w2 b d L ⟨sup0, 0, 0, false⟩ st0 [] := ⟨hls1, fun k hk => by
      rcases List.mem_cons.1 hk with g | g
      · omega
      · exact (hU1.sub k g).elim (fun q => by have := HL0.out k q; omega) (fun q => by omega), HB1.out.trans (hU1.below (fun k hk => HL0.out k hk) hs1), fun k hk => (by cases hk)⟩
    have hb3 : Below w2.heap.size w2 (w2.alloc (.cells #[.bool false, .string ⟨#[]⟩, .slice a1 0 c1] 51)) := (Below.refl _ w2).alloc (Nat.le_refl _) _
    have hk3 := heap_alloc_new w2 (.cells #[.bool false, .string ⟨#[]⟩, .slice a1 0 c1] 51)
    have e3 := e2.new (k := w2.heap.size) hb3 (Nat.le_refl _) (by rw [World.size_alloc]; omega)
    have hbats : BatsF (w2.alloc (.cells #[.bool false, .string ⟨#[]⟩, .slice a1 0 c1] 51)) (w2.heap.size :: b :: L) a1 0 [] := ⟨rfl, .inl rfl⟩
    have HE3 := Lib.hid e3
    have HV3 := Lib.hid (show VarAt (w2.alloc (.cells #[.bool false, .string ⟨#[]⟩, .slice a1 0 c1] 51)) (w2.heap.size :: b :: L) w2.heap.size ⟨none, []⟩ a1 c1 from ⟨hk3, hn1, hbats⟩)
    have HC3 := Lib.hid (show Cm ⟨sup0, 0, 0, false⟩ st0 ⟨none, []⟩ m 0 from ⟨hr1, hu1, hok1.mono (by omega), by decide, by decide, hlen1, Nat.zero_le _⟩)
    clear hn1 hbt1 hls1 hU1 hbig1 hr1 hlen1 hu1 hok1 e2 hb3 hk3 e3 hbats HO HB1 HL0 hs1
    go_wp2_with fail
    generalize w2.alloc (.cells #[.bool false, .string ⟨#[]⟩, .slice a1 0 c1] 51) = w3 at *
    generalize w2.heap.size = k8 at *
    go_loopw [10] (fun i wr => ∃ (j : Nat) (L : List Nat) (lg : Lg) (st : St) (K : Kept) (a3 : Option Addr) (c3 : Nat), j ≤ len ∧ i = .int .i64 (j : Int) ∧ Hid (Env w wr b d L lg st [k8]) ∧ Hid (VarAt wr (k8 :: b :: L) k8 K a3 c3) ∧ Hid (Cm lg st K m j)) (fun i _ => len - (intOf i).toNat)
    case atStart => exact ⟨0, L, ⟨sup0, 0, 0, false⟩, st0, ⟨none, []⟩, a1, c1, Nat.zero_le _, rfl, HE3, HV3, HC3⟩
    case round =>
      clear HE3 HV3 HC3
      obtain ⟨j, L, lg, st, K, a3, c3, hj, rfl, HE, HV, HC0⟩ := hrel
      by_cases hlt : j < len
      rotate_left
      · obtain rfl : j = len := by omega
        have HOP := Lib.hid (open_rests L d (10 + 2000 * j) lg st wr HE.out.ls.dk HC0.out.ok (by omega) K HC0.out.rests)
        go_wp2_with fail
        refine HOP.out.mono ?_
        rintro e w4 ⟨b4, L4, a4, c4, rfl, hn4, hbt4, hls4, hU4, hbig4⟩
        simp only [keptV]
        have hb5 : Below w4.heap.size w4 (w4.alloc (.cells #[.bool K.base.isSome, .string (bs (K.base.getD [])), .slice a4 K.bats.length c4] 51)) := (Below.refl _ w4).alloc (Nat.le_refl _) _
        have hk5 := heap_alloc_new w4 (.cells #[.bool K.base.isSome, .string (bs (K.base.getD [])), .slice a4 K.bats.length c4] 51)
        have hs4 := hU4.size
        have hk8 := (HE.out.own k8 (by simp))
        have hcell := (hb5.block k8 (by omega)).trans ((hU4.block k8 hk8.2.2 (fun hm => hk8.1 (List.mem_cons_of_mem _ hm))).trans HV.out.cell)
        have hrow : BatsAt (w4.alloc (.cells #[.bool K.base.isSome, .string (bs (K.base.getD [])), .slice a4 K.bats.length c4] 51)) a3 K.bats.length K.bats := (((HV.out.bats.less (G := L) (fun q hq => by simp [hq])).upd hU4).upd (Upd.of_below hb5)).at
        have hcnt := HC0.out.cnt
        have HSK := Lib.hid (sameKept_any K.base.isSome K.base.isSome (bs (K.base.getD [])) (bs (K.base.getD [])) a4 a3 K.bats.length c4 K.bats.length c3 K.bats K.bats _ ((hbt4.upd (Upd.of_below hb5)).at) hrow (by omega) (by omega) True (fun _ => ⟨rfl, rfl, rfl⟩))
        have HBZ := Lib.hid ((HE.out.bel.trans (hU4.below (fun k hk => HE.out.low k (List.mem_cons_of_mem _ hk)) HE.out.bel.size)).trans (hb5.mono (by have := HE.out.bel.size; omega)))
        have i0 : (w4.alloc (.cells #[.bool K.base.isSome, .string (bs (K.base.getD [])), .slice a4 K.bats.length c4] 51)).cell? ⟨k8, 0, none⟩ = some (.bool K.base.isSome) := cell_of_heap hcell
        have i1 : (w4.alloc (.cells #[.bool K.base.isSome, .string (bs (K.base.getD [])), .slice a4 K.bats.length c4] 51)).cell? ⟨k8, 1, none⟩ = some (.string (bs (K.base.getD []))) := cell_of_heap hcell
        have i2 : (w4.alloc (.cells #[.bool K.base.isSome, .string (bs (K.base.getD [])), .slice a4 K.bats.length c4] 51)).cell? ⟨k8, 2, none⟩ = some (.slice a3 K.bats.length c3) := cell_of_heap hcell
        clear hn4 hbt4 hls4 hU4 hbig4 hb5 hk5 hs4 hk8 hcell hrow HE HV HC0 HOP
        go_wp2_with fail
        refine HSK.out.mono ?_
        rintro e w5 ⟨r, rfl, hr, hb6⟩
        have hr := hr trivial
        subst hr
        have HB6 := Lib.hid (HBZ.out.trans (hb6.mono HBZ.out.size))
        clear hb6 HSK HBZ i0 i1 i2
        go_wp2_with fail
        refine (HAW.out w5 HB6.out).mono ?_
        rintro e w6 ⟨rfl, hb7⟩
        have HB7 := Lib.hid hb7
        clear hb7 HAW HB6
        go_wp2_with fail
        go_ret
        exact ⟨rfl, HB7.out⟩
      · obtain ⟨b0, o0, rfl, hb0, hc⟩ := HC.out.resolve_left (by omega)
        have HA := Lib.hid (hc j hlt)
        have HX := Lib.hid (HFX.out j hlt)
        have HKA := Lib.hid (fun (wz : World) (hb : Below w.heap.size w wz) (i : Nat) (v : Value) (hv : w.cell? ⟨b0, i, none⟩ = some v) => (hb.cell (p := ⟨b0, i, none⟩) hb0).trans hv)
        clear hc HC HFX
        generalize f j = x at *
        have HNM := Lib.hid (num_yes L b d lg wr HE.out.ls.lk); have HGN := Lib.hid (gen_yes L b d lg wr HE.out.ls.lk); have HOP := Lib.hid (ops_dk d st L wr HE.out.ls.dk)
        have hcnt := HC0.out.cnt
        go_wp2_with fail
        refine HNM.out.mono ?_
        rintro e wx ⟨rfl, rfl⟩
        go_wp2_with fail
        refine HGN.out.mono ?_
        rintro e wx ⟨rfl, rfl⟩
        go_wp2_with fail
        refine HOP.out.mono ?_
        rintro e wx ⟨rfl, rfl⟩
        clear HNM HGN HOP
        go_wp2_with fail
        have ED := Lib.hid HE.out.drew
        have VD := Lib.hid ((HV.out.below (Below.refl _ wr).drew).new (j := wr.drew.heap.size) (Nat.le_refl _))
        clear HE HV
        obtain ⟨wd, hwd⟩ : ∃ wd, wr.drew = wd := ⟨_, rfl⟩
        rw [hwd] at ED VD
        refine wp_region_held_drew (S := (fun w' => w'.cell? ⟨k8, 0, none⟩ = some (.bool K.base.isSome) ∧ w'.cell? ⟨k8, 1, none⟩ = some (.string (bs (K.base.getD []))) ∧ w'.cell? ⟨k8, 2, none⟩ = some (.slice a3 K.bats.length c3))) (by kernel_rfl) (by rw [hwd]; exact VD.out.three) (fun hH0 => ?_)
        rw [hwd] at hH0 ⊢
        clear hwd
        refine wpAnyH_take (i := 0) (v := ?v1) rfl ?s1 ?f1 ?r1 ?q1 (Or.inl ⟨?y1, ?z1⟩) ?h1 ?k1
        case s1 | f1 | r1 | y1 => kernel_rfl
        case q1 => exact fun _ _ _ h => h
        case z1 => (intro w' hSw; (try dsimp only at hSw); go_simp; (try with_reducible rfl))
        case h1 => exact hH0
        have hbA : Below wd.heap.size wd (wd.alloc (.cells #[.bool false, .string ⟨#[]⟩, .slice none 0 0] 51)) := (Below.refl _ wd).alloc (Nat.le_refl _) _
        have hkA := heap_alloc_new wd (.cells #[.bool false, .string ⟨#[]⟩, .slice none 0 0] 51)
        have hsA : (wd.alloc (.cells #[.bool false, .string ⟨#[]⟩, .slice none 0 0] 51)).heap.size = wd.heap.size + 1 := by simp
        obtain ⟨wa, hwa⟩ : ∃ wa, wd.alloc (.cells #[.bool false, .string ⟨#[]⟩, .slice none 0 0] 51) = wa := ⟨_, rfl⟩
        rw [hwa] at hbA hkA hsA
        have EA := ED.out.new (k := wd.heap.size) hbA (Nat.le_refl _) (by omega)
        have VA := VD.out.below hbA
        have tA := VA.three
        refine wpAnyH_ready (rs := [1]) (by kernel_rfl) (by simp) ?_
        refine AllReadyH.cons rfl (fun KK hK => ?_) AllReadyH.nil
        go_simp
        try rw [hwa]
        refine hK.out _ _ tA (fun hH1 => ?_)
        clear hK hH0 hwa
        refine wpAnyH_take (i := 2) (v := ?v2) rfl ?s2 ?f2 ?r2 ?q2 (Or.inl ⟨?y2, ?z2⟩) ?h2 ?k2
        case s2 | f2 | r2 | y2 => kernel_rfl
        case q2 => exact fun _ _ _ h => h
        case z2 => (intro w' hSw; (try dsimp only at hSw); go_simp; (try with_reducible rfl))
        case h2 => exact hH1
        have o0 := cell_of_heap (i := 0) hkA
        have o1 := cell_of_heap (i := 1) hkA
        have o2 := cell_of_heap (i := 2) hkA
        have oz0 : wa.frozen? ⟨wd.heap.size, 0, none⟩ = false := frozen_of_heap hkA
        have oz1 : wa.frozen? ⟨wd.heap.size, 1, none⟩ = false := frozen_of_heap hkA
        have oz2 : wa.frozen? ⟨wd.heap.size, 2, none⟩ = false := frozen_of_heap hkA
        have hUB := upd_putK wa wd.heap.size (.bool K.base.isSome) (.string (bs (K.base.getD []))) (.slice a3 K.bats.length c3)
        have hkB := heap_putK hkA (.bool K.base.isSome) (.string (bs (K.base.getD []))) (.slice a3 K.bats.length c3)
        obtain ⟨wb, hwB0⟩ : ∃ wb, putK wa wd.heap.size (.bool K.base.isSome) (.string (bs (K.base.getD []))) (.slice a3 K.bats.length c3) = wb := ⟨_, rfl⟩
        rw [hwB0] at hUB hkB
        have hwB : ((wa.setCell ⟨wd.heap.size, 0, none⟩ (.bool K.base.isSome)).setCell ⟨wd.heap.size, 1, none⟩ (.string (bs (K.base.getD [])))).setCell ⟨wd.heap.size, 2, none⟩ (.slice a3 K.bats.length c3) = wb := hwB0
        clear hwB0
        obtain ⟨eB, hGB⟩ := EA.put (k := wd.heap.size) (by simp) hkA hUB
        have hk8lt : k8 ≠ wd.heap.size := by have := (ED.out.own k8 (by simp)).2.2; omega
        have VB := VA.step (hUB.block k8 (heap_lt VA.cell) (fun hm => hk8lt (List.mem_singleton.1 hm))) hGB
        have NB : VarAt wb (wd.heap.size :: k8 :: b :: L) wd.heap.size K a3 c3 := ⟨hkB, VA.nn, VA.bats.upd hGB⟩
        have tB := VB.three
        refine wpAnyH_ready (rs := [3]) (by kernel_rfl) (by simp) ?_
        refine AllReadyH.cons rfl (fun KK hK => ?_) AllReadyH.nil
        go_simp
        try rw [hwB]
        refine hK.out _ _ tB (fun hH2 => ?_)
        clear hK KK hH1 hwB
        refine wpAnyH_done (by kernel_rfl) ?_ _
        have HE := Lib.hid eB; have HV := Lib.hid VB; have HN := Lib.hid NB
        clear o0 oz0 o1 oz1 o2 oz2
        clear EA VA tA hbA hkA hsA eB hGB VB NB tB hkB hUB hH2 ED VD
        generalize wd.heap.size = k15 at *
        have HNE := Lib.hid hk8lt
        clear hk8lt
        have d0 := HKA.out wb HE.out.bel _ _ HA.out.c0
        by_cases hk1 : x.kind = 1
        · have d2 := HKA.out wb HE.out.bel _ _ HA.out.c2
          have hgo : ∀ q ∈ (k15 :: k8 :: b :: L), w.heap.size ≤ q := fun q hq => by
            rcases List.mem_cons.1 hq with g | hq
            · rw [g]; exact (HE.out.own k15 (by simp)).2.1
            rcases List.mem_cons.1 hq with g | hq
            · rw [g]; exact (HE.out.own k8 (by simp)).2.1
            · exact HE.out.low q hq
          have hfew := act_few HX.out HA.out.rs.1
          have HAP := Lib.hid (append_rests L b d (10 + 2000 * j) lg st wb HE.out.ls HC0.out.ok (by omega) K ((j : Int) + 1) HC0.out.rests HC0.out.gen HC0.out.num (by omega) (x.rs.map tl) x.ra x.rn x.rc (act_strs HA.out.rs HE.out.bel hgo).1 hfew.1 hfew.2)
          clear hgo hfew
          go_wp2_with fail
          refine HAP.out.mono ?_
          intro e w2 hwent
          clear HAP d2
          rcases hwent with ⟨lg2, st2, _, ht, hr2, hl2, hn2, hg2, ho2, hu2⟩ | ⟨lg2, st2, _, _, _, hd2, _, _, hu2⟩ | ⟨c, hc, ht⟩
          · obtain ⟨rfl, L2, E2, hk2, hU2⟩ := HE.out.told ht
            have HE2 := Lib.hid E2
            have HV2 := Lib.hid (HV.out.step (hk2 k8 (by simp)) hU2)
            have HN2 := Lib.hid (HN.out.step (hk2 k15 (by simp)) hU2)
            have HR2 := Lib.hid (show Cm lg2 st2 ⟨K.base, K.bats ++ [x.rs.map tl]⟩ m (j + 1) from ⟨hr2, hu2 HC0.out.unf, ho2.mono (by omega), by omega, by omega, hl2.trans HC0.out.len, by show (K.bats ++ [x.rs.map tl]).length ≤ j + 1; rw [List.length_append, List.length_singleton]; omega⟩)
            clear ht hr2 hl2 hn2 hg2 ho2 hu2 E2 hk2 hU2 HE HV HN
            go_wp2_with fail
            have ED := Lib.hid HE2.out.drew
            have VD := Lib.hid (HV2.out.below (Below.refl _ w2).drew)
            have ND := Lib.hid (HN2.out.below (Below.refl _ w2).drew)
            obtain ⟨wd, hwd⟩ : ∃ wd, w2.drew = wd := ⟨_, rfl⟩
            rw [hwd] at ED VD ND
            have dr := HKA.out wd ED.out.bel _ _ HA.out.c2
            have hall : ∀ q ∈ (k15 :: k8 :: b :: L2), w.heap.size ≤ q ∧ q < wd.heap.size := fun q hq => by
              rcases List.mem_cons.1 hq with g | hq
              · rw [g]; exact (ED.out.own k15 (by simp)).2
              rcases List.mem_cons.1 hq with g | hq
              · rw [g]; exact (ED.out.own k8 (by simp)).2
              · refine ⟨ED.out.low q hq, ?_⟩
                rcases List.mem_cons.1 hq with g | g
                · rw [g]; exact ED.out.ls.lk.lt
                · exact ED.out.ls.dk.lt q g
            have HWI := Lib.hid (with_any K.base.isSome (bs (K.base.getD [])) a3 K.bats.length c3 K.bats x.ra x.rn x.rc (x.rs.map tl) (k15 :: k8 :: b :: L2) wd VD.out.nn VD.out.bats HA.out.rnn (act_strs HA.out.rs ED.out.bel (fun q hq => (hall q hq).1)) (fun q hq => (hall q hq).2) (by omega))
            clear HE2 HV2 HN2
            refine wp_region_held_drew (S := (fun w' => (w'.cell? ⟨k8, 0, none⟩ = some (.bool K.base.isSome) ∧ w'.cell? ⟨k8, 1, none⟩ = some (.string (bs (K.base.getD []))) ∧ w'.cell? ⟨k8, 2, none⟩ = some (.slice a3 K.bats.length c3)) ∧ w'.cell? ⟨b0, o0 + j * 6 + 2, none⟩ = some (.slice x.ra x.rn x.rc))) (by kernel_rfl) (by rw [hwd]; exact ⟨VD.out.three, dr⟩) (fun hH0 => ?_)
            rw [hwd] at hH0 ⊢
            clear hwd
            refine wpAnyH_take (i := 0) (v := ?v3) rfl ?s3 ?f3 ?r3 ?q3 (Or.inl ⟨?y3, ?z3⟩) ?h3 ?k3
            case s3 | f3 | r3 | y3 => kernel_rfl
            case q3 => exact fun _ _ _ h => h
            case z3 => (intro w' hSw; (try dsimp only at hSw); go_simp; (try with_reducible rfl))
            case h3 => exact hH0
            refine wpAnyH_take (i := 1) (v := ?v4) rfl ?s4 ?f4 ?r4 ?q4 (Or.inl ⟨?y4, ?z4⟩) ?h4 ?k4
            case s4 | f4 | r4 | y4 => kernel_rfl
            case q4 => exact fun _ _ _ h => h
            case z4 => (intro w' hSw; (try dsimp only at hSw); go_simp; (try with_reducible rfl))
            case h4 => exact hH0
            refine wpAnyH_take (i := 2) (v := ?v5) rfl ?s5 ?f5 ?r5 ?q5 (Or.inl ⟨?y5, ?z5⟩) ?h5 ?k5
            case s5 | f5 | r5 | y5 => kernel_rfl
            case q5 => exact fun _ _ _ h => h
            case z5 => (intro w' hSw; (try dsimp only at hSw); go_simp; (try with_reducible rfl))
            case h5 => exact hH0
            refine wpAnyH_take (i := 3) (v := ?v6) rfl ?s6 ?f6 ?r6 ?q6 (Or.inl ⟨?y6, ?z6⟩) ?h6 ?k6
            case s6 | f6 | r6 | y6 => kernel_rfl
            case q6 => exact fun _ _ _ h => h
            case z6 => (intro w' hSw; (try dsimp only at hSw); go_simp; (try with_reducible rfl))
            case h6 => exact hH0
            refine wpAnyH_take (i := 4) (v := ?v7) rfl ?s7 ?f7 ?r7 ?q7 (Or.inl ⟨?y7, ?z7⟩) ?h7 ?k7
            case s7 | f7 | r7 | y7 => kernel_rfl
            case q7 => exact fun _ _ _ h => h
            case z7 => (intro w' hSw; (try dsimp only at hSw); go_simp; (try with_reducible rfl))
            case h7 => exact hH0
            refine wpAnyH_take (i := 5) (v := ?v8) rfl ?s8 ?f8 ?r8 ?q8 (Or.inl ⟨?y8, ?z8⟩) ?h8 ?k8
            case s8 | f8 | r8 | y8 => kernel_rfl
            case q8 => exact fun _ _ _ h => h
            case z8 => (intro w' hSw; (try dsimp only at hSw); go_simp; (try with_reducible rfl))
            case h8 => exact hH0
            refine wpAnyH_ready (rs := [6]) (by kernel_rfl) (by simp) ?_
            refine AllReadyH.cons rfl (fun KK hK => ?_) AllReadyH.nil
            go_simp
            refine HWI.out.mono ?_
            rintro e w3 ⟨a4, c4, rfl, hn4, hbt4, hb4⟩
            have E3 := ED.out.below hb4
            have V3 := VD.out.below hb4
            have N3 := ND.out.below hb4
            have d3 := HKA.out w3 E3.bel _ _ HA.out.c2
            refine hK.out _ _ ⟨V3.three, d3⟩ (fun hH1 => ?_)
            clear hK KK hH0
            have n3c := N3.cell
            have o0 := cell_of_heap (i := 0) n3c
            have o1 := cell_of_heap (i := 1) n3c
            have o2 := cell_of_heap (i := 2) n3c
            have oz0 : w3.frozen? ⟨k15, 0, none⟩ = false := frozen_of_heap n3c
            have oz1 : w3.frozen? ⟨k15, 1, none⟩ = false := frozen_of_heap n3c
            have oz2 : w3.frozen? ⟨k15, 2, none⟩ = false := frozen_of_heap n3c
            have hU4 := upd_putK w3 k15 (.bool K.base.isSome) (.string (bs (K.base.getD []))) (.slice a4 (K.bats.length + 1) c4)
            have hk4 := heap_putK n3c (.bool K.base.isSome) (.string (bs (K.base.getD []))) (.slice a4 (K.bats.length + 1) c4)
            obtain ⟨w4, hw40⟩ : ∃ w4, putK w3 k15 (.bool K.base.isSome) (.string (bs (K.base.getD []))) (.slice a4 (K.bats.length + 1) c4) = w4 := ⟨_, rfl⟩
            rw [hw40] at hU4 hk4
            have hw4 : ((w3.setCell ⟨k15, 0, none⟩ (.bool K.base.isSome)).setCell ⟨k15, 1, none⟩ (.string (bs (K.base.getD [])))).setCell ⟨k15, 2, none⟩ (.slice a4 (K.bats.length + 1) c4) = w4 := hw40
            clear hw40
            obtain ⟨e4, hG4⟩ := E3.put (k := k15) (by simp) n3c hU4
            have hne : k8 ≠ k15 := HNE.out
            have V4 := V3.step (hU4.block k8 (heap_lt V3.cell) (fun hm => hne (List.mem_singleton.1 hm))) hG4
            have hlen4 : (K.bats ++ [x.rs.map tl]).length = K.bats.length + 1 := by simp
            have N4 : VarAt w4 (k15 :: k8 :: b :: L2) k15 ⟨K.base, K.bats ++ [x.rs.map tl]⟩ a4 c4 := ⟨by rw [hlen4]; exact hk4, hn4, by rw [hlen4]; exact hbt4.upd hG4⟩
            have d4 := HKA.out w4 e4.bel _ _ HA.out.c2
            refine wpAnyH_ready (rs := [7]) (by kernel_rfl) (by simp) ?_
            refine AllReadyH.cons rfl (fun KK hK => ?_) AllReadyH.nil
            go_simp
            try rw [hw4]
            refine hK.out _ _ ⟨V4.three, d4⟩ (fun hH2 => ?_)
            clear hK KK hH1 hw4
            refine wpAnyH_done (by kernel_rfl) ?_ _
            have HE4 := Lib.hid e4; have HV4 := Lib.hid V4; have HN4 := Lib.hid N4
            clear o0 oz0 o1 oz1 o2 oz2
            clear hn4 hbt4 hb4 E3 V3 N3 d3 n3c hU4 hk4 e4 hG4 V4 hlen4 N4 d4 hH2 ED VD ND dr hall HWI hne
            have q8 := (HV4.out.cell)
            have hU9 := upd_putK w4 k8 (.bool K.base.isSome) (.string (bs (K.base.getD []))) (.slice a4 (K.bats.length + 1) c4)
            have hk9 := heap_putK q8 (.bool K.base.isSome) (.string (bs (K.base.getD []))) (.slice a4 (K.bats.length + 1) c4)
            obtain ⟨w9, hw90⟩ : ∃ w9, putK w4 k8 (.bool K.base.isSome) (.string (bs (K.base.getD []))) (.slice a4 (K.bats.length + 1) c4) = w9 := ⟨_, rfl⟩
            rw [hw90] at hU9 hk9
            have hw9 : ((w4.setCell ⟨k8, 0, none⟩ (.bool K.base.isSome)).setCell ⟨k8, 1, none⟩ (.string (bs (K.base.getD [])))).setCell ⟨k8, 2, none⟩ (.slice a4 (K.bats.length + 1) c4) = w9 := hw90
            clear hw90
            obtain ⟨e9, hG9⟩ := HE4.out.put (k := k8) (by simp) q8 hU9
            have hlen9 : (K.bats ++ [x.rs.map tl]).length = K.bats.length + 1 := by simp
            have hc9 := HN4.out.cell
            rw [hlen9] at hc9
            have n0 : w4.cell? ⟨k15, 0, none⟩ = some (.bool K.base.isSome) := cell_of_heap hc9
            have n1 : w4.cell? ⟨k15, 1, none⟩ = some (.string (bs (K.base.getD []))) := cell_of_heap hc9
            have n2 : w4.cell? ⟨k15, 2, none⟩ = some (.slice a4 (K.bats.length + 1) c4) := cell_of_heap hc9
            clear hc9
            have o0 := cell_of_heap (i := 0) q8
            have o1 := cell_of_heap (i := 1) q8
            have o2 := cell_of_heap (i := 2) q8
            have oz0 : w4.frozen? ⟨k8, 0, none⟩ = false := frozen_of_heap q8
            have oz1 : w4.frozen? ⟨k8, 1, none⟩ = false := frozen_of_heap q8
            have oz2 : w4.frozen? ⟨k8, 2, none⟩ = false := frozen_of_heap q8
            have HE9 := Lib.hid (e9.less (G := [k8]) (fun j hj => List.mem_cons_of_mem _ hj))
            have HV9 := Lib.hid ((show VarAt w9 (k15 :: k8 :: b :: L2) k8 ⟨K.base, K.bats ++ [x.rs.map tl]⟩ a4 c4 from ⟨by rw [hlen9]; exact hk9, HN4.out.nn, HN4.out.bats.upd hG9⟩).less (G' := k8 :: b :: L2) (fun j hj => List.mem_cons_of_mem _ hj))
            have HCM := Lib.hid (HR2.out)
            clear q8 hU9 hk9 e9 hG9
            go_wp2_with fail
            go_roundw
            case rel => exact ⟨j + 1, L2, lg2, st2, ⟨K.base, K.bats ++ [x.rs.map tl]⟩, a4, c4, by omega, by go_num, HE9, HV9, HCM⟩
            case measure => simp [intOf]; omega
          · have h9 := (hu2 HC0.out.unf).2
            rw [h9] at hd2; cases hd2
          · obtain ⟨rfl, L2, E2, hk2, hU2⟩ := HE.out.told ht
            have HE2 := Lib.hid E2
            have HV2 := Lib.hid (HV.out.step (hk2 k8 (by simp)) hU2)
            have HN2 := Lib.hid (HN.out.step (hk2 k15 (by simp)) hU2)
            clear ht E2 hk2 hU2 HE HV HN
            rcases hc with rfl | rfl
            · go_wp2_with fail
              have ED := Lib.hid HE2.out.drew
              have VD := Lib.hid (HV2.out.below (Below.refl _ w2).drew)
              have ND := Lib.hid (HN2.out.below (Below.refl _ w2).drew)
              obtain ⟨wd, hwd⟩ : ∃ wd, w2.drew = wd := ⟨_, rfl⟩
              rw [hwd] at ED VD ND
              have dr := HKA.out wd ED.out.bel _ _ HA.out.c2
              have hall : ∀ q ∈ (k15 :: k8 :: b :: L2), w.heap.size ≤ q ∧ q < wd.heap.size := fun q hq => by
                rcases List.mem_cons.1 hq with g | hq
                · rw [g]; exact (ED.out.own k15 (by simp)).2
                rcases List.mem_cons.1 hq with g | hq
                · rw [g]; exact (ED.out.own k8 (by simp)).2
                · refine ⟨ED.out.low q hq, ?_⟩
                  rcases List.mem_cons.1 hq with g | g
                  · rw [g]; exact ED.out.ls.lk.lt
                  · exact ED.out.ls.dk.lt q g
              have HWI := Lib.hid (with_any K.base.isSome (bs (K.base.getD [])) a3 K.bats.length c3 K.bats x.ra x.rn x.rc (x.rs.map tl) (k15 :: k8 :: b :: L2) wd VD.out.nn VD.out.bats HA.out.rnn (act_strs HA.out.rs ED.out.bel (fun q hq => (hall q hq).1)) (fun q hq => (hall q hq).2) (by omega))
              clear HE2 HV2 HN2
              refine wp_region_held_drew (S := (fun w' => (w'.cell? ⟨k8, 0, none⟩ = some (.bool K.base.isSome) ∧ w'.cell? ⟨k8, 1, none⟩ = some (.string (bs (K.base.getD []))) ∧ w'.cell? ⟨k8, 2, none⟩ = some (.slice a3 K.bats.length c3)) ∧ w'.cell? ⟨b0, o0 + j * 6 + 2, none⟩ = some (.slice x.ra x.rn x.rc))) (by kernel_rfl) (by rw [hwd]; exact ⟨VD.out.three, dr⟩) (fun hH0 => ?_)
              rw [hwd] at hH0 ⊢
              clear hwd
              refine wpAnyH_take (i := 0) (v := ?v9) rfl ?s9 ?f9 ?r9 ?q9 (Or.inl ⟨?y9, ?z9⟩) ?h9 ?k9
              case s9 | f9 | r9 | y9 => kernel_rfl
              case q9 => exact fun _ _ _ h => h
              case z9 => (intro w' hSw; (try dsimp only at hSw); go_simp; (try with_reducible rfl))
              case h9 => exact hH0
              refine wpAnyH_take (i := 1) (v := ?v10) rfl ?s10 ?f10 ?r10 ?q10 (Or.inl ⟨?y10, ?z10⟩) ?h10 ?k10
              case s10 | f10 | r10 | y10 => kernel_rfl
              case q10 => exact fun _ _ _ h => h
              case z10 => (intro w' hSw; (try dsimp only at hSw); go_simp; (try with_reducible rfl))
              case h10 => exact hH0
              refine wpAnyH_take (i := 2) (v := ?v11) rfl ?s11 ?f11 ?r11 ?q11 (Or.inl ⟨?y11, ?z11⟩) ?h11 ?k11
              case s11 | f11 | r11 | y11 => kernel_rfl
              case q11 => exact fun _ _ _ h => h
              case z11 => (intro w' hSw; (try dsimp only at hSw); go_simp; (try with_reducible rfl))
              case h11 => exact hH0
              refine wpAnyH_take (i := 3) (v := ?v12) rfl ?s12 ?f12 ?r12 ?q12 (Or.inl ⟨?y12, ?z12⟩) ?h12 ?k12
              case s12 | f12 | r12 | y12 => kernel_rfl
              case q12 => exact fun _ _ _ h => h
              case z12 => (intro w' hSw; (try dsimp only at hSw); go_simp; (try with_reducible rfl))
              case h12 => exact hH0
              refine wpAnyH_take (i := 4) (v := ?v13) rfl ?s13 ?f13 ?r13 ?q13 (Or.inl ⟨?y13, ?z13⟩) ?h13 ?k13
              case s13 | f13 | r13 | y13 => kernel_rfl
              case q13 => exact fun _ _ _ h => h
              case z13 => (intro w' hSw; (try dsimp only at hSw); go_simp; (try with_reducible rfl))
              case h13 => exact hH0
              refine wpAnyH_take (i := 5) (v := ?v14) rfl ?s14 ?f14 ?r14 ?q14 (Or.inl ⟨?y14, ?z14⟩) ?h14 ?k14
              case s14 | f14 | r14 | y14 => kernel_rfl
              case q14 => exact fun _ _ _ h => h
              case z14 => (intro w' hSw; (try dsimp only at hSw); go_simp; (try with_reducible rfl))
              case h14 => exact hH0
              refine wpAnyH_ready (rs := [6]) (by kernel_rfl) (by simp) ?_
              refine AllReadyH.cons rfl (fun KK hK => ?_) AllReadyH.nil
              go_simp
              refine HWI.out.mono ?_
              rintro e w3 ⟨a4, c4, rfl, hn4, hbt4, hb4⟩
              have E3 := ED.out.below hb4
              have V3 := VD.out.below hb4
              have N3 := ND.out.below hb4
              have d3 := HKA.out w3 E3.bel _ _ HA.out.c2
              refine hK.out _ _ ⟨V3.three, d3⟩ (fun hH1 => ?_)
              clear hK KK hH0
              have n3c := N3.cell
              have o0 := cell_of_heap (i := 0) n3c
              have o1 := cell_of_heap (i := 1) n3c
              have o2 := cell_of_heap (i := 2) n3c
              have oz0 : w3.frozen? ⟨k15, 0, none⟩ = false := frozen_of_heap n3c
              have oz1 : w3.frozen? ⟨k15, 1, none⟩ = false := frozen_of_heap n3c
              have oz2 : w3.frozen? ⟨k15, 2, none⟩ = false := frozen_of_heap n3c
              have hU4 := upd_putK w3 k15 (.bool K.base.isSome) (.string (bs (K.base.getD []))) (.slice a4 (K.bats.length + 1) c4)
              have hk4 := heap_putK n3c (.bool K.base.isSome) (.string (bs (K.base.getD []))) (.slice a4 (K.bats.length + 1) c4)
              obtain ⟨w4, hw40⟩ : ∃ w4, putK w3 k15 (.bool K.base.isSome) (.string (bs (K.base.getD []))) (.slice a4 (K.bats.length + 1) c4) = w4 := ⟨_, rfl⟩
              rw [hw40] at hU4 hk4
              have hw4 : ((w3.setCell ⟨k15, 0, none⟩ (.bool K.base.isSome)).setCell ⟨k15, 1, none⟩ (.string (bs (K.base.getD [])))).setCell ⟨k15, 2, none⟩ (.slice a4 (K.bats.length + 1) c4) = w4 := hw40
              clear hw40
              obtain ⟨e4, hG4⟩ := E3.put (k := k15) (by simp) n3c hU4
              have hne : k8 ≠ k15 := HNE.out
              have V4 := V3.step (hU4.block k8 (heap_lt V3.cell) (fun hm => hne (List.mem_singleton.1 hm))) hG4
              have hlen4 : (K.bats ++ [x.rs.map tl]).length = K.bats.length + 1 := by simp
              have N4 : VarAt w4 (k15 :: k8 :: b :: L2) k15 ⟨K.base, K.bats ++ [x.rs.map tl]⟩ a4 c4 := ⟨by rw [hlen4]; exact hk4, hn4, by rw [hlen4]; exact hbt4.upd hG4⟩
              have d4 := HKA.out w4 e4.bel _ _ HA.out.c2
              refine wpAnyH_ready (rs := [7]) (by kernel_rfl) (by simp) ?_
              refine AllReadyH.cons rfl (fun KK hK => ?_) AllReadyH.nil
              go_simp
              try rw [hw4]
              refine hK.out _ _ ⟨V4.three, d4⟩ (fun hH2 => ?_)
              clear hK KK hH1 hw4
              refine wpAnyH_done (by kernel_rfl) ?_ _
              have HE4 := Lib.hid e4; have HV4 := Lib.hid V4; have HN4 := Lib.hid N4
              clear o0 oz0 o1 oz1 o2 oz2
              clear hn4 hbt4 hb4 E3 V3 N3 d3 n3c hU4 hk4 e4 hG4 V4 hlen4 N4 d4 hH2 ED VD ND dr hall HWI hne
              have HE9 := Lib.hid (HE4.out.less (G := [k8]) (fun j hj => by simp only [List.mem_singleton] at hj; subst hj; simp))
              have HV9 := Lib.hid (HV4.out.less (G' := k8 :: b :: L2) (fun q hq => List.mem_cons_of_mem _ hq))
              have HN9 := Lib.hid (num_yes L2 b d lg w4 HE9.out.ls.lk); have HG9 := Lib.hid (gen_yes L2 b d lg w4 HE9.out.ls.lk); have HO9 := Lib.hid (ops_dk d st L2 w4 HE9.out.ls.dk)
              have HCM := Lib.hid HC0.out.more
              go_wp2_with fail
              refine HN9.out.mono ?_
              rintro e wx ⟨rfl, rfl⟩
              go_wp2_with fail
              refine HG9.out.mono ?_
              rintro e wx ⟨rfl, rfl⟩
              go_wp2_with fail
              refine HO9.out.mono ?_
              rintro e wx ⟨rfl, rfl⟩
              clear HN9 HG9 HO9
              go_wp2_with fail
              go_roundw
              case rel => exact ⟨j + 1, L2, lg, st, K, a3, c3, by omega, by go_num, HE9, HV9, HCM⟩
              case measure => simp [intOf]; omega
            · go_wp2_with fail
              have ED := Lib.hid HE2.out.drew
              have VD := Lib.hid (HV2.out.below (Below.refl _ w2).drew)
              have ND := Lib.hid (HN2.out.below (Below.refl _ w2).drew)
              obtain ⟨wd, hwd⟩ : ∃ wd, w2.drew = wd := ⟨_, rfl⟩
              rw [hwd] at ED VD ND
              have dr := HKA.out wd ED.out.bel _ _ HA.out.c2
              have hall : ∀ q ∈ (k15 :: k8 :: b :: L2), w.heap.size ≤ q ∧ q < wd.heap.size := fun q hq => by
                rcases List.mem_cons.1 hq with g | hq
                · rw [g]; exact (ED.out.own k15 (by simp)).2
                rcases List.mem_cons.1 hq with g | hq
                · rw [g]; exact (ED.out.own k8 (by simp)).2
                · refine ⟨ED.out.low q hq, ?_⟩
                  rcases List.mem_cons.1 hq with g | g
                  · rw [g]; exact ED.out.ls.lk.lt
                  · exact ED.out.ls.dk.lt q g
              have HWI := Lib.hid (with_any K.base.isSome (bs (K.base.getD [])) a3 K.bats.length c3 K.bats x.ra x.rn x.rc (x.rs.map tl) (k15 :: k8 :: b :: L2) wd VD.out.nn VD.out.bats HA.out.rnn (act_strs HA.out.rs ED.out.bel (fun q hq => (hall q hq).1)) (fun q hq => (hall q hq).2) (by omega))
              clear HE2 HV2 HN2
              refine wp_region_held_drew (S := (fun w' => (w'.cell? ⟨k8, 0, none⟩ = some (.bool K.base.isSome) ∧ w'.cell? ⟨k8, 1, none⟩ = some (.string (bs (K.base.getD []))) ∧ w'.cell? ⟨k8, 2, none⟩ = some (.slice a3 K.bats.length c3)) ∧ w'.cell? ⟨b0, o0 + j * 6 + 2, none⟩ = some (.slice x.ra x.rn x.rc))) (by kernel_rfl) (by rw [hwd]; exact ⟨VD.out.three, dr⟩) (fun hH0 => ?_)
              rw [hwd] at hH0 ⊢
              clear hwd
              refine wpAnyH_take (i := 0) (v := ?v15) rfl ?s15 ?f15 ?r15 ?q15 (Or.inl ⟨?y15, ?z15⟩) ?h15 ?k15
              case s15 | f15 | r15 | y15 => kernel_rfl
              case q15 => exact fun _ _ _ h => h
              case z15 => (intro w' hSw; (try dsimp only at hSw); go_simp; (try with_reducible rfl))
              case h15 => exact hH0
              refine wpAnyH_take (i := 1) (v := ?v16) rfl ?s16 ?f16 ?r16 ?q16 (Or.inl ⟨?y16, ?z16⟩) ?h16 ?k16
              case s16 | f16 | r16 | y16 => kernel_rfl
              case q16 => exact fun _ _ _ h => h
              case z16 => (intro w' hSw; (try dsimp only at hSw); go_simp; (try with_reducible rfl))
              case h16 => exact hH0
              refine wpAnyH_take (i := 2) (v := ?v17) rfl ?s17 ?f17 ?r17 ?q17 (Or.inl ⟨?y17, ?z17⟩) ?h17 ?k17
              case s17 | f17 | r17 | y17 => kernel_rfl
              case q17 => exact fun _ _ _ h => h
              case z17 => (intro w' hSw; (try dsimp only at hSw); go_simp; (try with_reducible rfl))
              case h17 => exact hH0
              refine wpAnyH_take (i := 3) (v := ?v18) rfl ?s18 ?f18 ?r18 ?q18 (Or.inl ⟨?y18, ?z18⟩) ?h18 ?k18
              case s18 | f18 | r18 | y18 => kernel_rfl
              case q18 => exact fun _ _ _ h => h
              case z18 => (intro w' hSw; (try dsimp only at hSw); go_simp; (try with_reducible rfl))
              case h18 => exact hH0
              refine wpAnyH_take (i := 4) (v := ?v19) rfl ?s19 ?f19 ?r19 ?q19 (Or.inl ⟨?y19, ?z19⟩) ?h19 ?k19
              case s19 | f19 | r19 | y19 => kernel_rfl
              case q19 => exact fun _ _ _ h => h
              case z19 => (intro w' hSw; (try dsimp only at hSw); go_simp; (try with_reducible rfl))
              case h19 => exact hH0
              refine wpAnyH_take (i := 5) (v := ?v20) rfl ?s20 ?f20 ?r20 ?q20 (Or.inl ⟨?y20, ?z20⟩) ?h20 ?k20
              case s20 | f20 | r20 | y20 => kernel_rfl
              case q20 => exact fun _ _ _ h => h
              case z20 => (intro w' hSw; (try dsimp only at hSw); go_simp; (try with_reducible rfl))
              case h20 => exact hH0
              refine wpAnyH_ready (rs := [6]) (by kernel_rfl) (by simp) ?_
              refine AllReadyH.cons rfl (fun KK hK => ?_) AllReadyH.nil
              go_simp
              refine HWI.out.mono ?_
              rintro e w3 ⟨a4, c4, rfl, hn4, hbt4, hb4⟩
              have E3 := ED.out.below hb4
              have V3 := VD.out.below hb4
              have N3 := ND.out.below hb4
              have d3 := HKA.out w3 E3.bel _ _ HA.out.c2
              refine hK.out _ _ ⟨V3.three, d3⟩ (fun hH1 => ?_)
              clear hK KK hH0
              have n3c := N3.cell
              have o0 := cell_of_heap (i := 0) n3c
              have o1 := cell_of_heap (i := 1) n3c
              have o2 := cell_of_heap (i := 2) n3c
              have oz0 : w3.frozen? ⟨k15, 0, none⟩ = false := frozen_of_heap n3c
              have oz1 : w3.frozen? ⟨k15, 1, none⟩ = false := frozen_of_heap n3c
              have oz2 : w3.frozen? ⟨k15, 2, none⟩ = false := frozen_of_heap n3c
              have hU4 := upd_putK w3 k15 (.bool K.base.isSome) (.string (bs (K.base.getD []))) (.slice a4 (K.bats.length + 1) c4)
              have hk4 := heap_putK n3c (.bool K.base.isSome) (.string (bs (K.base.getD []))) (.slice a4 (K.bats.length + 1) c4)
              obtain ⟨w4, hw40⟩ : ∃ w4, putK w3 k15 (.bool K.base.isSome) (.string (bs (K.base.getD []))) (.slice a4 (K.bats.length + 1) c4) = w4 := ⟨_, rfl⟩
              rw [hw40] at hU4 hk4
              have hw4 : ((w3.setCell ⟨k15, 0, none⟩ (.bool K.base.isSome)).setCell ⟨k15, 1, none⟩ (.string (bs (K.base.getD [])))).setCell ⟨k15, 2, none⟩ (.slice a4 (K.bats.length + 1) c4) = w4 := hw40
              clear hw40
              obtain ⟨e4, hG4⟩ := E3.put (k := k15) (by simp) n3c hU4
              have hne : k8 ≠ k15 := HNE.out
              have V4 := V3.step (hU4.block k8 (heap_lt V3.cell) (fun hm => hne (List.mem_singleton.1 hm))) hG4
              have hlen4 : (K.bats ++ [x.rs.map tl]).length = K.bats.length + 1 := by simp
              have N4 : VarAt w4 (k15 :: k8 :: b :: L2) k15 ⟨K.base, K.bats ++ [x.rs.map tl]⟩ a4 c4 := ⟨by rw [hlen4]; exact hk4, hn4, by rw [hlen4]; exact hbt4.upd hG4⟩
              have d4 := HKA.out w4 e4.bel _ _ HA.out.c2
              refine wpAnyH_ready (rs := [7]) (by kernel_rfl) (by simp) ?_
              refine AllReadyH.cons rfl (fun KK hK => ?_) AllReadyH.nil
              go_simp
              try rw [hw4]
              refine hK.out _ _ ⟨V4.three, d4⟩ (fun hH2 => ?_)
              clear hK KK hH1 hw4
              refine wpAnyH_done (by kernel_rfl) ?_ _
              have HE4 := Lib.hid e4; have HV4 := Lib.hid V4; have HN4 := Lib.hid N4
              clear o0 oz0 o1 oz1 o2 oz2
              clear hn4 hbt4 hb4 E3 V3 N3 d3 n3c hU4 hk4 e4 hG4 V4 hlen4 N4 d4 hH2 ED VD ND dr hall HWI hne
              have HE9 := Lib.hid (HE4.out.less (G := [k8]) (fun j hj => by simp only [List.mem_singleton] at hj; subst hj; simp))
              have HV9 := Lib.hid (HV4.out.less (G' := k8 :: b :: L2) (fun q hq => List.mem_cons_of_mem _ hq))
              have HN9 := Lib.hid (num_yes L2 b d lg w4 HE9.out.ls.lk); have HG9 := Lib.hid (gen_yes L2 b d lg w4 HE9.out.ls.lk); have HO9 := Lib.hid (ops_dk d st L2 w4 HE9.out.ls.dk)
              have HCM := Lib.hid HC0.out.more
              go_wp2_with fail
              refine HN9.out.mono ?_
              rintro e wx ⟨rfl, rfl⟩
              go_wp2_with fail
              refine HG9.out.mono ?_
              rintro e wx ⟨rfl, rfl⟩
              go_wp2_with fail
              refine HO9.out.mono ?_
              rintro e wx ⟨rfl, rfl⟩
              clear HN9 HG9 HO9
              go_wp2_with fail
              go_roundw
              case rel => exact ⟨j + 1, L2, lg, st, K, a3, c3, by omega, by go_num, HE9, HV9, HCM⟩
              case measure => simp [intOf]; omega
        · by_cases hk2 : x.kind = 2
          · go_wp2_with fail
            have ED := Lib.hid HE.out.drew
            have VD := Lib.hid (HV.out.below (Below.refl _ wb).drew)
            have ND := Lib.hid (HN.out.below (Below.refl _ wb).drew)
            obtain ⟨wd, hwd⟩ : ∃ wd, wb.drew = wd := ⟨_, rfl⟩
            rw [hwd] at ED VD ND
            have dn := HKA.out wd ED.out.bel _ _ HA.out.c1
            have dt := HKA.out wd ED.out.bel _ _ HA.out.c3
            have HLO := Lib.hid (long_any x.tx x.n wd HX.out.tx HA.out.nlo HA.out.nhi)
            clear HE HV HN
            refine wp_region_held_drew (S := (fun w' => w'.cell? ⟨b0, o0 + j * 6 + 1, none⟩ = some (.int .i64 x.n) ∧ w'.cell? ⟨b0, o0 + j * 6 + 3, none⟩ = some (.string x.tx))) (by kernel_rfl) (by rw [hwd]; exact ⟨dn, dt⟩) (fun hH0 => ?_)
            rw [hwd] at hH0 ⊢
            clear hwd
            refine wpAnyH_take (i := 0) (v := ?v21) rfl ?s21 ?f21 ?r21 ?q21 (Or.inl ⟨?y21, ?z21⟩) ?h21 ?k21
            case s21 | f21 | r21 | y21 => kernel_rfl
            case q21 => exact fun _ _ _ h => h
            case z21 => (intro w' hSw; (try dsimp only at hSw); go_simp; (try with_reducible rfl))
            case h21 => exact hH0
            refine wpAnyH_take (i := 1) (v := ?v22) rfl ?s22 ?f22 ?r22 ?q22 (Or.inl ⟨?y22, ?z22⟩) ?h22 ?k22
            case s22 | f22 | r22 | y22 => kernel_rfl
            case q22 => exact fun _ _ _ h => h
            case z22 => (intro w' hSw; (try dsimp only at hSw); go_simp; (try with_reducible rfl))
            case h22 => exact hH0
            refine wpAnyH_take (i := 2) (v := ?v23) rfl ?s23 ?f23 ?r23 ?q23 (Or.inl ⟨?y23, ?z23⟩) ?h23 ?k23
            case s23 | f23 | r23 | y23 => kernel_rfl
            case q23 => exact fun _ _ _ h => h
            case z23 => (intro w' hSw; (try dsimp only at hSw); go_simp; (try with_reducible rfl))
            case h23 => exact hH0
            refine wpAnyH_take (i := 3) (v := ?v24) rfl ?s24 ?f24 ?r24 ?q24 (Or.inl ⟨?y24, ?z24⟩) ?h24 ?k24
            case s24 | f24 | r24 | y24 => kernel_rfl
            case q24 => exact fun _ _ _ h => h
            case z24 => (intro w' hSw; (try dsimp only at hSw); go_simp; (try with_reducible rfl))
            case h24 => exact hH0
            refine wpAnyH_take (i := 4) (v := ?v25) rfl ?s25 ?f25 ?r25 ?q25 (Or.inl ⟨?y25, ?z25⟩) ?h25 ?k25
            case s25 | f25 | r25 | y25 => kernel_rfl
            case q25 => exact fun _ _ _ h => h
            case z25 => (intro w' hSw; (try dsimp only at hSw); go_simp; (try with_reducible rfl))
            case h25 => exact hH0
            refine wpAnyH_take (i := 5) (v := ?v26) rfl ?s26 ?f26 ?r26 ?q26 (Or.inl ⟨?y26, ?z26⟩) ?h26 ?k26
            case s26 | f26 | r26 | y26 => kernel_rfl
            case q26 => exact fun _ _ _ h => h
            case z26 => (intro w' hSw; (try dsimp only at hSw); go_simp; (try with_reducible rfl))
            case h26 => exact hH0
            refine wpAnyH_take (i := 6) (v := ?v27) rfl ?s27 ?f27 ?r27 ?q27 (Or.inl ⟨?y27, ?z27⟩) ?h27 ?k27
            case s27 | f27 | r27 | y27 => kernel_rfl
            case q27 => exact fun _ _ _ h => h
            case z27 => (intro w' hSw; (try dsimp only at hSw); go_simp; (try with_reducible rfl))
            case h27 => exact hH0
            refine wpAnyH_take (i := 7) (v := ?v28) rfl ?s28 ?f28 ?r28 ?q28 (Or.inl ⟨?y28, ?z28⟩) ?h28 ?k28
            case s28 | f28 | r28 | y28 => kernel_rfl
            case q28 => exact fun _ _ _ h => h
            case z28 => (intro w' hSw; (try dsimp only at hSw); go_simp; (try with_reducible rfl))
            case h28 => exact hH0
            refine wpAnyH_take (i := 8) (v := ?v29) rfl ?s29 ?f29 ?r29 ?q29 (Or.inl ⟨?y29, ?z29⟩) ?h29 ?k29
            case s29 | f29 | r29 | y29 => kernel_rfl
            case q29 => exact fun _ _ _ h => h
            case z29 => (intro w' hSw; (try dsimp only at hSw); go_simp; (try with_reducible rfl))
            case h29 => exact hH0
            refine wpAnyH_take (i := 9) (v := ?v30) rfl ?s30 ?f30 ?r30 ?q30 (Or.inl ⟨?y30, ?z30⟩) ?h30 ?k30
            case s30 | f30 | r30 | y30 => kernel_rfl
            case q30 => exact fun _ _ _ h => h
            case z30 => (intro w' hSw; (try dsimp only at hSw); go_simp; (try with_reducible rfl))
            case h30 => exact hH0
            refine wpAnyH_ready (rs := [10]) (by kernel_rfl) (by simp) ?_
            refine AllReadyH.cons rfl (fun KK hK => ?_) AllReadyH.nil
            go_simp
            refine HLO.out.mono ?_
            rintro e wz ⟨t, rfl, htz, hwz⟩
            subst hwz
            refine hK.out _ _ ⟨dn, dt⟩ (fun hH1 => ?_)
            clear hK KK hH0
            refine wpAnyH_take (i := 11) (v := ?v31) rfl ?s31 ?f31 ?r31 ?q31 (Or.inl ⟨?y31, ?z31⟩) ?h31 ?k31
            case s31 | f31 | r31 | y31 => kernel_rfl
            case q31 => exact fun _ _ _ h => h
            case z31 => (intro w' hSw; (try dsimp only at hSw); go_simp; (try with_reducible rfl))
            case h31 => exact hH1
            have n3c := ND.out.cell
            have o0 := cell_of_heap (i := 0) n3c
            have o1 := cell_of_heap (i := 1) n3c
            have o2 := cell_of_heap (i := 2) n3c
            have oz0 : wd.frozen? ⟨k15, 0, none⟩ = false := frozen_of_heap n3c
            have oz1 : wd.frozen? ⟨k15, 1, none⟩ = false := frozen_of_heap n3c
            have oz2 : wd.frozen? ⟨k15, 2, none⟩ = false := frozen_of_heap n3c
            have hU4 := upd_putK wd k15 (.bool true) (.string t) (.slice none 0 0)
            have hk4 := heap_putK n3c (.bool true) (.string t) (.slice none 0 0)
            obtain ⟨w4, hw40⟩ : ∃ w4, putK wd k15 (.bool true) (.string t) (.slice none 0 0) = w4 := ⟨_, rfl⟩
            rw [hw40] at hU4 hk4
            have hw4 : ((wd.setCell ⟨k15, 0, none⟩ (.bool true)).setCell ⟨k15, 1, none⟩ (.string t)).setCell ⟨k15, 2, none⟩ (.slice none 0 0) = w4 := hw40
            clear hw40
            obtain ⟨e4, hG4⟩ := ED.out.put (k := k15) (by simp) n3c hU4
            have hne : k8 ≠ k15 := HNE.out
            have V4 := VD.out.step (hU4.block k8 (heap_lt VD.out.cell) (fun hm => hne (List.mem_singleton.1 hm))) hG4
            have N4 : VarAt w4 (k15 :: k8 :: b :: L) k15 ⟨some (tl t), []⟩ none 0 := ⟨by show w4.heap[k15]? = some (.cells #[.bool true, .string (bs (tl t)), .slice none 0 0] 51 (0, 0)); rw [bs_tl]; exact hk4, fun _ => rfl, ⟨rfl, .inl rfl⟩⟩
            have dn4 := HKA.out w4 e4.bel _ _ HA.out.c1
            have dt4 := HKA.out w4 e4.bel _ _ HA.out.c3
            refine wpAnyH_ready (rs := [12]) (by kernel_rfl) (by simp) ?_
            refine AllReadyH.cons rfl (fun KK hK => ?_) AllReadyH.nil
            go_simp
            try rw [hw4]
            refine hK.out _ _ ⟨dn4, dt4⟩ (fun hH2 => ?_)
            clear hK KK hH1 hw4
            refine wpAnyH_done (by kernel_rfl) ?_ _
            have HE4 := Lib.hid e4; have HV4 := Lib.hid V4; have HN4 := Lib.hid N4
            have n1c : w4.cell? ⟨k15, 1, none⟩ = some (.string t) := cell_of_heap hk4
            have hck := check_rests L b d (10 + 2000 * j) lg st w4 e4.ls HC0.out.ok (by omega) K ((j : Int) + 1) HC0.out.rests HC0.out.gen HC0.out.num (by omega) (tl t) (by rw [tl_length]; omega)
            rw [bs_tl] at hck
            have HCK := Lib.hid hck
            clear o0 oz0 o1 oz1 o2 oz2
            clear n3c hU4 hk4 e4 hG4 V4 N4 dn4 dt4 hH2 ED VD ND dn dt HLO hck hne
            go_wp2_with fail
            refine HCK.out.mono ?_
            intro e w5 hwent
            clear HCK n1c
            rcases hwent with ⟨lg2, st2, _, ht, hr2, hl2, hn2, hg2, ho2, hu2⟩ | ⟨lg2, st2, _, _, _, hd2, _, _, hu2⟩ | ⟨c, hc, ht⟩
            · obtain ⟨rfl, L2, E2, hk2, hU2⟩ := HE4.out.told ht
              have HE5 := Lib.hid E2
              have HV5 := Lib.hid (HV4.out.step (hk2 k8 (by simp)) hU2)
              have HN5 := Lib.hid (HN4.out.step (hk2 k15 (by simp)) hU2)
              have HR2 := Lib.hid (show Cm lg2 st2 ⟨some (tl t), []⟩ m (j + 1) from ⟨hr2, hu2 HC0.out.unf, ho2.mono (by omega), by omega, by omega, hl2.trans HC0.out.len, Nat.zero_le _⟩)
              clear ht hr2 hl2 hn2 hg2 ho2 hu2 E2 hk2 hU2 HE4 HV4 HN4
              have q8 := (HV5.out.cell)
              have hU9 := upd_putK w5 k8 (.bool true) (.string t) (.slice none 0 0)
              have hk9 := heap_putK q8 (.bool true) (.string t) (.slice none 0 0)
              obtain ⟨w9, hw90⟩ : ∃ w9, putK w5 k8 (.bool true) (.string t) (.slice none 0 0) = w9 := ⟨_, rfl⟩
              rw [hw90] at hU9 hk9
              have hw9 : ((w5.setCell ⟨k8, 0, none⟩ (.bool true)).setCell ⟨k8, 1, none⟩ (.string t)).setCell ⟨k8, 2, none⟩ (.slice none 0 0) = w9 := hw90
              clear hw90
              obtain ⟨e9, hG9⟩ := HE5.out.put (k := k8) (by simp) q8 hU9
              have hc9 : w5.heap[k15]? = some (.cells #[.bool true, .string t, .slice none 0 0] 51 (0, 0)) := by
                have h9 : w5.heap[k15]? = some (.cells #[.bool true, .string (bs (tl t)), .slice none 0 0] 51 (0, 0)) := HN5.out.cell
                rw [bs_tl] at h9; exact h9
              have n0 : w5.cell? ⟨k15, 0, none⟩ = some (.bool true) := cell_of_heap hc9
              have n1 : w5.cell? ⟨k15, 1, none⟩ = some (.string t) := cell_of_heap hc9
              have n2 : w5.cell? ⟨k15, 2, none⟩ = some (.slice none 0 0) := cell_of_heap hc9
              clear hc9
              have o0 := cell_of_heap (i := 0) q8
              have o1 := cell_of_heap (i := 1) q8
              have o2 := cell_of_heap (i := 2) q8
              have oz0 : w5.frozen? ⟨k8, 0, none⟩ = false := frozen_of_heap q8
              have oz1 : w5.frozen? ⟨k8, 1, none⟩ = false := frozen_of_heap q8
              have oz2 : w5.frozen? ⟨k8, 2, none⟩ = false := frozen_of_heap q8
              have HE9 := Lib.hid (e9.less (G := [k8]) (fun j hj => List.mem_cons_of_mem _ hj))
              have HV9 := Lib.hid ((show VarAt w9 (k15 :: k8 :: b :: L2) k8 ⟨some (tl t), []⟩ none 0 from ⟨by show w9.heap[k8]? = some (.cells #[.bool true, .string (bs (tl t)), .slice none 0 0] 51 (0, 0)); rw [bs_tl]; exact hk9, HN5.out.nn, HN5.out.bats.upd hG9⟩).less (G' := k8 :: b :: L2) (fun j hj => List.mem_cons_of_mem _ hj))
              have HCM := Lib.hid (HR2.out)
              clear q8 hU9 hk9 e9 hG9
              go_wp2_with fail
              go_roundw
              case rel => exact ⟨j + 1, L2, lg2, st2, ⟨some (tl t), []⟩, none, 0, by omega, by go_num, HE9, HV9, HCM⟩
              case measure => simp [intOf]; omega
            · have h9 := (hu2 HC0.out.unf).2
              rw [h9] at hd2; cases hd2
            · obtain ⟨rfl, L2, E2, hk2, hU2⟩ := HE4.out.told ht
              have HE5 := Lib.hid E2
              have HV5 := Lib.hid (HV4.out.step (hk2 k8 (by simp)) hU2)
              clear ht E2 hk2 hU2 HE4 HV4 HN4
              rcases hc with rfl | rfl
              · have HE9 := Lib.hid (HE5.out.less (G := [k8]) (fun j hj => by simp only [List.mem_singleton] at hj; subst hj; simp))
                have HV9 := Lib.hid (HV5.out.less (G' := k8 :: b :: L2) (fun q hq => List.mem_cons_of_mem _ hq))
                have HN9 := Lib.hid (num_yes L2 b d lg w5 HE9.out.ls.lk); have HG9 := Lib.hid (gen_yes L2 b d lg w5 HE9.out.ls.lk); have HO9 := Lib.hid (ops_dk d st L2 w5 HE9.out.ls.dk)
                have HCM := Lib.hid HC0.out.more
                go_wp2_with fail
                refine HN9.out.mono ?_
                rintro e wx ⟨rfl, rfl⟩
                go_wp2_with fail
                refine HG9.out.mono ?_
                rintro e wx ⟨rfl, rfl⟩
                go_wp2_with fail
                refine HO9.out.mono ?_
                rintro e wx ⟨rfl, rfl⟩
                clear HN9 HG9 HO9
                go_wp2_with fail
                go_roundw
                case rel => exact ⟨j + 1, L2, lg, st, K, a3, c3, by omega, by go_num, HE9, HV9, HCM⟩
                case measure => simp [intOf]; omega
              · have HE9 := Lib.hid (HE5.out.less (G := [k8]) (fun j hj => by simp only [List.mem_singleton] at hj; subst hj; simp))
                have HV9 := Lib.hid (HV5.out.less (G' := k8 :: b :: L2) (fun q hq => List.mem_cons_of_mem _ hq))
                have HN9 := Lib.hid (num_yes L2 b d lg w5 HE9.out.ls.lk); have HG9 := Lib.hid (gen_yes L2 b d lg w5 HE9.out.ls.lk); have HO9 := Lib.hid (ops_dk d st L2 w5 HE9.out.ls.dk)
                have HCM := Lib.hid HC0.out.more
                go_wp2_with fail
                refine HN9.out.mono ?_
                rintro e wx ⟨rfl, rfl⟩
                go_wp2_with fail
                refine HG9.out.mono ?_
                rintro e wx ⟨rfl, rfl⟩
                go_wp2_with fail
                refine HO9.out.mono ?_
                rintro e wx ⟨rfl, rfl⟩
                clear HN9 HG9 HO9
                go_wp2_with fail
                go_roundw
                case rel => exact ⟨j + 1, L2, lg, st, K, a3, c3, by omega, by go_num, HE9, HV9, HCM⟩
                case measure => simp [intOf]; omega
          · have HE9 := Lib.hid (HE.out.less (G := [k8]) (fun j hj => by simp only [List.mem_singleton] at hj; subst hj; simp))
            have HV9 := Lib.hid (HV.out.less (G' := k8 :: b :: L) (fun q hq => List.mem_cons_of_mem _ hq))
            have HN9 := Lib.hid (num_yes L b d lg wb HE9.out.ls.lk); have HG9 := Lib.hid (gen_yes L b d lg wb HE9.out.ls.lk); have HO9 := Lib.hid (ops_dk d st L wb HE9.out.ls.dk)
            have HCM := Lib.hid HC0.out.more
            go_wp2_with fail
            refine HN9.out.mono ?_
            rintro e wx ⟨rfl, rfl⟩
            go_wp2_with fail
            refine HG9.out.mono ?_
            rintro e wx ⟨rfl, rfl⟩
            go_wp2_with fail
            refine HO9.out.mono ?_
            rintro e wx ⟨rfl, rfl⟩
            clear HN9 HG9 HO9
            go_wp2_with fail
            go_roundw
            case rel => exact ⟨j + 1, L, lg, st, K, a3, c3, by omega, by go_num, HE9, HV9, HCM⟩
            case measure => simp [intOf]; omega
end Go.Proofs.YtnnakhdndmjmiaaGreat.Wal
