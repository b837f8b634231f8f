/-
  The contract of the document's Crash: any disk, whatever is kept, any tear.
-/
import Derived.Test.YtklklcohbfnpjaaDiskF
set_option linter.unusedVariables false
set_option maxRecDepth 4000
namespace Go.Proofs.Ytklklcohbfnpjaa
open Go.RowKit DiskP

/-- A slice of bools told of its cells. -/
def BoolsAt (w : World) (a : Option Addr) (len : Nat) (ks : List Bool) : Prop :=
  ks.length = len ∧ (len = 0 ∨ ∃ b off, a = some ⟨b, off, none⟩ ∧ b < w.heap.size ∧ ∀ i, i < len → w.cell? ⟨b, off + i, none⟩ = some (.bool (keeps ks i)))
theorem BoolsAt.keep {w w' : World} {a : Option Addr} {len : Nat} {ks : List Bool} {L : List Nat} (h : BoolsAt w a len ks) (hf : 0 < len → ∀ x, a = some x → x.block ∉ L) (hu : ∀ k, k < w.heap.size → k ∉ L → w'.heap[k]? = w.heap[k]?) (hs : w.heap.size ≤ w'.heap.size) : BoolsAt w' a len ks := by
  refine ⟨h.1, ?_⟩
  rcases Nat.eq_zero_or_pos len with h0 | h0
  · exact .inl h0
  rcases h.2 with h1 | ⟨b, off, rfl, hb, hc⟩
  · exact .inl h1
  · exact .inr ⟨b, off, rfl, by omega, fun i hi => (World.cell?_of_block (a := ⟨b, off + i, none⟩) (hu b hb (hf h0 _ rfl))).trans (hc i hi)⟩
/-- What the search for the last kept one has found ahead of number j. -/
def LastAt (ks : List Bool) (j : Nat) (l : Int) : Prop := -1 ≤ l ∧ l < (j : Int) ∧ (∀ i : Nat, l < (i : Int) → i < j → keeps ks i = false) ∧ (0 ≤ l → keeps ks l.toNat = true)
theorem last_start (ks : List Bool) : LastAt ks 0 (-1) := ⟨by omega, by omega, fun i _ h => by omega, fun h => by omega⟩
theorem last_yes {ks : List Bool} {j : Nat} {l : Int} (h : LastAt ks j l) (hk : keeps ks j = true) : LastAt ks (j + 1) (j : Int) :=
  ⟨by omega, by omega, fun i h1 h2 => by omega, fun _ => by rw [Int.toNat_natCast]; exact hk⟩
theorem last_no {ks : List Bool} {j : Nat} {l : Int} (h : LastAt ks j l) (hk : keeps ks j = false) : LastAt ks (j + 1) l :=
  ⟨h.1, by have := h.2.1; omega, fun i h1 h2 => by
    by_cases e : i = j
    · subst e; exact hk
    · exact h.2.2.1 i h1 (by omega), h.2.2.2⟩
/-- The last kept one is the last. -/
theorem last_is {W : List Wr} {ks : List Bool} {m i : Nat} (h : LastAt ks m (i : Int)) (hm : m ≤ W.length ∧ m ≤ ks.length ∧ ¬ (m < W.length ∧ m < ks.length)) : kept (W.drop (i + 1)) (ks.drop (i + 1)) = [] :=
  kept_all_false W.length (i + 1) W (by omega) (fun j h1 h2 h3 => h.2.2.1 j (by omega) (by omega))
theorem last_not {W : List Wr} {ks : List Bool} {m i : Nat} {l : Int} (h : LastAt ks m l) (hm : m ≤ W.length ∧ m ≤ ks.length) (hi : i < m) (hk : keeps ks i = true) (hne : (i : Int) ≠ l) : kept (W.drop (i + 1)) (ks.drop (i + 1)) ≠ [] := by
  have h1 : (i : Int) < l := by
    apply Classical.byContradiction
    intro hn
    have := h.2.2.1 i (by omega) hi
    rw [hk] at this
    cases this
  have h2 := h.2.2.2 (by omega)
  have h3 := h.2.1
  exact kept_some (j := l.toNat) (by omega) h2 l.toNat (i + 1) (by omega) (by omega)
/-- One round of the crash: what is kept of the rest. -/
theorem crash_no {W : List Wr} {ks : List Bool} {S : List ByteArray} {t : Int} {i : Nat} (hi : i < W.length) (hk : keeps ks i = false) : crS S t (kept (W.drop i) (ks.drop i)) = crS S t (kept (W.drop (i + 1)) (ks.drop (i + 1))) := by
  rw [kept_drop hi, hk, if_neg (by decide)]
theorem crash_last {W : List Wr} {ks : List Bool} {S : List ByteArray} {t : Int} {i x : Nat} {y : ByteArray} (hi : i < W.length) (hx : W[i].1 = x) (hy : W[i].2 = y) (hk : keeps ks i = true) (hl : kept (W.drop (i + 1)) (ks.drop (i + 1)) = []) :
    crS S t (kept (W.drop i) (ks.drop i)) = crS (S.set x (torn y (S.getD x ByteArray.empty) t)) t (kept (W.drop (i + 1)) (ks.drop (i + 1))) := by
  subst hx hy
  rw [kept_drop hi, hk, if_pos rfl, crS_last _ _ _ hl, hl]
  rfl
theorem crash_more {W : List Wr} {ks : List Bool} {S : List ByteArray} {t : Int} {i x : Nat} {y : ByteArray} (hi : i < W.length) (hx : W[i].1 = x) (hy : W[i].2 = y) (hk : keeps ks i = true) (hl : kept (W.drop (i + 1)) (ks.drop (i + 1)) ≠ []) :
    crS S t (kept (W.drop i) (ks.drop i)) = crS (S.set x y) t (kept (W.drop (i + 1)) (ks.drop (i + 1))) := by
  subst hx hy
  rw [kept_drop hi, hk, if_pos rfl, crS_more _ _ _ hl]
theorem torn_whole {a b : ByteArray} {t : Int} (h : t < 1 ∨ 128 ≤ t) : torn a b t = a := by unfold torn; rw [if_pos h]
theorem torn_part (a b : ByteArray) {k : Nat} (h1 : 1 ≤ k) (h2 : k < 128) : torn a b (k : Int) = a.extract 0 k ++ b.extract k b.size := by unfold torn; rw [if_neg (by omega)]; rfl
theorem RkAt.same {w w' : World} {b g cap : Nat} {st : St} {wv : Value} (h : RkAt w b st g cap wv) (hh : w'.heap = w.heap) : RkAt w' b st g cap wv := h.keep (fun k _ => by rw [hh])
/-- Behind a crash: no write waits, it does not stand still, nothing is set. -/
theorem rk_crashed {w : World} {b g cap : Nat} {st : St} {wv : Value} (h : RkAt w b st g cap wv) (hw : st.W = []) (hv : wv = .slice none 0 0) :
    RkAt ((w.setCell ⟨b, 4, none⟩ (.bool false)).setCell ⟨b, 2, none⟩ (.int .i64 0)) b { st with W := [], left := 0, dead := false } g cap wv ∧ Upd (foot b g wv) w ((w.setCell ⟨b, 4, none⟩ (.bool false)).setCell ⟨b, 2, none⟩ (.int .i64 0)) (foot b g wv) := by
  have hs1 := Lib.grownBy_setCell w b 4 (.bool false)
  have hs2 := hs1.trans (Lib.grownBy_setCell _ b 2 (.int .i64 0))
  refine ⟨⟨?_, ?_, ?_⟩, Upd.of_grown hs2 (by simp [foot])⟩
  · exact Lib.heap_setCell_same (i := 2) (Lib.heap_setCell_same (i := 4) h.blk _) _
  · exact owns_heap h.sec (fun j e => hs2.block j (owns_lt h.sec e) (fun e2 => h.bg (by cases e2; simpa [Value.ownBlock] using e.symm)))
  · subst hv; exact World.ownsRow_nil _ _ _ _
theorem set_shape {S : List ByteArray} {n k : Nat} {y : ByteArray} (h : S.length = n ∧ ∀ s ∈ S, s.size = 128) (hy : y.size = 128) : (S.set k y).length = n ∧ ∀ s ∈ S.set k y, s.size = 128 :=
  ⟨by rw [List.length_set]; exact h.1, fun s hs => by
    rcases mem_set hs with hs | rfl
    · exact h.2 s hs
    · exact hy⟩
theorem torn_size2 {a b : ByteArray} {k : Nat} (ha : a.size = 128) (hb : b.size = 128) (h1 : 1 ≤ k) (h2 : k < 128) : (a.extract 0 k ++ b.extract k b.size).size = 128 := by
  rw [ByteArray.size_append, ByteArray.size_extract, ByteArray.size_extract]; omega
set_option maxRecDepth 100000 in
set_option maxHeartbeats 4000000 in
theorem rcrash_rk (b n : Nat) (st : St) (L : List Nat) (ka : Option Addr) (klen kcap : Nat) (ks : List Bool) (t : Int) (w : World) (h : Rk w L b st) (hok : Ok n st) (hn : n ≤ 1000000000)
    (hk : BoolsAt w ka klen ks) (hkl : klen ≤ 1000000000) (hkf : 0 < klen → ∀ x, ka = some x → x.block ∉ L) :
    Calls Try.prog 46 #[.pointer (some ⟨b, 0, none⟩), .slice ka klen kcap, .int .i64 t] w (Rid w L b (cr st ks t) (.tuple #[])) := by
  obtain ⟨g, cap, wv, h, rfl⟩ := h
  have c1 : w.cell? ⟨b, 1, none⟩ = some wv := cell_of_heap h.blk
  have hsl := hok.hi
  have hwn : st.W.length ≤ 1000000000 := by have := hok.wn; omega
  have HAT := Lib.hid (fun x hx => hok.wat x hx)
  have HSZ := Lib.hid (fun x hx => hok.wsz x hx)
  have HSEC := Lib.hid (show ∀ s ∈ st.S, s.size = 128 from hok.sec)
  have HH := Lib.hid h
  have hcs := wts_cases h.wts
  have HCS := Lib.hid hcs
  have HK := Lib.hid hk; have HKF := Lib.hid hkf
  have HKL := Lib.hid hk.1
  clear hok hcs hk hkf h
  rcases HCS.out with ⟨rfl, hW0⟩ | ⟨q, qc, rfl⟩
  · -- nothing waits
    have HR := Lib.hid (rk_done HH.out)
    have HCR := Lib.hid (show cr st ks t = { st with W := [], left := 0, dead := false } by unfold cr; rw [hW0, kept_nil]; rfl)
    clear hW0
    rw [HCR.out]
    have hblk := HH.out.blk
    have f1 : w.frozen? ⟨b, 1, none⟩ = false := frozen_of_heap hblk
    have c4 : w.cell? ⟨b, 4, none⟩ = some (.bool st.dead) := cell_of_heap hblk
    have f4 : w.frozen? ⟨b, 4, none⟩ = false := frozen_of_heap hblk
    have c2 : w.cell? ⟨b, 2, none⟩ = some (.int .i64 (st.left : Int)) := cell_of_heap hblk
    have f2 : w.frozen? ⟨b, 2, none⟩ = false := frozen_of_heap hblk
    clear hblk
    go_enter Try.func46, Try.ntmps46
    go_wp2_with fail
    go_loop [6, 7] (fun l i => l = .int .i64 (-1) ∧ i = .int .i64 0) (fun _ _ => 0)
    case atStart => exact ⟨rfl, rfl⟩
    case round =>
      obtain ⟨rfl, rfl⟩ := hrel
      go_wp2_with fail
      go_loop [8] (fun i => i = .int .i64 0) (fun _ => 0)
      case atStart => rfl
      case round =>
        obtain rfl := hrel
        go_wp2_with fail
        go_end0
        obtain ⟨hR3, hU3⟩ := HR.out
        obtain ⟨hR4, hU4⟩ := rk_crashed hR3 rfl rfl
        exact ⟨rfl, _, ⟨_, _, _, hR4, rfl⟩, hU3.trans hU4⟩
  · obtain ⟨m, hm⟩ : ∃ m, m ≤ st.W.length ∧ m ≤ klen ∧ ¬ (m < st.W.length ∧ m < klen) := ⟨min st.W.length klen, by omega, by omega, by omega⟩
    obtain ⟨hm1, hm2, hm3⟩ := hm
    go_enter Try.func46, Try.ntmps46
    go_wp2_with fail
    go_loop [6, 7] (fun v i => ∃ (j : Nat) (l : Int), j ≤ m ∧ i = .int .i64 (j : Int) ∧ v = .int .i64 l ∧ Hid (LastAt ks j l)) (fun _ i => m - (intOf i).toNat)
    case atStart => exact ⟨0, -1, Nat.zero_le _, rfl, rfl, last_start ks⟩
    case round =>
      obtain ⟨j, l, hj, rfl, rfl, hl⟩ := hrel
      by_cases hlt : j < m
      · have hj1 : j < st.W.length := by omega
        have hj2 : j < klen := by omega
        rcases HK.out.2 with h0 | ⟨kb, koff, rfl, hkb, hkc⟩
        · omega
        have d0 := hkc j hj2
        clear hkc
        cases hv : keeps ks j with
        | true =>
          rw [hv] at d0
          have HL := Lib.hid (last_yes hl.out hv)
          clear hl hv
          go_wp2_with fail
          go_round
          case rel => exact ⟨j + 1, (j : Int), by omega, by go_num, rfl, HL⟩
          case measure => simp [intOf]; omega
        | false =>
          rw [hv] at d0
          have HL := Lib.hid (last_no hl.out hv)
          clear hl hv
          go_wp2_with fail
          go_round
          case rel => exact ⟨j + 1, l, by omega, by go_num, rfl, HL⟩
          case measure => simp [intOf]; omega
      · obtain rfl : j = m := by omega
        have HL := hl
        clear hl
        have hl1 : -1 ≤ l := HL.out.1
        have hl2 : l < (j : Int) := HL.out.2.1
        have hend : (((j : Nat) : Int) < (st.W.length : Int)) → ¬ (((j : Nat) : Int) < (klen : Int)) := by omega
        by_cases hjw : j < st.W.length
        all_goals
          go_wp2_with fail
          go_loopw [8] (fun v wr => ∃ (i g1 cap1 : Nat) (S : List ByteArray), i ≤ j ∧ v = .int .i64 (i : Int) ∧ Hid (S.length = st.S.length ∧ ∀ s ∈ S, s.size = 128) ∧ Hid (crS S t (kept (st.W.drop i) (ks.drop i)) = crS st.S t (kept st.W ks)) ∧ Hid (RkAt wr b { st with S := S } g1 cap1 (.slice (some ⟨q, 0, none⟩) st.W.length qc)) ∧ Hid (Upd (foot b g (.slice (some ⟨q, 0, none⟩) st.W.length qc)) w wr (foot b g1 (.slice (some ⟨q, 0, none⟩) st.W.length qc)))) (fun i _ => j - (intOf i).toNat)
          case atStart => exact ⟨0, g, cap, st.S, Nat.zero_le _, rfl, ⟨rfl, HSEC.out⟩, rfl, HH, Upd.refl _ _⟩
          case round =>
            obtain ⟨i, g1, cap1, S, hi, rfl, HS, HE, hR, hU⟩ := hrel
            have hblk := hR.out.blk
            simp only [HS.out.1] at hblk
            have e0 : wr.cell? ⟨b, 0, none⟩ = some (.slice (some ⟨g1, 0, none⟩) st.S.length cap1) := cell_of_heap hblk
            have e1 : wr.cell? ⟨b, 1, none⟩ = some (.slice (some ⟨q, 0, none⟩) st.W.length qc) := cell_of_heap hblk
            by_cases hlt : i < j
            · have hi1 : i < st.W.length := by omega
              have hi2 : i < klen := by omega
              rcases (HK.out.keep HKF.out hU.out.block hU.out.size).2 with h0 | ⟨kb, koff, rfl, hkb, hkc⟩
              · omega
              have dk := hkc i hi2
              clear hkc hblk
              cases hv : keeps ks i with
              | false =>
                rw [hv] at dk
                have HE2 := Lib.hid ((crash_no (S := S) (t := t) hi1 hv).symm.trans HE.out)
                clear hv e0
                go_wp2_with fail
                go_roundw
                case rel => exact ⟨i + 1, g1, cap1, S, by omega, by go_num, HS, HE2, hR, hU⟩
                case measure => simp [intOf]; omega
              | true =>
                rw [hv] at dk
                obtain ⟨d0, d1⟩ := wts_cells hR.out.wts hi1
                have hx := HAT.out st.W[i] (List.getElem_mem hi1)
                have hy := HSZ.out st.W[i] (List.getElem_mem hi1)
                obtain ⟨x, hxe⟩ : ∃ x, st.W[i].1 = x := ⟨_, rfl⟩
                obtain ⟨y, hye⟩ : ∃ y, st.W[i].2 = y := ⟨_, rfl⟩
                rw [hxe] at hx d0
                rw [hye] at hy d1
                have HX := Lib.hid hxe; have HYE := Lib.hid hye; have HY := Lib.hid hy; have HV := Lib.hid hv
                have hsec := hR.out.sec
                simp only [HS.out.1] at hsec
                have HSE0 : Hid (wr.ownsRow 0 9 1 (.slice (some ⟨g1, 0, none⟩) st.S.length cap1) st.S.length (S.map Value.string)) := hsec
                clear hxe hye hy hv hsec
                by_cases hil : (i : Int) = l
                · subst hil
                  have HLL := Lib.hid (last_is HL.out ⟨hm1, by rw [HKL.out]; exact hm2, by rw [HKL.out]; exact hm3⟩)
                  by_cases ht1 : t < 1
                  · have HSE : Hid (wr.drew.ownsRow 0 9 1 (.slice (some ⟨g1, 0, none⟩) st.S.length cap1) st.S.length (S.map Value.string)) := HSE0
                    have HR2 := Lib.hid hR.out.drew; have HU2 := Lib.hid hU.out.drew
                    have HQ := Lib.hid (crash_last (S := S) (t := t) hi1 HX.out HYE.out HV.out HLL.out)
                    rw [torn_whole (.inl ht1)] at HQ
                    clear hR hU HSE0
                    go_wp2_with fail
                    refine Mix.wp_region_mix [0] [1, 2, 3, 4, 5, 6, 7, 8, 9, 10, 11, 12, 13] [14, 15, 16, 17] 14 (by kernel_rfl) (by kernel_rfl) (fun _ _ d _ _ h => by cases d <;> exact h) ?_
                    simp only [Mix.pick, List.filterMap_cons, List.filterMap_nil, List.getElem?_cons_zero, List.getElem?_cons_succ]
                    repeat (refine Mix.wpFree_step ?_ (by rfl) ?_ ?_; rotate_left; focus ((intro w'); go_simp; (try with_reducible rfl)))
                    refine Mix.wpFree_nil ?_
                    repeat still_step
                    refine wpStill_nil ?_
                    clear e0 e1 d0 d1 dk
                    generalize wr.drew = w2 at *
                    go_wp2_with fail
                    refine (with_any g1 cap1 x st.S.length _ y w2 HSE.out hx hsl).mono ?_
                    rintro e w3 ⟨g3, cap3, rfl, hown, hb3⟩
                    obtain ⟨hbb, hR3, hU3⟩ := rk_with HR2.out (by rw [List.length_set]; exact HS.out.1) hown hb3
                    have f0 : w3.frozen? ⟨b, 0, none⟩ = false := frozen_of_heap (hbb.trans HR2.out.blk)
                    obtain ⟨v0, e0, ev⟩ : ∃ v, w3.cell? ⟨b, 0, none⟩ = some v ∧ v.oneCell' = true := ⟨_, cell_of_heap (hbb.trans HR2.out.blk), rfl⟩
                    have HR3 := Lib.hid hR3; have HU3 := Lib.hid (HU2.out.trans hU3)
                    have HS3 := Lib.hid (set_shape (k := x) HS.out (HY.out))
                    clear hown hb3 hbb hR3 hU3
                    go_wp2_with fail
                    go_roundw
                    case rel => exact ⟨i + 1, g3, cap3, _, by omega, by go_num, HS3, (HQ.out).symm.trans HE.out, HR3, HU3⟩
                    case measure => simp [intOf]; omega
                  · by_cases ht2 : 128 ≤ t
                    · have ht1' : 1 ≤ t := by omega
                      have HSE : Hid (wr.drew.ownsRow 0 9 1 (.slice (some ⟨g1, 0, none⟩) st.S.length cap1) st.S.length (S.map Value.string)) := HSE0
                      have HR2 := Lib.hid hR.out.drew; have HU2 := Lib.hid hU.out.drew
                      have HQ := Lib.hid (crash_last (S := S) (t := t) hi1 HX.out HYE.out HV.out HLL.out)
                      rw [torn_whole (.inr ht2)] at HQ
                      clear hR hU HSE0 ht1
                      go_wp2_with fail
                      refine Mix.wp_region_mix [0] [1, 2, 3, 4, 5, 6, 7, 8, 9, 10, 11, 12, 13] [14, 15, 16, 17] 14 (by kernel_rfl) (by kernel_rfl) (fun _ _ d _ _ h => by cases d <;> exact h) ?_
                      simp only [Mix.pick, List.filterMap_cons, List.filterMap_nil, List.getElem?_cons_zero, List.getElem?_cons_succ]
                      repeat (refine Mix.wpFree_step ?_ (by rfl) ?_ ?_; rotate_left; focus ((intro w'); go_simp; (try with_reducible rfl)))
                      refine Mix.wpFree_nil ?_
                      repeat still_step
                      refine wpStill_nil ?_
                      clear e0 e1 d0 d1 dk
                      generalize wr.drew = w2 at *
                      go_wp2_with fail
                      refine (with_any g1 cap1 x st.S.length _ y w2 HSE.out hx hsl).mono ?_
                      rintro e w3 ⟨g3, cap3, rfl, hown, hb3⟩
                      obtain ⟨hbb, hR3, hU3⟩ := rk_with HR2.out (by rw [List.length_set]; exact HS.out.1) hown hb3
                      have f0 : w3.frozen? ⟨b, 0, none⟩ = false := frozen_of_heap (hbb.trans HR2.out.blk)
                      obtain ⟨v0, e0, ev⟩ : ∃ v, w3.cell? ⟨b, 0, none⟩ = some v ∧ v.oneCell' = true := ⟨_, cell_of_heap (hbb.trans HR2.out.blk), rfl⟩
                      have HR3 := Lib.hid hR3; have HU3 := Lib.hid (HU2.out.trans hU3)
                      have HS3 := Lib.hid (set_shape (k := x) HS.out (HY.out))
                      clear hown hb3 hbb hR3 hU3
                      go_wp2_with fail
                      go_roundw
                      case rel => exact ⟨i + 1, g3, cap3, _, by omega, by go_num, HS3, (HQ.out).symm.trans HE.out, HR3, HU3⟩
                      case measure => simp [intOf]; omega
                    · obtain ⟨k, rfl⟩ : ∃ k : Nat, t = k := ⟨t.toNat, by omega⟩
                      have hk1 : 1 ≤ k := by omega
                      have hk2 : k < 128 := by omega
                      have HQ := Lib.hid (crash_last (S := S) (t := (k : Int)) hi1 HX.out HYE.out HV.out HLL.out)
                      rw [torn_part _ _ hk1 hk2] at HQ
                      have dz := sec_cell HSE0.out (show x < S.length by rw [HS.out.1]; exact hx)
                      have hz := HS.out.2 _ (getD_mem (show x < S.length by rw [HS.out.1]; exact hx))
                      obtain ⟨z, hze⟩ : ∃ z, S.getD x ByteArray.empty = z := ⟨_, rfl⟩
                      rw [hze] at dz hz HQ
                      have kz : k ≤ z.size := by omega
                      have ky : k ≤ y.size := by rw [HY.out]; omega
                      have HSE : Hid (wr.drew.drew.ownsRow 0 9 1 (.slice (some ⟨g1, 0, none⟩) st.S.length cap1) st.S.length (S.map Value.string)) := HSE0
                      have HR2 := Lib.hid hR.out.drew.drew; have HU2 := Lib.hid hU.out.drew.drew
                      have HZE := Lib.hid hze; have HZS := Lib.hid hz
                      have sz : z.size ≤ 128 := by omega
                      have sy : y.size ≤ 128 := by rw [HY.out]; omega
                      clear hR hU HSE0 ht1 ht2 hz hze
                      go_wp2_with fail
                      refine Mix.wp_region_mix [] [0, 1, 2, 3, 4, 5, 6, 7, 8, 9, 10, 11, 12, 13, 14, 15, 16, 17, 18] [19, 20] 19 (by kernel_rfl) (by kernel_rfl) (fun _ _ d _ _ h => by cases d <;> exact h) ?_
                      simp only [Mix.pick, List.filterMap_cons, List.filterMap_nil, List.getElem?_cons_zero, List.getElem?_cons_succ]
                      repeat (refine Mix.wpFree_step ?_ (by rfl) ?_ ?_; rotate_left; focus ((intro w'); go_simp; (try with_reducible rfl)))
                      refine Mix.wpFree_nil ?_
                      repeat still_step
                      refine wpStill_nil ?_
                      clear dz
                      have g0 : wr.drew.cell? ⟨b, 0, none⟩ = some (.slice (some ⟨g1, 0, none⟩) st.S.length cap1) := e0
                      have g1' : wr.drew.cell? ⟨b, 1, none⟩ = some (.slice (some ⟨q, 0, none⟩) st.W.length qc) := e1
                      have g2 : wr.drew.cell? ⟨q, i * 2, none⟩ = some (.int .i64 (x : Int)) := d0
                      clear e0 e1 d0 d1
                      have e0 := g0; have e1 := g1'; have d0 := g2; have d1 : True := trivial
                      clear g0 g1' g2
                      generalize wr.drew = wd at *
                      go_wp2_with fail
                      refine Mix.wp_region_mix [0] [1, 2, 3, 4, 5, 6, 7, 8, 9, 10, 11, 12, 13] [14, 15, 16, 17] 14 (by kernel_rfl) (by kernel_rfl) (fun _ _ d _ _ h => by cases d <;> exact h) ?_
                      simp only [Mix.pick, List.filterMap_cons, List.filterMap_nil, List.getElem?_cons_zero, List.getElem?_cons_succ]
                      repeat (refine Mix.wpFree_step ?_ (by rfl) ?_ ?_; rotate_left; focus ((intro w'); go_simp; (try with_reducible rfl)))
                      refine Mix.wpFree_nil ?_
                      repeat still_step
                      refine wpStill_nil ?_
                      clear e0 e1 d0 d1 dk
                      generalize wd.drew = w2 at *
                      go_wp2_with fail
                      refine (with_any g1 cap1 x st.S.length _ (y.extract 0 k ++ z.extract k z.size) w2 HSE.out hx hsl).mono ?_
                      rintro e w3 ⟨g3, cap3, rfl, hown, hb3⟩
                      obtain ⟨hbb, hR3, hU3⟩ := rk_with HR2.out (by rw [List.length_set]; exact HS.out.1) hown hb3
                      have f0 : w3.frozen? ⟨b, 0, none⟩ = false := frozen_of_heap (hbb.trans HR2.out.blk)
                      obtain ⟨v0, e0, ev⟩ : ∃ v, w3.cell? ⟨b, 0, none⟩ = some v ∧ v.oneCell' = true := ⟨_, cell_of_heap (hbb.trans HR2.out.blk), rfl⟩
                      have HR3 := Lib.hid hR3; have HU3 := Lib.hid (HU2.out.trans hU3)
                      have HS3 := Lib.hid (set_shape (k := x) (y := y.extract 0 k ++ z.extract k z.size) HS.out (torn_size2 HY.out HZS.out hk1 hk2))
                      clear hown hb3 hbb hR3 hU3
                      go_wp2_with fail
                      go_roundw
                      case rel => exact ⟨i + 1, g3, cap3, _, by omega, by go_num, HS3, (HQ.out).symm.trans HE.out, HR3, HU3⟩
                      case measure => simp [intOf]; omega
                · have hil2 : ((i : Int) == l) = false := beq_eq_false_iff_ne.2 hil
                  have HSE : Hid (wr.drew.ownsRow 0 9 1 (.slice (some ⟨g1, 0, none⟩) st.S.length cap1) st.S.length (S.map Value.string)) := HSE0
                  have HR2 := Lib.hid hR.out.drew; have HU2 := Lib.hid hU.out.drew
                  have HQ := Lib.hid (crash_more (S := S) (t := t) hi1 HX.out HYE.out HV.out (last_not HL.out ⟨hm1, by rw [HKL.out]; exact hm2⟩ hlt HV.out hil))
                  clear hR hU HSE0 hil
                  go_wp2_with fail
                  refine Mix.wp_region_mix [0] [1, 2, 3, 4, 5, 6, 7, 8, 9, 10, 11, 12, 13] [14, 15, 16, 17] 14 (by kernel_rfl) (by kernel_rfl) (fun _ _ d _ _ h => by cases d <;> exact h) ?_
                  simp only [Mix.pick, List.filterMap_cons, List.filterMap_nil, List.getElem?_cons_zero, List.getElem?_cons_succ]
                  repeat (refine Mix.wpFree_step ?_ (by rfl) ?_ ?_; rotate_left; focus ((intro w'); go_simp; (try with_reducible rfl)))
                  refine Mix.wpFree_nil ?_
                  repeat still_step
                  refine wpStill_nil ?_
                  clear e0 e1 d0 d1 dk
                  generalize wr.drew = w2 at *
                  go_wp2_with fail
                  refine (with_any g1 cap1 x st.S.length _ y w2 HSE.out hx hsl).mono ?_
                  rintro e w3 ⟨g3, cap3, rfl, hown, hb3⟩
                  obtain ⟨hbb, hR3, hU3⟩ := rk_with HR2.out (by rw [List.length_set]; exact HS.out.1) hown hb3
                  have f0 : w3.frozen? ⟨b, 0, none⟩ = false := frozen_of_heap (hbb.trans HR2.out.blk)
                  obtain ⟨v0, e0, ev⟩ : ∃ v, w3.cell? ⟨b, 0, none⟩ = some v ∧ v.oneCell' = true := ⟨_, cell_of_heap (hbb.trans HR2.out.blk), rfl⟩
                  have HR3 := Lib.hid hR3; have HU3 := Lib.hid (HU2.out.trans hU3)
                  have HS3 := Lib.hid (set_shape (k := x) HS.out (HY.out))
                  clear hown hb3 hbb hR3 hU3
                  go_wp2_with fail
                  go_roundw
                  case rel => exact ⟨i + 1, g3, cap3, _, by omega, by go_num, HS3, (HQ.out).symm.trans HE.out, HR3, HU3⟩
                  case measure => simp [intOf]; omega
            · obtain rfl : i = j := by omega
              have hSe : S = crS st.S t (kept st.W ks) := by
                have h := HE.out
                rw [kept_end (by rw [HKL.out]; exact hm3)] at h
                exact h
              have hR2 := hR.out
              have hU2 := hU.out
              have HR2 := Lib.hid hR2; have HU2 := Lib.hid hU2; have HSE := Lib.hid hSe
              have f1 : wr.frozen? ⟨b, 1, none⟩ = false := frozen_of_heap hblk
              have c4 : wr.cell? ⟨b, 4, none⟩ = some (.bool st.dead) := cell_of_heap hblk
              have f4 : wr.frozen? ⟨b, 4, none⟩ = false := frozen_of_heap hblk
              have c2 : wr.cell? ⟨b, 2, none⟩ = some (.int .i64 (st.left : Int)) := cell_of_heap hblk
              have f2 : wr.frozen? ⟨b, 2, none⟩ = false := frozen_of_heap hblk
              clear hblk hR2 hU2 hSe hR hU hlt
              go_wp2_with fail
              go_end0
              obtain ⟨hR3, hU3⟩ := rk_done HR2.out
              obtain ⟨hR4, hU4⟩ := rk_crashed hR3 rfl rfl
              exact ⟨rfl, _, ⟨_, _, _, by unfold cr; rw [← HSE.out]; exact hR4, rfl⟩, (HU2.out.trans hU3).trans hU4⟩
end Go.Proofs.Ytklklcohbfnpjaa
