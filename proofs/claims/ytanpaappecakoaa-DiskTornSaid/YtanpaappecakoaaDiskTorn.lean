/-
  The walk of DiskTorn: any acts, any crash.
-/
import Derived.Test.YtanpaappecakoaaDiskSure
set_option linter.unusedVariables false
namespace Go.Proofs.Ytanpaappecakoaa
open Go.RowKit DiskP

theorem cell_al {B : Nat} {w0 wi : World} {p : Addr} {v : Value} (h : Below B w0 wi) (hp : p.block < B) (hc : w0.cell? p = some v) (o : Obj) : (wi.alloc o).cell? p = some v := Lib.cell?_alloc_some _ ((h.cell hp).trans hc)
theorem cell_dr {w : World} {p : Addr} {v : Value} (hc : w.cell? p = some v) (n : Nat) : (w.drewN n).cell? p = some v := hc
theorem beq_text (a b : ByteArray) : (a.toList == b.toList) = true ↔ a = b := by
  rw [beq_iff_eq, ByteArray.toList_eq, ByteArray.toList_eq]
  constructor
  · intro h
    apply ByteArray.ext
    exact Array.toList_inj.1 h
  · intro h; rw [h]
/-- Is it what it was, or what one of the first q writes to it brought? -/
def WhL (W : List Wr) (k q : Nat) (was now : ByteArray) (b : Bool) : Prop := b = true ↔ (now = was ∨ ∃ i, i < q ∧ (W.getD i (0, ByteArray.empty)).1 = k ∧ now = (W.getD i (0, ByteArray.empty)).2)
theorem whl_start {W : List Wr} {k : Nat} {was now : ByteArray} {b : Bool} (h : (now.toList == was.toList) = b) : WhL W k 0 was now b := by
  unfold WhL
  rw [← h, beq_text]
  constructor
  · exact .inl
  · rintro (h | ⟨i, hi, _⟩)
    · exact h
    · exact absurd hi (Nat.not_lt_zero _)
theorem whl_skip {W : List Wr} {k q : Nat} {was now : ByteArray} {b : Bool} (h : WhL W k q was now b) (hx : (W.getD q (0, ByteArray.empty)).1 ≠ k) : WhL W k (q + 1) was now b := by
  refine h.trans ⟨fun g => g.imp id fun ⟨i, hi, e⟩ => ⟨i, by omega, e⟩, fun g => g.imp id fun ⟨i, hi, e⟩ => ⟨i, ?_, e⟩⟩
  by_cases hiq : i = q
  · subst hiq; exact absurd e.1 hx
  · omega
theorem whl_true {W : List Wr} {k q : Nat} {was now : ByteArray} (h : WhL W k q was now true) : WhL W k (q + 1) was now true :=
  ⟨fun _ => (h.1 rfl).imp id fun ⟨i, hi, e⟩ => ⟨i, by omega, e⟩, fun _ => rfl⟩
theorem whl_step {W : List Wr} {k q : Nat} {was now : ByteArray} {b : Bool} (h : WhL W k q was now false) (hx : (W.getD q (0, ByteArray.empty)).1 = k) (hb : (now.toList == (W.getD q (0, ByteArray.empty)).2.toList) = b) : WhL W k (q + 1) was now b := by
  unfold WhL
  rw [← hb, beq_text]
  constructor
  · intro e; exact .inr ⟨q, by omega, hx, e⟩
  · rintro (e | ⟨i, hi, e1, e2⟩)
    · exact absurd (h.2 (.inl e)) (by decide)
    · by_cases hiq : i = q
      · subst hiq; exact e2
      · exact absurd (h.2 (.inr ⟨i, by omega, e1, e2⟩)) (by decide)
theorem whl_end {W : List Wr} {k : Nat} {was now : ByteArray} (h : WhL W k W.length was now false) : ¬ Whole was W k now := by
  rintro (e | ⟨x, hx, e1, e2⟩)
  · exact absurd (h.2 (.inl e)) (by decide)
  · obtain ⟨i, hi, rfl⟩ := List.getElem_of_mem hx
    exact absurd (h.2 (.inr ⟨i, hi, by simp [List.getD, hi, e1], by simp [List.getD, hi]; exact e2⟩)) (by decide)
/-- Are the first t octets those of one of the first q writes to it? -/
def BgL (W : List Wr) (k q : Nat) (t : Int) (now : ByteArray) (b : Bool) : Prop := b = true ↔ (1 ≤ t ∧ t < 128 ∧ ∃ i, i < q ∧ (W.getD i (0, ByteArray.empty)).1 = k ∧ now.extract 0 t.toNat = (W.getD i (0, ByteArray.empty)).2.extract 0 t.toNat)
theorem bgl_start {W : List Wr} {k : Nat} {t : Int} {now : ByteArray} : BgL W k 0 t now false := ⟨fun h => (by cases h), fun ⟨_, _, i, hi, _⟩ => absurd hi (Nat.not_lt_zero _)⟩
theorem bgl_skip {W : List Wr} {k q : Nat} {t : Int} {now : ByteArray} {b : Bool} (h : BgL W k q t now b) (hx : (W.getD q (0, ByteArray.empty)).1 ≠ k) : BgL W k (q + 1) t now b := by
  refine h.trans ⟨fun ⟨g1, g2, i, hi, e⟩ => ⟨g1, g2, i, by omega, e⟩, fun ⟨g1, g2, i, hi, e⟩ => ⟨g1, g2, i, ?_, e⟩⟩
  by_cases hiq : i = q
  · subst hiq; exact absurd e.1 hx
  · omega
theorem bgl_true {W : List Wr} {k q : Nat} {t : Int} {now : ByteArray} (h : BgL W k q t now true) : BgL W k (q + 1) t now true :=
  ⟨fun _ => by obtain ⟨g1, g2, i, hi, e⟩ := h.1 rfl; exact ⟨g1, g2, i, by omega, e⟩, fun _ => rfl⟩
theorem bgl_out {W : List Wr} {k q : Nat} {t : Int} {now : ByteArray} (ht : ¬ (1 ≤ t ∧ t < 128)) : BgL W k (q + 1) t now false := ⟨fun h => (by cases h), fun ⟨g1, g2, _⟩ => absurd ⟨g1, g2⟩ ht⟩
theorem bgl_step {W : List Wr} {k q : Nat} {t : Int} {now : ByteArray} {b : Bool} (h : BgL W k q t now false) (h1 : 1 ≤ t) (h2 : t < 128) (hx : (W.getD q (0, ByteArray.empty)).1 = k) (hb : ((now.extract 0 t.toNat).toList == ((W.getD q (0, ByteArray.empty)).2.extract 0 t.toNat).toList) = b) : BgL W k (q + 1) t now b := by
  unfold BgL
  rw [← hb, beq_text]
  constructor
  · intro e; exact ⟨h1, h2, q, by omega, hx, e⟩
  · rintro ⟨_, _, i, hi, e1, e2⟩
    by_cases hiq : i = q
    · subst hiq; exact e2
    · exact absurd (h.2 ⟨h1, h2, i, by omega, e1, e2⟩) (by decide)
theorem bgl_end {W : List Wr} {k : Nat} {t : Int} {now : ByteArray} {b : Bool} (h : BgL W k W.length t now b) (hB : Begun W k t now) : b = true := by
  obtain ⟨h1, h2, x, hx, e1, e2⟩ := hB
  obtain ⟨i, hi, rfl⟩ := List.getElem_of_mem hx
  exact h.2 ⟨h1, h2, i, hi, by simp [List.getD, hi, e1], by simp [List.getD, hi]; exact e2⟩
theorem torn_end (st : St) (ks : List Bool) (t : Int) {j : Nat} (hok : Ok j st) : ∃ z : Nat, ∀ k, k < st.S.length → Whole (st.S.getD k ByteArray.empty) st.W k ((cr st ks t).S.getD k ByteArray.empty) ∨ (k = z ∧ Begun st.W k t ((cr st ks t).S.getD k ByteArray.empty)) := by
  obtain ⟨z, hz⟩ := crS_torn t (kept st.W ks) st.S (fun x hx => ⟨hok.wat x (kept_sub _ _ x hx), hok.wsz x (kept_sub _ _ x hx)⟩)
  exact ⟨z, fun k hk => (hz k hk).imp kept_torn fun ⟨e, h⟩ => ⟨e, kept_begun h⟩⟩
set_option maxRecDepth 100000 in
set_option maxHeartbeats 8000000 in
theorem diskTorn_walk (a : Option Addr) (len cap : Nat) (f : Nat → AVal) (ka : Option Addr) (klen kcap : Nat) (ks : List Bool) (t : Int) (w : World) (hA : ActsAt w a len f) (hk : BoolsAt w ka klen ks) (hkl : klen ≤ 9223372036854775807) :
    Calls Try.prog 6 #[.slice a len cap, .slice ka klen kcap, .int .i64 t] w (TrueIn w) := by
  have hl := hA.1
  have HA := Lib.hid hA; have HKB := Lib.hid hk
  have HNW := Lib.hid (own_new 4 w w (by decide) (by decide) (Below.refl _ w))
  have HFW := Lib.hid (fun w' (hb : Below w.heap.size w w') => few_any a len cap 20 f w' ⟨hA.1, hA.2.imp id (fun ⟨b, off, e, hlt, hc⟩ => ⟨b, off, e, by have := hb.size; omega, fun i hi => (hc i hi).below hb⟩)⟩ (by decide))
  have hok0 := new_ok 4 (by decide) (by decide)
  have hlen0 : (fresh (List.replicate 4 DiskP.blank)).S.length = 4 := by simp [fresh]
  generalize fresh (List.replicate 4 DiskP.blank) = st0 at *
  have HOK0 := Lib.hid hok0; have HLEN0 := Lib.hid hlen0
  clear hA hk hok0 hlen0
  go_enter Try.func6, Try.ntmps6
  go_wp2_with fail
  refine HNW.out.mono ?_
  rintro e w1 ⟨d, rfl, hO⟩
  have HO := Lib.hid hO
  clear hO HNW
  go_wp2_with fail
  refine (HFW.out w1 HO.out.bel).mono ?_
  rintro e w' ⟨r, rfl, hfew, rfl⟩
  cases r with
  | false =>
    go_wp2_with fail
    refine (awake_in HO.out.bel).mono ?_
    rintro e wq ⟨rfl, hb⟩
    have HB := Lib.hid hb
    clear hb
    go_wp2_with fail
    go_ret
    exact ⟨rfl, HB.out⟩
  | true =>
    obtain ⟨hl20, hkls⟩ := hfew rfl
    have HKL := Lib.hid hkls
    clear hfew hkls
    by_cases hk100 : 100 < klen
    · go_wp2_with fail
      refine (awake_in HO.out.bel).mono ?_
      rintro e wq ⟨rfl, hb⟩
      have HB := Lib.hid hb
      clear hb
      go_wp2_with fail
      go_ret
      exact ⟨rfl, HB.out⟩
    · have hk100' : klen ≤ 100 := by omega
      go_wp2_with fail
      go_loopw [9] (fun i wr => ∃ (j : Nat) (st : St), j ≤ len ∧ i = .int .i64 (j : Int) ∧ Hid (Own w wr d st) ∧ Hid (Ok j st) ∧ Hid (st.S.length = 4)) (fun i _ => len - (intOf i).toNat)
      case atStart => exact ⟨0, st0, Nat.zero_le _, rfl, HO, HOK0, HLEN0⟩
      case round =>
        obtain ⟨j, st, hj, rfl, hO, hOK, hLN⟩ := hrel
        by_cases hlt : j < len
        · obtain ⟨b, off, rfl, _, hc⟩ := HA.out.2.resolve_left (by omega)
          have hat := (hc j hlt).below hO.out.bel
          have hkl2 := HKL.out j hlt
          obtain ⟨y, hy⟩ : ∃ y, f j = y := ⟨_, rfl⟩
          rw [hy] at hat hkl2
          have HFIT := Lib.hid (hat.fit hkl2)
          have HAT := Lib.hid hat
          have d0 := hat.c0; have d1 := hat.c1; have d2 := hat.c2; have d3 := hat.c3; have d4 := hat.c4
          have HOK2 := Lib.hid (step_ok hOK.out HFIT.out)
          have HLN2 := Lib.hid (step_len (st := st) (x := y) |>.trans hLN.out)
          clear hc hat hkl2 hy
          go_wp2_with fail
          refine (hO.out.step (fun L h => do_dk d j st L y wr h hOK.out (by omega) HFIT.out HAT.out.kb)).mono ?_
          rintro e w3 ⟨rfl, hO3⟩
          have HO3 := Lib.hid hO3
          clear hO3 d0 d1 d2 d3 d4
          go_wp2_with fail
          go_roundw
          case rel => exact ⟨j + 1, _, by omega, by go_num, HO3, HOK2, HLN2⟩
          case measure => simp [intOf]; omega
        · obtain rfl : j = len := by omega
          have hwn : st.W.length ≤ 1000000000 := by have := hOK.out.wn; omega
          have hL8 := hLN.out
          have hC8 : (cr st ks t).S.length = 4 := (crS_length _ _ _).trans hL8
          have HOKC := Lib.hid (cr_ok hOK.out ks t)
          obtain ⟨L, hD, hL, hB⟩ := hO.out
          have HD := Lib.hid hD; have HL := Lib.hid hL; have HB := Lib.hid hB
          have HLT := Lib.hid hD.lt
          clear hD hL hB hO
          go_wp2_with fail
          refine (sectors_dk d j st L wr HD.out hOK.out).mono ?_
          rintro e w3 ⟨g1, c1, rfl, hown, hb⟩
          rw [hL8] at hown ⊢
          have HG1 := Lib.hid (hown.lt g1 rfl).1
          have HD3 := Lib.hid (dk_below HD.out hb)
          have HB3 := Lib.hid (HB.out.trans (hb.mono HB.out.size))
          have HZ3 := Lib.hid hb.size
          have HS3 := Lib.hid (strs_of hown (by decide))
          clear hown hb HD
          go_wp2_with fail
          refine (waits_dk d j st L w3 HD3.out hOK.out (by omega)).mono ?_
          rintro e w4 ⟨v, rfl, hown, hb⟩
          have ha1 := fun k (hk : v.ownBlock = some k) => (hown.lt k hk).1
          obtain ⟨a1, cw, rfl, hw1⟩ := wts_of hown rfl hwn
          have HA1 := Lib.hid (show ∀ y, a1 = some y → w3.heap.size ≤ y.block from fun y hy => by subst hy; exact ha1 y.block (by simp [Value.ownBlock]))
          have HD4 := Lib.hid (dk_below HD3.out hb)
          have HB4 := Lib.hid (HB3.out.trans (hb.mono HB3.out.size))
          have HS4 := Lib.hid (HS3.out.below hb)
          have HW4 := Lib.hid hw1
          have HK4 := Lib.hid (bools_below HKB.out HB4.out)
          clear hown hb hw1 ha1 HD3 HB3 HS3
          go_wp2_with fail
          refine (crash_dk d j st L ka klen kcap ks t w4 HD4.out hOK.out (by omega) HK4.out (by omega)).mono ?_
          rintro e w5 ⟨rfl, L5, hD5, hU⟩
          have HS5 := Lib.hid (HS4.out.upd (fun y hy hyL => by cases hy; have h2 : g1 < wr.heap.size := HLT.out g1 hyL; have := HG1.out; omega) hU)
          have HW5 := Lib.hid (HW4.out.upd (fun y hy hyL => by have := HA1.out y hy; have := HLT.out _ hyL; have := HZ3.out; omega) hU)
          have HD5 := Lib.hid hD5
          have HB5 := Lib.hid (HB4.out.trans (hU.below HL.out HB4.out.size))
          clear hD5 hU HS4 HW4 HD4 HK4
          go_wp2_with fail
          refine (sectors_dk d j (cr st ks t) L5 w5 HD5.out HOKC.out).mono ?_
          rintro e w7 ⟨g7, c7, rfl, hown, hb⟩
          rw [hC8] at hown ⊢
          have HN7 := Lib.hid (strs_of hown (by decide))
          have HS7 := Lib.hid (HS5.out.below hb); have HW7 := Lib.hid (HW5.out.below hb); have HB7 := Lib.hid (HB5.out.trans (hb.mono HB5.out.size))
          clear hown hb HS5 HW5 HD5 HB5
          obtain ⟨z, hz⟩ := torn_end st ks t hOK.out
          rw [hL8] at hz
          have HZ := Lib.hid hz
          have HSEC := Lib.hid (fun k (hk : k < 4) => (show ((cr st ks t).S.getD k ByteArray.empty).size = 128 from by
            have hkc : k < (cr st ks t).S.length := by rw [hC8]; exact hk
            have := HOKC.out.sec ((cr st ks t).S[k]) (List.getElem_mem hkc)
            simpa [List.getD, hkc] using this))
          have HWSZ := Lib.hid hOK.out.wsz
          clear hz
          go_wp2_with fail
          go_loopw [13, 14] (fun o i wo => ∃ k ov : Nat, k ≤ 4 ∧ o = .int .i64 (ov : Int) ∧ i = .int .i64 (k : Int) ∧ Hid (ov = 0 ∨ ov = 1 ∧ z < k) ∧ Hid (Below w7.heap.size w7 wo)) (fun _ i _ => 4 - (intOf i).toNat)
          case atStart => exact ⟨0, 0, by omega, rfl, rfl, .inl rfl, Below.refl _ w7⟩
          case round =>
            obtain ⟨k, ov, hk4, rfl, rfl, hov, hbk⟩ := hrel
            by_cases hlt4 : k < 4
            · obtain ⟨_, _, e1, gl1, hc1⟩ := HS7.out.2.2.resolve_left (by decide)
              obtain ⟨_, _, e2, gl2, hc2⟩ := HN7.out.2.2.resolve_left (by decide)
              cases e1; cases e2
              have d1 := (hbk.out.cell (p := ⟨g1, 0 + k, none⟩) gl1).trans (hc1 k hlt4)
              have d2 := (hbk.out.cell (p := ⟨g7, 0 + k, none⟩) gl2).trans (hc2 k hlt4)
              have dn := hc2 k hlt4
              rw [Nat.zero_add] at d1 d2 dn
              have hzk := HZ.out k hlt4
              have hnz := HSEC.out k hlt4
              obtain ⟨was, hwas⟩ : ∃ x, st.S.getD k ByteArray.empty = x := ⟨_, rfl⟩
              obtain ⟨now, hnow⟩ : ∃ x, (cr st ks t).S.getD k ByteArray.empty = x := ⟨_, rfl⟩
              rw [hwas] at d1 hzk
              rw [hnow] at d2 dn hzk hnz
              have HZK := Lib.hid hzk; have HNZ := Lib.hid hnz; have HDN := Lib.hid dn; have HGL := Lib.hid gl2
              obtain ⟨wb0, hwb0⟩ : ∃ b, (now.toList == was.toList) = b := ⟨_, rfl⟩
              have HWB0 := Lib.hid (whl_start (W := st.W) (k := k) hwb0)
              clear hc1 hc2 hwas hnow hzk hnz dn gl1 gl2
              have hki : (k : Int) < 4 := by omega
              go_wp2_with fail
              go_quiet (fail)
              have HBK2 := Lib.hid (below_drewN hbk.out nq)
              clear d1 d2 hwb0 hbk
              generalize World.drewN _ nq = wo2 at *
              go_wp2_with fail
              go_loopw [15, 16, 17] (fun wv bv i wi => ∃ (q : Nat) (wb bb : Bool), q ≤ st.W.length ∧ wv = .bool wb ∧ bv = .bool bb ∧ i = .int .i64 (q : Int) ∧ Hid (WhL st.W k q was now wb) ∧ Hid (BgL st.W k q t now bb) ∧ Hid (Below w7.heap.size w7 wi)) (fun _ _ i _ => st.W.length - (intOf i).toNat)
              case atStart => exact ⟨0, wb0, false, Nat.zero_le _, rfl, rfl, rfl, HWB0, bgl_start, HBK2⟩
              case round =>
                obtain ⟨q, wb, bb, hq, rfl, rfl, rfl, hwh, hbg, hbi⟩ := hrel
                by_cases hltq : q < st.W.length
                · obtain ⟨bw, ow, rfl, hltw, hcw⟩ := HW7.out.2.2.resolve_left (by omega)
                  have c0 := (hbi.out.cell (p := ⟨bw, ow + q * 2, none⟩) hltw).trans (hcw q hltq).1
                  have c1 := (hbi.out.cell (p := ⟨bw, ow + q * 2 + 1, none⟩) hltw).trans (hcw q hltq).2
                  have hys : (st.W.getD q (0, ByteArray.empty)).2.size = 128 := by
                    have := HWSZ.out st.W[q] (List.getElem_mem hltq)
                    simpa [List.getD, hltq] using this
                  obtain ⟨x, hx⟩ : ∃ x, (st.W.getD q (0, ByteArray.empty)).1 = x := ⟨_, rfl⟩
                  obtain ⟨y, hy⟩ : ∃ y, (st.W.getD q (0, ByteArray.empty)).2 = y := ⟨_, rfl⟩
                  rw [hx] at c0
                  rw [hy] at c1 hys
                  have HX := Lib.hid hx; have HY := Lib.hid hy
                  clear hcw hx hy
                  by_cases hxk : x = k
                  · subst hxk
                    have dn := cell_al (p := ⟨g7, x, none⟩) hbi.out HGL.out HDN.out (.cells #[.int .i64 (x : Int), .string y] 54)
                    have HBA := Lib.hid (hbi.out.alloc hbi.out.size (.cells #[.int .i64 (x : Int), .string y] 54))
                    have hnz := HNZ.out
                    obtain ⟨wb2, hwb2⟩ : ∃ b, (now.toList == y.toList) = b := ⟨_, rfl⟩
                    have HW2 : Hid (WhL st.W x (q + 1) was now (wb || wb2)) := by
                      cases wb with
                      | true => exact whl_true hwh.out
                      | false => exact whl_step hwh.out HX.out (by rw [HY.out]; exact hwb2)
                    clear hwh hbi
                    cases wb with
                    | true =>
                      go_wp2_with fail
                      go_quiet (fail)
                      have dn2 := cell_dr dn nq
                      cases bb with
                      | true =>
                        have HG2 := Lib.hid (bgl_true hbg.out)
                        clear hbg
                        go_wp2_with fail
                        go_quiet (fail)
                        go_wp2_with fail
                        go_roundw
                        case rel => exact ⟨q + 1, _, true, by omega, rfl, rfl, by go_num, HW2, HG2, below_drewN HBA.out _⟩
                        case measure => simp [intOf]; omega
                      | false =>
                        by_cases ht1 : 1 ≤ t
                        · by_cases ht2 : t < 128
                          · obtain ⟨tn, rfl⟩ : ∃ tn : Nat, t = (tn : Int) := ⟨t.toNat, by omega⟩
                            obtain ⟨b2, hb2⟩ : ∃ b, ((now.extract 0 tn).toList == (y.extract 0 tn).toList) = b := ⟨_, rfl⟩
                            have HG2 := Lib.hid (bgl_step (b := b2) hbg.out ht1 ht2 HX.out (by rw [HY.out]; exact hb2))
                            have tz1 : tn ≤ now.size := by omega
                            have tz2 : tn ≤ y.size := by omega
                            have tz3 : tn ≤ 128 := by omega
                            clear hbg
                            go_wp2_with fail
                            go_quiet (fail)
                            go_wp2_with fail
                            go_roundw
                            case rel => exact ⟨q + 1, _, b2, by omega, rfl, rfl, by go_num, HW2, HG2, below_drewN HBA.out _⟩
                            case measure => simp [intOf]; omega
                          · have HG2 := Lib.hid (bgl_out (W := st.W) (k := x) (q := q) (now := now) (t := t) (fun h => ht2 h.2))
                            have dt1 : decide (1 ≤ t) = true := decide_eq_true ht1
                            have dt2 : decide (t < 128) = false := decide_eq_false ht2
                            clear hbg
                            go_wp2_with fail
                            go_quiet (fail)
                            go_wp2_with fail
                            go_roundw
                            case rel => exact ⟨q + 1, _, false, by omega, rfl, rfl, by go_num, HW2, HG2, below_drewN HBA.out _⟩
                            case measure => simp [intOf]; omega
                        · have HG2 := Lib.hid (bgl_out (W := st.W) (k := x) (q := q) (now := now) (t := t) (fun h => ht1 h.1))
                          have dt1 : decide (1 ≤ t) = false := decide_eq_false ht1
                          clear hbg
                          go_wp2_with fail
                          go_quiet (fail)
                          go_wp2_with fail
                          go_roundw
                          case rel => exact ⟨q + 1, _, false, by omega, rfl, rfl, by go_num, HW2, HG2, below_drewN HBA.out _⟩
                          case measure => simp [intOf]; omega
                    | false =>
                      go_wp2_with fail
                      go_quiet (fail)
                      have dn2 := cell_dr dn nq
                      cases bb with
                      | true =>
                        have HG2 := Lib.hid (bgl_true hbg.out)
                        clear hbg
                        go_wp2_with fail
                        go_quiet (fail)
                        go_wp2_with fail
                        go_roundw
                        case rel => exact ⟨q + 1, _, true, by omega, rfl, rfl, by go_num, HW2, HG2, below_drewN HBA.out _⟩
                        case measure => simp [intOf]; omega
                      | false =>
                        by_cases ht1 : 1 ≤ t
                        · by_cases ht2 : t < 128
                          · obtain ⟨tn, rfl⟩ : ∃ tn : Nat, t = (tn : Int) := ⟨t.toNat, by omega⟩
                            obtain ⟨b2, hb2⟩ : ∃ b, ((now.extract 0 tn).toList == (y.extract 0 tn).toList) = b := ⟨_, rfl⟩
                            have HG2 := Lib.hid (bgl_step (b := b2) hbg.out ht1 ht2 HX.out (by rw [HY.out]; exact hb2))
                            have tz1 : tn ≤ now.size := by omega
                            have tz2 : tn ≤ y.size := by omega
                            have tz3 : tn ≤ 128 := by omega
                            clear hbg
                            go_wp2_with fail
                            go_quiet (fail)
                            go_wp2_with fail
                            go_roundw
                            case rel => exact ⟨q + 1, _, b2, by omega, rfl, rfl, by go_num, HW2, HG2, below_drewN HBA.out _⟩
                            case measure => simp [intOf]; omega
                          · have HG2 := Lib.hid (bgl_out (W := st.W) (k := x) (q := q) (now := now) (t := t) (fun h => ht2 h.2))
                            have dt1 : decide (1 ≤ t) = true := decide_eq_true ht1
                            have dt2 : decide (t < 128) = false := decide_eq_false ht2
                            clear hbg
                            go_wp2_with fail
                            go_quiet (fail)
                            go_wp2_with fail
                            go_roundw
                            case rel => exact ⟨q + 1, _, false, by omega, rfl, rfl, by go_num, HW2, HG2, below_drewN HBA.out _⟩
                            case measure => simp [intOf]; omega
                        · have HG2 := Lib.hid (bgl_out (W := st.W) (k := x) (q := q) (now := now) (t := t) (fun h => ht1 h.1))
                          have dt1 : decide (1 ≤ t) = false := decide_eq_false ht1
                          clear hbg
                          go_wp2_with fail
                          go_quiet (fail)
                          go_wp2_with fail
                          go_roundw
                          case rel => exact ⟨q + 1, _, false, by omega, rfl, rfl, by go_num, HW2, HG2, below_drewN HBA.out _⟩
                          case measure => simp [intOf]; omega
                  · have HW2 := Lib.hid (whl_skip hwh.out (by rw [HX.out]; exact hxk)); have HG2 := Lib.hid (bgl_skip hbg.out (by rw [HX.out]; exact hxk))
                    have HBA := Lib.hid (hbi.out.alloc hbi.out.size (.cells #[.int .i64 (x : Int), .string y] 54))
                    have hne : ((x : Int) != (k : Int)) = true := by simp; omega
                    clear hwh hbg hbi hys
                    go_wp2_with fail
                    go_roundw
                    case rel => exact ⟨q + 1, wb, bb, by omega, rfl, rfl, by go_num, HW2, HG2, HBA⟩
                    case measure => simp [intOf]; omega
                · obtain rfl : q = st.W.length := by omega
                  have HBI := hbi
                  cases wb with
                  | true =>
                    clear hwh hbg hbi
                    go_wp2_with fail
                    go_roundw
                    case rel => exact ⟨k + 1, ov, by omega, rfl, by go_num, hov.out.imp id (fun h => ⟨h.1, by omega⟩), HBI⟩
                    case measure => simp [intOf]; omega
                  | false =>
                    obtain ⟨hkz, hbgn⟩ := HZK.out.resolve_left (whl_end hwh.out)
                    have hbt := bgl_end hbg.out hbgn
                    subst hbt
                    have hov0 : ov = 0 := by
                      rcases hov.out with h | h
                      · exact h
                      · omega
                    subst hov0
                    clear hwh hbg hbi hbgn hov
                    go_wp2_with fail
                    go_roundw
                    case rel => exact ⟨k + 1, 1, by omega, rfl, by go_num, .inr ⟨rfl, by omega⟩, HBI⟩
                    case measure => simp [intOf]; omega
            · obtain rfl : k = 4 := by omega
              have hovi : (ov : Int) ≤ 1 := by rcases hov.out with h | h <;> omega
              have HBE := Lib.hid (HB7.out.trans (hbk.out.mono HB7.out.size))
              clear hbk
              go_wp2_with fail
              refine (awake_in HBE.out).mono ?_
              rintro e wq ⟨rfl, hb⟩
              have HBQ := Lib.hid hb
              clear hb
              go_wp2_with fail
              go_ret
              exact ⟨rfl, HBQ.out⟩
end Go.Proofs.Ytanpaappecakoaa
