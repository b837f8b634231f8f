/-
  The contracts of the document's Put and Drop: any letters, any letter; what was there stays as it was.
-/
import Derived.Test.YtekndioohjlmcaaDoorLetterF
set_option linter.unusedVariables false
set_option linter.unusedSimpArgs false
set_option maxRecDepth 4000
namespace Go.Proofs.YtekndioohjlmcaaDoor.Letter
open Go.RowKit LeP
open Go.Proofs.YtekndioohjlmcaaDoor.Kt

set_option maxHeartbeats 8000000 in
theorem rput_any (a : Option Addr) (len cap : Nat) (l : List Lt) (hcap : len ≤ cap) (x0 x1 : Int) (x2 : Bool) (x3 x4 : Int) (r : List Lt × Int) (hr : putL l ⟨x0, x1, x2, x3, x4⟩ = r) (w : World) (h : LtAt w a len l) :
    Calls Tryd.prog 14 #[.slice a len cap, .agg #[.int .i64 x0, .int .i64 x1, .bool x2, .int .i64 x3, .int .i64 x4]] w (PutR w r.1 r.2) := by
  have hB0 := bx5_new 24 w (.int .i64 x0) (.int .i64 x1) (.bool x2) (.int .i64 x3) (.int .i64 x4)
  obtain ⟨w0, hw0⟩ : ∃ w0, w.alloc (.cells #[.int .i64 x0, .int .i64 x1, .bool x2, .int .i64 x3, .int .i64 x4] 24) = w0 := ⟨_, rfl⟩
  rw [hw0] at hB0
  have HW := Lib.hid hw0
  have HB0 := Lib.hid hB0
  have HX := Lib.hid h
  have hl := h.2.1
  have CF := Lib.hid (fun v hv => rfit_any a len cap l v hv w0 (Rw.At.keep h hB0.bel))
  clear hw0 hB0 h
  cases hf : fitB l with
  | false =>
    have HR : Hid (r = ([], 12)) := by show _ = _; rw [← hr, put_bad hf]
    have CF := Lib.hid (CF.out false hf)
    clear hf hr
    go_enter Tryd.func14, Tryd.ntmps14
    go_wp2_with fail
    rw [show w.alloc (.cells #[.int .i64 x0, .int .i64 x1, .bool x2, .int .i64 x3, .int .i64 x4] 24) = w0 from HW.out]
    go_wp2_with fail
    refine CF.out.mono ?_
    rintro e w1 ⟨rfl, hb⟩
    have HB1 := Lib.hid (HB0.out.keep hb)
    clear hb
    go_wp2_with fail
    go_ret2
    exact putR_none' HR.out HB1.out.bel
  | true =>
    have CF := Lib.hid (CF.out true hf)
    cases h1 : oneL ⟨x0, x1, x2, x3, x4⟩ with
    | false =>
      have HR : Hid (r = ([], 1)) := by show _ = _; rw [← hr, put_arg hf h1]
      have CV := Lib.hid (rone_is x0 x1 x2 x3 x4 false h1)
      clear hf h1 hr
      go_enter Tryd.func14, Tryd.ntmps14
      go_wp2_with fail
      rw [show w.alloc (.cells #[.int .i64 x0, .int .i64 x1, .bool x2, .int .i64 x3, .int .i64 x4] 24) = w0 from HW.out]
      go_wp2_with fail
      refine CF.out.mono ?_
      rintro e w1 ⟨rfl, hb⟩
      have HB1 := Lib.hid (HB0.out.keep hb)
      clear hb
      obtain ⟨d0, d1, d2, d3, d4⟩ := cells5 HB1.out.box
      go_wp2_with fail
      refine (CV.out w1).mono ?_
      rintro e w2 ⟨rfl, hb⟩
      have HB2 := Lib.hid (HB1.out.keep hb)
      clear hb d0 d1 d2 d3 d4
      go_wp2_with fail
      go_ret2
      exact putR_none' HR.out HB2.out.bel
    | true =>
      have CV := Lib.hid (rone_is x0 x1 x2 x3 x4 true h1)
      have hlen : len ≤ 16 := by rw [← HX.out.1]; exact (fitB_iff.1 hf).len
      have HUP := Lib.hid (fitB_iff.1 hf).up
      obtain ⟨z0, z1, z2, z3, z4, hz⟩ := lt_split (getL (findL x0 l))
      cases h3 : (findL x0 l).isSome with
      | true =>
        have HR : Hid (r = ([], 3)) := by show _ = _; rw [← hr, put_twice hf h1 h3]
        have CP := Lib.hid (fun W (hW : Below w.heap.size w W) => rfind_is a len cap l x0 z0 z1 z2 z3 z4 true hz h3 W (Rw.At.keep HX.out hW))
        clear hf h1 h3 hr hz
        go_enter Tryd.func14, Tryd.ntmps14
        go_wp2_with fail
        rw [show w.alloc (.cells #[.int .i64 x0, .int .i64 x1, .bool x2, .int .i64 x3, .int .i64 x4] 24) = w0 from HW.out]
        go_wp2_with fail
        refine CF.out.mono ?_
        rintro e w1 ⟨rfl, hb⟩
        have HB1 := Lib.hid (HB0.out.keep hb)
        clear hb
        obtain ⟨d0, d1, d2, d3, d4⟩ := cells5 HB1.out.box
        go_wp2_with fail
        refine (CV.out w1).mono ?_
        rintro e w2 ⟨rfl, hb⟩
        have HB2 := Lib.hid (HB1.out.keep hb)
        clear hb d0 d1 d2 d3 d4
        obtain ⟨d0, d1, d2, d3, d4⟩ := cells5 HB2.out.box
        go_wp2_with fail
        refine (CP.out w2 HB2.out.bel).mono ?_
        rintro e w3 ⟨rfl, hb⟩
        have hb' := hb.alloc hb.size (.cells #[.int .i64 z0, .int .i64 z1, .bool z2, .int .i64 z3, .int .i64 z4] 24)
        obtain ⟨u3, hu⟩ : ∃ u3, w3.alloc (.cells #[.int .i64 z0, .int .i64 z1, .bool z2, .int .i64 z3, .int .i64 z4] 24) = u3 := ⟨_, rfl⟩
        rw [hu] at hb'
        have HU := Lib.hid hu
        have HB3 := Lib.hid (HB2.out.keep hb')
        clear hb hb' hu
        clear d0 d1 d2 d3 d4
        go_wp2_with fail
        rw [show w3.alloc (.cells #[.int .i64 z0, .int .i64 z1, .bool z2, .int .i64 z3, .int .i64 z4] 24) = u3 from HU.out]
        go_wp2_with fail
        go_ret2
        exact putR_none' HR.out HB3.out.bel
      | false =>
        have CP := Lib.hid (fun W (hW : Below w.heap.size w W) => rfind_is a len cap l x0 z0 z1 z2 z3 z4 false hz h3 W (Rw.At.keep HX.out hW))
        by_cases h16 : len = 16
        · have HR : Hid (r = ([], 4)) := by show _ = _; rw [← hr, put_full hf h1 h3 (by rw [HX.out.1]; exact h16)]
          have e16 : ((len : Int) == 16) = true := by rw [h16]; rfl
          clear hf h1 h3 hr h16 hz
          go_enter Tryd.func14, Tryd.ntmps14
          go_wp2_with fail
          rw [show w.alloc (.cells #[.int .i64 x0, .int .i64 x1, .bool x2, .int .i64 x3, .int .i64 x4] 24) = w0 from HW.out]
          go_wp2_with fail
          refine CF.out.mono ?_
          rintro e w1 ⟨rfl, hb⟩
          have HB1 := Lib.hid (HB0.out.keep hb)
          clear hb
          obtain ⟨d0, d1, d2, d3, d4⟩ := cells5 HB1.out.box
          go_wp2_with fail
          refine (CV.out w1).mono ?_
          rintro e w2 ⟨rfl, hb⟩
          have HB2 := Lib.hid (HB1.out.keep hb)
          clear hb d0 d1 d2 d3 d4
          obtain ⟨d0, d1, d2, d3, d4⟩ := cells5 HB2.out.box
          go_wp2_with fail
          refine (CP.out w2 HB2.out.bel).mono ?_
          rintro e w3 ⟨rfl, hb⟩
          have hb' := hb.alloc hb.size (.cells #[.int .i64 z0, .int .i64 z1, .bool z2, .int .i64 z3, .int .i64 z4] 24)
          obtain ⟨u3, hu⟩ : ∃ u3, w3.alloc (.cells #[.int .i64 z0, .int .i64 z1, .bool z2, .int .i64 z3, .int .i64 z4] 24) = u3 := ⟨_, rfl⟩
          rw [hu] at hb'
          have HU := Lib.hid hu
          have HB3 := Lib.hid (HB2.out.keep hb')
          clear hb hb' hu
          clear d0 d1 d2 d3 d4
          go_wp2_with fail
          rw [show w3.alloc (.cells #[.int .i64 z0, .int .i64 z1, .bool z2, .int .i64 z3, .int .i64 z4] 24) = u3 from HU.out]
          go_wp2_with fail
          go_ret2
          exact putR_none' HR.out HB3.out.bel
        · obtain ⟨j, hj⟩ : ∃ j, posL x0 l = j := ⟨_, rfl⟩
          have hpl : j ≤ len := by rw [← HX.out.1, ← hj]; exact posL_le x0 l
          have HPI : Hid (∀ m, m < len → (m < j ↔ (l.getD m lt0).saga < x0)) := fun m hm => by rw [← hj]; exact posL_iff HUP.out (by rw [HX.out.1]; exact hm)
          have hok := put_ok (l := l) (t := ⟨x0, x1, x2, x3, x4⟩) hf h1 h3 (by rw [HX.out.1]; exact h16)
          have hlp : (insL ⟨x0, x1, x2, x3, x4⟩ l).length ≤ 1000000 := by rw [ins_len, HX.out.1]; omega
          unfold insL at hok hlp
          simp only [hj] at hok hlp
          have HLN : Hid ((l.take j ++ [(⟨x0, x1, x2, x3, x4⟩ : Lt)] ++ l.drop j).length ≤ 1000000) := by show _ ≤ _; rw [List.append_assoc]; exact hlp
          have HR : Hid (r = (l.take j ++ [(⟨x0, x1, x2, x3, x4⟩ : Lt)] ++ l.drop j, 0)) := by show _ = _; rw [← hr, hok, List.append_assoc]; rfl
          have e16 : ((len : Int) == 16) = false := beq_eq_false_iff_ne.2 (by omega)
          have hpc : j ≤ cap := Nat.le_trans hpl hcap
          obtain ⟨A2, hA2⟩ : ∃ A2, (if cap = j then a else Option.map (fun x => x.add (j * 5)) a) = A2 := ⟨_, rfl⟩
          have HA2 := Lib.hid hA2
          clear hf h1 h3 hr hj h16 hA2 hok hlp hz
          go_enter Tryd.func14, Tryd.ntmps14
          go_wp2_with fail
          rw [show w.alloc (.cells #[.int .i64 x0, .int .i64 x1, .bool x2, .int .i64 x3, .int .i64 x4] 24) = w0 from HW.out]
          go_wp2_with fail
          refine CF.out.mono ?_
          rintro e w1 ⟨rfl, hb⟩
          have HB1 := Lib.hid (HB0.out.keep hb)
          clear hb
          obtain ⟨d0, d1, d2, d3, d4⟩ := cells5 HB1.out.box
          go_wp2_with fail
          refine (CV.out w1).mono ?_
          rintro e w2 ⟨rfl, hb⟩
          have HB2 := Lib.hid (HB1.out.keep hb)
          clear hb d0 d1 d2 d3 d4
          obtain ⟨d0, d1, d2, d3, d4⟩ := cells5 HB2.out.box
          go_wp2_with fail
          refine (CP.out w2 HB2.out.bel).mono ?_
          rintro e w3 ⟨rfl, hb⟩
          have hb' := hb.alloc hb.size (.cells #[.int .i64 z0, .int .i64 z1, .bool z2, .int .i64 z3, .int .i64 z4] 24)
          obtain ⟨u3, hu⟩ : ∃ u3, w3.alloc (.cells #[.int .i64 z0, .int .i64 z1, .bool z2, .int .i64 z3, .int .i64 z4] 24) = u3 := ⟨_, rfl⟩
          rw [hu] at hb'
          have HU := Lib.hid hu
          have HB3 := Lib.hid (HB2.out.keep hb')
          clear hb hb' hu
          clear d0 d1 d2 d3 d4
          go_wp2_with fail
          rw [show w3.alloc (.cells #[.int .i64 z0, .int .i64 z1, .bool z2, .int .i64 z3, .int .i64 z4] 24) = u3 from HU.out]
          go_wp2_with fail
          go_loopw [9] (fun i wr => ∃ k : Nat, k ≤ j ∧ i = .int .i64 (k : Int) ∧ Hid (Bx5 24 w wr (.int .i64 x0) (.int .i64 x1) (.bool x2) (.int .i64 x3) (.int .i64 x4))) (fun i _ => j - (intOf i).toNat)
          case atStart => exact ⟨0, Nat.zero_le _, rfl, HB3⟩
          case round =>
            obtain ⟨k, hk, rfl, hB⟩ := hrel
            obtain ⟨b0, b1, b2, b3, b4⟩ := cells5 hB.out.box
            by_cases hkl : k < len
            · obtain ⟨b1', o1, y0, y1, y2, y3, y4, rfl, g1, hp, hc1⟩ := LtAt.at HX.out hkl
              obtain ⟨d0, d1, d2, d3, d4⟩ := hc1 wr hB.out.bel
              have hpi := HPI.out k hkl
              rw [hp] at hpi
              simp only at hpi
              have hki : (k : Int) < (len : Int) := by omega
              have hkd : decide ((k : Int) < (len : Int)) = true := decide_eq_true hki
              have hkz : (0 : Int) ≤ (k : Int) := by omega
              by_cases hlow : y0 < x0
              · have hkj : k < j := hpi.2 hlow
                have hle : decide (y0 < x0) = true := decide_eq_true hlow
                clear hpi hp hc1 g1 hlow
                go_wp2_with fail
                have c0 := fun d os => cell_regrown b0 d os
                have r0 := fun d os => cell_regrown d0 d os
                clear b0 b1 b2 b3 b4 d0 d1 d2 d3 d4
                refine wp_region_qw (by kernel_rfl) (by kernel_rfl) ?_
                iterate 14 (refine qw_take (by kernel_rfl) (fun K hK => ?_); go_simp; refine hK _ ?_; clear hK K)
                refine qw_nil ?_
                intro _ hw'
                obtain ⟨⟨dq, osq⟩, hw''⟩ := hw'
                subst hw''
                have HBL := Lib.hid (hB.out.keep (below_regrown wr dq osq))
                clear c0 r0
                generalize Sort.grow (redrawn wr dq) osq = wl at *
                clear hki hkd hkz hle
                go_wp2_with fail
                go_roundw
                case rel => exact ⟨k + 1, by omega, by go_num, HBL⟩
                case measure => simp [intOf]; omega
              · have hkj : ¬ k < j := fun h => hlow (hpi.1 h)
                obtain rfl : k = j := by omega
                have hle : decide (y0 < x0) = false := decide_eq_false hlow
                clear hpi hp hc1 g1 hlow hkj
                go_wp2_with fail
                have c0 := fun d os => cell_regrown b0 d os
                have r0 := fun d os => cell_regrown d0 d os
                clear b0 b1 b2 b3 b4 d0 d1 d2 d3 d4
                refine wp_region_qw (by kernel_rfl) (by kernel_rfl) ?_
                iterate 14 (refine qw_take (by kernel_rfl) (fun K hK => ?_); go_simp; refine hK _ ?_; clear hK K)
                refine qw_nil ?_
                intro _ hw'
                obtain ⟨⟨dq, osq⟩, hw''⟩ := hw'
                subst hw''
                have HBL := Lib.hid (hB.out.keep (below_regrown wr dq osq))
                clear c0 r0
                generalize Sort.grow (redrawn wr dq) osq = wl at *
                clear hki hkd hkz hle
                obtain ⟨b0, b1, b2, b3, b4⟩ := cells5 HBL.out.box
                have HK1 := Lib.hid (Rw.part_take (Rw.At.keep HX.out HBL.out.bel) hpl)
                have HO0 : Hid (wl.ownsRow w.heap.size 24 5 (.slice none 0 0) 0 (Rw.cells ltS [])) := World.ownsRow_nil _ _ _ _
                go_wp2_with (at_builtin; refine Rw.append_more ltS rfl (.tmp 43) (.tmp 46) rfl w.heap.size (.slice none 0 0) 0 [] (l.take k) (some ⟨b1', o1, none⟩) k cap rfl HO0.out rfl HK1.out (by omega) HBL.out.bel.size ?_)
                intro v5 w5 hO5 hg5
                have hb5 := Rw.below_more HBL.out.bel HBL.out.bel.size HO0.out hg5
                have HB5 : Hid (Bx5 24 w w5 (.int .i64 x0) (.int .i64 x1) (.bool x2) (.int .i64 x3) (.int .i64 x4)) := ⟨hb5, by show _ = _; rw [hg5.block _ (heap_lt HBL.out.box) (by intro e; cases e)]; exact HBL.out.box⟩
                have HO5 : Hid (w5.ownsRow w.heap.size 24 5 v5 k (Rw.cells ltS (l.take k))) := by first | exact hO5 | (rw [Nat.zero_add, List.nil_append] at hO5; exact hO5)
                obtain ⟨a5, c5, rfl, hc5⟩ := Rw.owns_slice hO5
                have hnb : w.heap.size < w5.heap.size := heap_lt HB5.out.box
                clear hO5 hg5 hb5 b0 b1 b2 b3 b4
                obtain ⟨b0, b1, b2, b3, b4⟩ := cells5 HB5.out.box
                go_wp2_with (at_builtin; refine Rw.append_one ltS rfl (.tmp 48) (.tmp 50) rfl w.heap.size w5 _ rfl (⟨x0, x1, x2, x3, x4⟩ : Lt) _ rfl (.slice a5 k c5) k (l.take k) rfl HO5.out rfl (by omega) HB5.out.bel.size ?_)
                intro v6 w6 hO6 hg6
                have HB6 := Lib.hid (Rw.below_append HB5.out.bel HB5.out.bel.size HO5.out hg6)
                have HO6 := Lib.hid hO6
                obtain ⟨a6, c6, rfl, hc6⟩ := Rw.owns_slice hO6
                have HK2 : Hid (LtAt w6 (some ⟨b1', o1 + k * 5, none⟩) (len - k) (l.drop k)) := Rw.part_drop (S := ltS) (cap := cap) (Rw.At.keep HX.out HB6.out) hpl hcap (by rw [if_neg (by omega)]; simp only [Option.map_some, Rw.add_at]; rfl)
                clear hO6 hg6 b0 b1 b2 b3 b4
                go_wp2_with (at_builtin; refine Rw.append_more ltS rfl (.tmp 52) (.tmp 55) rfl w.heap.size (.slice a6 (k + 1) c6) (k + 1) (l.take k ++ [(⟨x0, x1, x2, x3, x4⟩ : Lt)]) (l.drop k) (some ⟨b1', o1 + k * 5, none⟩) (len - k) (cap - k) rfl HO6.out rfl HK2.out (by omega) HB6.out.size ?_)
                intro v7 w7 hO7 hg7
                have hb7 := Rw.below_more HB6.out HB6.out.size HO6.out hg7
                have hR7 : RowP w (l.take k ++ [(⟨x0, x1, x2, x3, x4⟩ : Lt)] ++ l.drop k) (.returned v7) w7 := by
                  refine ⟨v7, rfl, ?_, hb7⟩
                  have hlen7 : (l.take k ++ [(⟨x0, x1, x2, x3, x4⟩ : Lt)] ++ l.drop k).length = k + 1 + (len - k) := by
                    rw [List.length_append, List.length_append, List.length_take, List.length_drop, HX.out.1, Nat.min_eq_left hpl]; simp
                  rw [hlen7, show l.take k ++ [(⟨x0, x1, x2, x3, x4⟩ : Lt)] ++ l.drop k = l.take k ++ (⟨x0, x1, x2, x3, x4⟩ : Lt) :: l.drop k by simp]
                  exact hO7
                have HE := Lib.hid (putR_row (r := r) HR.out (Below.refl _ w) HLN.out hR7)
                clear hO7 hg7 hb7 hR7
                go_wp2_with fail
                go_ret2
                exact HE.out
            · obtain rfl : k = len := by omega
              obtain rfl : k = j := by omega
              have hki : ¬ (k : Int) < (k : Int) := by omega
              have hkd : decide ((k : Int) < (k : Int)) = false := decide_eq_false hki
              clear hkl
              go_wp2_with fail
              have c0 := fun d os => cell_regrown b0 d os
              clear b0 b1 b2 b3 b4
              refine wp_region_qw (by kernel_rfl) (by kernel_rfl) ?_
              iterate 5 (refine qw_take (by kernel_rfl) (fun K hK => ?_); go_simp; refine hK _ ?_; clear hK K)
              iterate 8 (refine qw_skip (by kernel_rfl) ?_; simp only [Act.put, List.setIfInBounds_toArray, List.set_cons_succ, List.set_cons_zero])
              refine qw_take (by kernel_rfl) (fun K hK => ?_); go_simp; refine hK _ ?_; clear hK K
              refine qw_nil ?_
              intro _ hw'
              obtain ⟨⟨dq, osq⟩, hw''⟩ := hw'
              subst hw''
              have HBL := Lib.hid (hB.out.keep (below_regrown wr dq osq))
              clear c0
              generalize Sort.grow (redrawn wr dq) osq = wl at *
              clear hki hkd
              obtain ⟨b0, b1, b2, b3, b4⟩ := cells5 HBL.out.box
              have HK1 := Lib.hid (Rw.part_take (Rw.At.keep HX.out HBL.out.bel) hpl)
              have HO0 : Hid (wl.ownsRow w.heap.size 24 5 (.slice none 0 0) 0 (Rw.cells ltS [])) := World.ownsRow_nil _ _ _ _
              go_wp2_with (at_builtin; refine Rw.append_more ltS rfl (.tmp 43) (.tmp 46) rfl w.heap.size (.slice none 0 0) 0 [] (l.take k) a k cap rfl HO0.out rfl HK1.out (by omega) HBL.out.bel.size ?_)
              intro v5 w5 hO5 hg5
              have hb5 := Rw.below_more HBL.out.bel HBL.out.bel.size HO0.out hg5
              have HB5 : Hid (Bx5 24 w w5 (.int .i64 x0) (.int .i64 x1) (.bool x2) (.int .i64 x3) (.int .i64 x4)) := ⟨hb5, by show _ = _; rw [hg5.block _ (heap_lt HBL.out.box) (by intro e; cases e)]; exact HBL.out.box⟩
              have HO5 : Hid (w5.ownsRow w.heap.size 24 5 v5 k (Rw.cells ltS (l.take k))) := by first | exact hO5 | (rw [Nat.zero_add, List.nil_append] at hO5; exact hO5)
              obtain ⟨a5, c5, rfl, hc5⟩ := Rw.owns_slice hO5
              have hnb : w.heap.size < w5.heap.size := heap_lt HB5.out.box
              clear hO5 hg5 hb5 b0 b1 b2 b3 b4
              obtain ⟨b0, b1, b2, b3, b4⟩ := cells5 HB5.out.box
              go_wp2_with (at_builtin; refine Rw.append_one ltS rfl (.tmp 48) (.tmp 50) rfl w.heap.size w5 _ rfl (⟨x0, x1, x2, x3, x4⟩ : Lt) _ rfl (.slice a5 k c5) k (l.take k) rfl HO5.out rfl (by omega) HB5.out.bel.size ?_)
              intro v6 w6 hO6 hg6
              have HB6 := Lib.hid (Rw.below_append HB5.out.bel HB5.out.bel.size HO5.out hg6)
              have HO6 := Lib.hid hO6
              obtain ⟨a6, c6, rfl, hc6⟩ := Rw.owns_slice hO6
              have HK2 : Hid (LtAt w6 A2 (0) (l.drop k)) := by have := Rw.part_drop (S := ltS) (Rw.At.keep HX.out HB6.out) hpl hcap HA2.out; rw [Nat.sub_self] at this; exact this
              have hA2 := HA2.out
              clear hO6 hg6 b0 b1 b2 b3 b4
              go_wp2_with (at_builtin; refine Rw.append_more ltS rfl (.tmp 52) (.tmp 55) rfl w.heap.size (.slice a6 (k + 1) c6) (k + 1) (l.take k ++ [(⟨x0, x1, x2, x3, x4⟩ : Lt)]) (l.drop k) A2 (0) (cap - k) rfl HO6.out rfl HK2.out (by omega) HB6.out.size ?_)
              intro v7 w7 hO7 hg7
              have hb7 := Rw.below_more HB6.out HB6.out.size HO6.out hg7
              have hR7 : RowP w (l.take k ++ [(⟨x0, x1, x2, x3, x4⟩ : Lt)] ++ l.drop k) (.returned v7) w7 := by
                refine ⟨v7, rfl, ?_, hb7⟩
                have hlen7 : (l.take k ++ [(⟨x0, x1, x2, x3, x4⟩ : Lt)] ++ l.drop k).length = k + 1 + (0) := by
                  rw [List.length_append, List.length_append, List.length_take, List.length_drop, HX.out.1, Nat.min_eq_left hpl]; simp
                rw [hlen7, show l.take k ++ [(⟨x0, x1, x2, x3, x4⟩ : Lt)] ++ l.drop k = l.take k ++ (⟨x0, x1, x2, x3, x4⟩ : Lt) :: l.drop k by simp]
                exact hO7
              have HE := Lib.hid (putR_row (r := r) HR.out (Below.refl _ w) HLN.out hR7)
              clear hO7 hg7 hb7 hR7
              go_wp2_with fail
              go_ret2
              exact HE.out

set_option maxHeartbeats 4000000 in
theorem rdrop_any (a : Option Addr) (len cap : Nat) (l : List Lt) (g : Int) (r : List Lt × Int) (hr : dropL l g = r) (w : World) (h : LtAt w a len l) :
    Calls Tryd.prog 16 #[.slice a len cap, .int .i64 g] w (PutR w r.1 r.2) := by
  have HX := Lib.hid h
  have hl := h.2.1
  have CF := Lib.hid (fun v hv => rfit_any a len cap l v hv w h)
  clear h
  cases hf : fitB l with
  | false =>
    have HR : Hid (r = ([], 12)) := by show _ = _; rw [← hr, drop_bad hf]
    have CF := Lib.hid (CF.out false hf)
    clear hf hr
    go_enter Tryd.func16, Tryd.ntmps16
    go_wp2_with fail
    refine CF.out.mono ?_
    rintro e w1 ⟨rfl, hb⟩
    have HB1 := Lib.hid hb
    clear hb
    go_wp2_with fail
    go_ret2
    exact putR_none' HR.out HB1.out
  | true =>
    have CF := Lib.hid (CF.out true hf)
    have hlen : len ≤ 16 := by rw [← HX.out.1]; exact (fitB_iff.1 hf).len
    obtain ⟨z0, z1, z2, z3, z4, hz⟩ := lt_split (getL (findL g l))
    cases h3 : (findL g l).isSome with
    | false =>
      have HR : Hid (r = ([], 2)) := by show _ = _; rw [← hr, drop_none hf h3]
      have CP := Lib.hid (fun W (hW : Below w.heap.size w W) => rfind_is a len cap l g z0 z1 z2 z3 z4 false hz h3 W (Rw.At.keep HX.out hW))
      clear hf h3 hr hz
      go_enter Tryd.func16, Tryd.ntmps16
      go_wp2_with fail
      refine CF.out.mono ?_
      rintro e w1 ⟨rfl, hb⟩
      have HB1 := Lib.hid hb
      clear hb
      go_wp2_with fail
      refine (CP.out w1 HB1.out).mono ?_
      rintro e w3 ⟨rfl, hb⟩
      have hb' := hb.alloc hb.size (.cells #[.int .i64 z0, .int .i64 z1, .bool z2, .int .i64 z3, .int .i64 z4] 24)
      obtain ⟨u3, hu⟩ : ∃ u3, w3.alloc (.cells #[.int .i64 z0, .int .i64 z1, .bool z2, .int .i64 z3, .int .i64 z4] 24) = u3 := ⟨_, rfl⟩
      rw [hu] at hb'
      have HU := Lib.hid hu
      have HB3 := Lib.hid (below_keep HB1.out hb' HB1.out.size)
      clear hb hb' hu
      go_wp2_with fail
      rw [show w3.alloc (.cells #[.int .i64 z0, .int .i64 z1, .bool z2, .int .i64 z3, .int .i64 z4] 24) = u3 from HU.out]
      go_wp2_with fail
      go_ret2
      exact putR_none' HR.out HB3.out
    | true =>
      have HLN : Hid ((delL g l).length ≤ 1000000) := by show _ ≤ _; have := del_len g l; have := HX.out.1; omega
      have HR : Hid (r = (delL g l, 0)) := by show _ = _; rw [← hr, drop_ok hf h3]
      have CP := Lib.hid (fun W (hW : Below w.heap.size w W) => rfind_is a len cap l g z0 z1 z2 z3 z4 true hz h3 W (Rw.At.keep HX.out hW))
      clear hf h3 hr hz
      go_enter Tryd.func16, Tryd.ntmps16
      go_wp2_with fail
      refine CF.out.mono ?_
      rintro e w1 ⟨rfl, hb⟩
      have HB1 := Lib.hid hb
      clear hb
      go_wp2_with fail
      refine (CP.out w1 HB1.out).mono ?_
      rintro e w3 ⟨rfl, hb⟩
      have hb' := hb.alloc hb.size (.cells #[.int .i64 z0, .int .i64 z1, .bool z2, .int .i64 z3, .int .i64 z4] 24)
      obtain ⟨u3, hu⟩ : ∃ u3, w3.alloc (.cells #[.int .i64 z0, .int .i64 z1, .bool z2, .int .i64 z3, .int .i64 z4] 24) = u3 := ⟨_, rfl⟩
      rw [hu] at hb'
      have HU := Lib.hid hu
      have HB3 := Lib.hid (below_keep HB1.out hb' HB1.out.size)
      clear hb hb' hu
      go_wp2_with fail
      rw [show w3.alloc (.cells #[.int .i64 z0, .int .i64 z1, .bool z2, .int .i64 z3, .int .i64 z4] 24) = u3 from HU.out]
      go_wp2_with fail
      go_loopw [8, 9] (fun v i wr => ∃ (k n : Nat) (ys : List Lt), k ≤ len ∧ n ≤ k ∧ i = .int .i64 (k : Int) ∧ Hid (delL g (l.take k) = ys) ∧ Hid (ys.length = n) ∧ Hid (wr.ownsRow w.heap.size 24 5 v n (Rw.cells ltS ys)) ∧ Hid (Below w.heap.size w wr)) (fun _ i _ => len - (intOf i).toNat)
      case atStart => exact ⟨0, 0, [], Nat.zero_le _, Nat.le_refl _, rfl, rfl, rfl, World.ownsRow_nil _ _ _ _, HB3⟩
      case round =>
        obtain ⟨k, n, ys, hk, hnk, rfl, hY, hN, hO, hB⟩ := hrel
        obtain ⟨ad, cp, rfl, hcp⟩ := Rw.owns_slice hO.out
        by_cases hlk : k < len
        · have hkx : k < l.length := by rw [HX.out.1]; exact hlk
          obtain ⟨b1, o1, x0, x1, x2, x3, x4, rfl, g1, hp, hc1⟩ := LtAt.at HX.out hlk
          obtain ⟨d0, d1, d2, d3, d4⟩ := hc1 wr hB.out
          clear g1
          by_cases h1 : x0 = g
          · have e1 : (x0 != g) = false := by simp [h1]
            have hst : delL g (l.take (k + 1)) = delL g (l.take k) := filt_no hkx hp (by simp [h1])
            rw [hY.out] at hst
            have HST := Lib.hid hst
            clear hst hkx hp h1 hc1
            go_wp2_with fail
            go_roundw
            case rel => exact ⟨k + 1, n, ys, by omega, by omega, by go_num, HST, hN, hO, hB⟩
            case measure => simp [intOf]; omega
          · have e1 : (x0 != g) = true := by simp [h1]
            have hst : delL g (l.take (k + 1)) = delL g (l.take k) ++ [⟨x0, x1, x2, x3, x4⟩] := filt_yes hkx hp (by simp [h1])
            rw [hY.out] at hst
            have HST := Lib.hid hst
            have hsz := hB.out.size
            clear hst hkx hp h1 hc1
            go_wp2_with (at_builtin; refine Rw.append_one ltS rfl (.tmp 34) (.tmp 39) rfl w.heap.size wr _ rfl (⟨x0, x1, x2, x3, x4⟩ : Lt) _ rfl (.slice ad n cp) n ys rfl hO.out rfl (by omega) hsz ?_)
            intro v' w4 hO4 hg4
            have HO4 : Hid (w4.ownsRow w.heap.size 24 5 v' (n + 1) (Rw.cells ltS (ys ++ [⟨x0, x1, x2, x3, x4⟩]))) := hO4
            have HB4 := Lib.hid (Rw.below_append hB.out hsz hO.out hg4)
            clear hO4 hg4
            go_wp2_with fail
            go_roundw
            case rel => exact ⟨k + 1, n + 1, ys ++ [⟨x0, x1, x2, x3, x4⟩], by omega, by omega, by go_num, HST, by rw [List.length_append, hN.out]; rfl, HO4, HB4⟩
            case measure => simp [intOf]; omega
        · obtain rfl : k = len := by omega
          have hR7 : RowP w (delL g l) (.returned (.slice ad n cp)) wr := by
            have hY2 := hY.out
            rw [List.take_of_length_le (Nat.le_of_eq HX.out.1)] at hY2
            rw [hY2]
            have hO2 := hO.out
            exact ⟨_, rfl, hN.out.symm ▸ hO2, hB.out⟩
          have HE := Lib.hid (putR_row (r := r) HR.out (Below.refl _ w) HLN.out hR7)
          clear hR7
          go_wp2_with fail
          go_ret2
          exact HE.out
end Go.Proofs.YtekndioohjlmcaaDoor.Letter
