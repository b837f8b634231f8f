/-
  LetterBack; what was there stays as it was.
-/
import Derived.Test.YtekndioohjlmcaaDoorLetterK
set_option linter.unusedVariables false
set_option linter.unusedSimpArgs false
set_option maxRecDepth 4000
namespace Go.Proofs.YtekndioohjlmcaaDoor.Letter
open Go.RowKit LeP
open Go.Proofs.YtekndioohjlmcaaDoor.Kt

/-- Putting one: how it is then, or why not. -/
theorem put_cases (l : List Lt) (x : Lt) : (∃ er, putL l x = ([], er) ∧ er ≠ 0) ∨ (putL l x = (insL x l, 0) ∧ oneL x = true ∧ fitB (insL x l) = true ∧ findL x.saga (insL x l) = some x ∧ dropL (insL x l) x.saga = (l, 0) ∧ (insL x l).length ≤ 1000000) := by
  cases hf : fitB l with
  | false => exact .inl ⟨_, put_bad hf, by decide⟩
  | true =>
    cases h1 : oneL x with
    | false => exact .inl ⟨_, put_arg hf h1, by decide⟩
    | true =>
      cases h3 : (findL x.saga l).isSome with
      | true => exact .inl ⟨_, put_twice hf h1 h3, by decide⟩
      | false =>
        by_cases h4 : l.length = 16
        · exact .inl ⟨_, put_full hf h1 h3 h4, by decide⟩
        · have hfit := fitB_iff.1 hf
          have hn : findL x.saga l = none := by
            cases e : findL x.saga l with
            | none => rfl
            | some y => rw [e] at h3; cases h3
          have h6 := ins_fit hfit h1 hn h4
          have h7 := ins_find (x := x) hfit.up
          refine .inr ⟨put_ok hf h1 h3 h4, rfl, fitB_iff.2 h6, h7, ?_, ?_⟩
          · rw [drop_ok (fitB_iff.2 h6) (by rw [h7]; rfl), ins_del hn]
          · have := h6.len; omega
theorem bs_eq {a b : List UInt8} : ((bs a).toList == (bs b).toList) = decide (a = b) := by
  have e : ∀ l : List UInt8, (bs l).toList = l := fun l => by
    rw [ByteArray.toList_eq]; rfl
  rw [e, e]
  by_cases h : a = b
  · subst h; simp
  · simp [h]

set_option maxHeartbeats 16000000 in
theorem back_any (a : Option Addr) (len cap : Nat) (l : List Lt) (hcap : len ≤ cap) (x0 x1 : Int) (x2 : Bool) (x3 x4 : Int) (y0 y1 : Int) (y2 : Bool) (y3 y4 : Int) (w : World) (h : LtAt w a len l) (ht : Num.Tab w) :
    Calls Tryd.prog 5 #[.slice a len cap, .agg #[.int .i64 x0, .int .i64 x1, .bool x2, .int .i64 x3, .int .i64 x4], .agg #[.int .i64 y0, .int .i64 y1, .bool y2, .int .i64 y3, .int .i64 y4]] w fun e w' => e = .returned (.bool true) ∧ Below w.heap.size w w' := by
  have hB1 := at5_new 24 w (.int .i64 x0) (.int .i64 x1) (.bool x2) (.int .i64 x3) (.int .i64 x4)
  have hB2 := at5_new 24 (w.alloc (.cells #[.int .i64 x0, .int .i64 x1, .bool x2, .int .i64 x3, .int .i64 x4] 24)) (.int .i64 y0) (.int .i64 y1) (.bool y2) (.int .i64 y3) (.int .i64 y4)
  have hB3 := hB1.alloc (.cells #[.int .i64 y0, .int .i64 y1, .bool y2, .int .i64 y3, .int .i64 y4] 24)
  rw [World.size_alloc] at hB2
  have hbel := ((Below.refl w.heap.size w).alloc (Nat.le_refl _) (.cells #[.int .i64 x0, .int .i64 x1, .bool x2, .int .i64 x3, .int .i64 x4] 24)).alloc (by simp) (.cells #[.int .i64 y0, .int .i64 y1, .bool y2, .int .i64 y3, .int .i64 y4] 24)
  obtain ⟨w0, hw0⟩ : ∃ w0, ((w.alloc (.cells #[.int .i64 x0, .int .i64 x1, .bool x2, .int .i64 x3, .int .i64 x4] 24)).alloc (.cells #[.int .i64 y0, .int .i64 y1, .bool y2, .int .i64 y3, .int .i64 y4] 24)) = w0 := ⟨_, rfl⟩
  rw [hw0] at hB2 hB3 hbel
  have HW := Lib.hid hw0
  have B0 := Lib.hid hbel
  have HBX := Lib.hid hB3
  have HBY := Lib.hid hB2
  have HX := Lib.hid h
  have HT := Lib.hid ht
  have HPC := Lib.hid (put_cases l ⟨x0, x1, x2, x3, x4⟩)
  have hl := h.2.1
  clear hw0 hB1 hB2 hB3 hbel h ht
  by_cases h20 : 20 < len
  · have e0 : (20 : Int) < (len : Int) := by omega
    have CA := Lib.hid (awake_any w0 (HT.out.keep B0.out))
    go_enter Tryd.func5, Tryd.ntmps5
    go_wp2_with fail
    rw [show ((w.alloc (.cells #[.int .i64 x0, .int .i64 x1, .bool x2, .int .i64 x3, .int .i64 x4] 24)).alloc (.cells #[.int .i64 y0, .int .i64 y1, .bool y2, .int .i64 y3, .int .i64 y4] 24)) = w0 from HW.out]
    go_wp2_with fail
    refine CA.out.mono ?_
    rintro e w1 ⟨rfl, hb⟩
    have B1 := Lib.hid (below_keep B0.out hb B0.out.size)
    clear hb
    go_wp2_with fail
    go_ret
    exact ⟨rfl, B1.out⟩
  have e0 : ¬ (20 : Int) < (len : Int) := by omega
  cases ox : oneL ⟨x0, x1, x2, x3, x4⟩ with
  | false =>
    have O1 := Lib.hid (fun d os => Calls.regrown_of (rone_is x0 x1 x2 x3 x4 false ox (Sort.grow (redrawn w0 d) os)))
    clear ox
    go_enter Tryd.func5, Tryd.ntmps5
    go_wp2_with fail
    rw [show ((w.alloc (.cells #[.int .i64 x0, .int .i64 x1, .bool x2, .int .i64 x3, .int .i64 x4] 24)).alloc (.cells #[.int .i64 y0, .int .i64 y1, .bool y2, .int .i64 y3, .int .i64 y4] 24)) = w0 from HW.out]
    go_wp2_with fail
    obtain ⟨d0, d1, d2, d3, d4⟩ := cells5 HBX.out
    obtain ⟨e0, e1, e2, e3, e4⟩ := cells5 HBY.out
    have c0 := fun d os => cell_regrown d0 d os
    have k0 := fun d os => cell_regrown e0 d os
    have c1 := fun d os => cell_regrown d1 d os
    have k1 := fun d os => cell_regrown e1 d os
    have c2 := fun d os => cell_regrown d2 d os
    have k2 := fun d os => cell_regrown e2 d os
    have c3 := fun d os => cell_regrown d3 d os
    have k3 := fun d os => cell_regrown e3 d os
    have c4 := fun d os => cell_regrown d4 d os
    have k4 := fun d os => cell_regrown e4 d os
    clear d0 e0 d1 e1 d2 e2 d3 e3 d4 e4
    refine wp_region_qw (by kernel_rfl) (by kernel_rfl) ?_
    iterate 3 (refine qw_take (by kernel_rfl) (fun K hK => ?_); go_simp; first | (refine hK _ ?_; clear hK K) | (apply Exists.intro; refine ⟨fun _ => ?_, hK _ ?_⟩; (first | with_reducible exact O1.out _ _); clear hK K))
    iterate 2 (refine qw_skip (by kernel_rfl) ?_; simp only [Act.put, List.setIfInBounds_toArray, List.set_cons_succ, List.set_cons_zero])
    iterate 2 (refine qw_take (by kernel_rfl) (fun K hK => ?_); go_simp; first | (refine hK _ ?_; clear hK K) | (apply Exists.intro; refine ⟨fun _ => ?_, hK _ ?_⟩; (first | with_reducible exact O1.out _ _); clear hK K))
    iterate 9 (refine qw_skip (by kernel_rfl) ?_; simp only [Act.put, List.setIfInBounds_toArray, List.set_cons_succ, List.set_cons_zero])
    refine qw_take (by kernel_rfl) (fun K hK => ?_); go_simp; first | (refine hK _ ?_; clear hK K) | (apply Exists.intro; refine ⟨fun _ => ?_, hK _ ?_⟩; (first | with_reducible exact O1.out _ _); clear hK K)
    refine qw_nil ?_
    intro _ hw'
    obtain ⟨⟨dq, osq⟩, hw''⟩ := hw'
    subst hw''
    have B1 := Lib.hid (below_keep B0.out (below_regrown w0 dq osq) B0.out.size)
    have X1 := Lib.hid (At5.keep HBX.out (below_regrown w0 dq osq))
    clear c0 k0 c1 k1 c2 k2 c3 k3 c4 k4
    generalize Sort.grow (redrawn w0 dq) osq = w1 at *
    rcases HPC.out with ⟨er, hs, her⟩ | ⟨hs, h1, hfm, hfd, hdr, hln⟩
    · have C1 := Lib.hid (put_any a len cap l hcap x0 x1 x2 x3 x4 _ hs w1 (Rw.At.keep HX.out B1.out))
      have e1 : (er != 0) = true := by simpa using her
      clear hs her
      obtain ⟨d0, d1, d2, d3, d4⟩ := cells5 X1.out
      go_wp2_with fail
      refine C1.out.mono ?_
      rintro e w2 ⟨a2, n2, c2, rfl, hc2, hA2, hb⟩
      obtain rfl : 0 = n2 := hA2.1
      have B2 := Lib.hid (below_keep B1.out hb B1.out.size)
      have CA := Lib.hid (awake_any w2 (HT.out.keep B2.out))
      clear hb hA2 hc2 C1 d0 d1 d2 d3 d4
      go_wp2_with fail
      refine CA.out.mono ?_
      rintro e w3 ⟨rfl, hb⟩
      have B3 := Lib.hid (below_keep B2.out hb B2.out.size)
      clear hb
      go_wp2_with fail
      go_ret
      exact ⟨rfl, B3.out⟩
    · have C1 := Lib.hid (put_any a len cap l hcap x0 x1 x2 x3 x4 _ hs w1 (Rw.At.keep HX.out B1.out))
      obtain ⟨m, hm⟩ : ∃ m, insL ⟨x0, x1, x2, x3, x4⟩ l = m := ⟨_, rfl⟩
      rw [hm] at C1 hfm hfd hdr hln
      have HFM := Lib.hid hfm; have HFD := Lib.hid hfd; have HDR := Lib.hid hdr; have H1 := Lib.hid h1
      clear hs hfm hfd hdr hm h1
      obtain ⟨d0, d1, d2, d3, d4⟩ := cells5 X1.out
      go_wp2_with fail
      refine C1.out.mono ?_
      rintro e w2 ⟨a2, n2, c2, rfl, hc2, hA2, hb⟩
      have B2 := Lib.hid (below_keep B1.out hb B1.out.size)
      have X2 := Lib.hid (X1.out.keep hb)
      have HA2 := Lib.hid hA2
      have F1 := Lib.hid (find_is a2 n2 c2 m x0 x0 x1 x2 x3 x4 true (by rw [HFD.out]; rfl) (by rw [HFD.out]; rfl) w2 hA2)
      clear hb hA2 C1 d0 d1 d2 d3 d4
      obtain ⟨d0, d1, d2, d3, d4⟩ := cells5 X2.out
      go_wp2_with fail
      refine F1.out.mono ?_
      rintro e w3 ⟨rfl, hb⟩
      have hb' := hb.alloc hb.size (.cells #[.int .i64 x0, .int .i64 x1, .bool x2, .int .i64 x3, .int .i64 x4] 24)
      have hz := at5_new 24 w3 (.int .i64 x0) (.int .i64 x1) (.bool x2) (.int .i64 x3) (.int .i64 x4)
      have dd := (cells5 (X2.out.keep hb')).1
      obtain ⟨u3, hu⟩ : ∃ u3, w3.alloc (.cells #[.int .i64 x0, .int .i64 x1, .bool x2, .int .i64 x3, .int .i64 x4] 24) = u3 := ⟨_, rfl⟩
      rw [hu] at hb' hz
      obtain ⟨b3, hbx⟩ : ∃ b3, w3.heap.size = b3 := ⟨_, rfl⟩
      rw [hbx] at hz
      have HU := Lib.hid hu
      have HBX3 := Lib.hid hbx
      have B3 := Lib.hid (below_keep B2.out hb' B2.out.size)
      have X3 := Lib.hid (X2.out.keep hb')
      have Z3 := Lib.hid hz
      have HA3 := Lib.hid (Rw.At.keep HA2.out hb')
      have C2 := Lib.hid (drop_any a2 n2 c2 m hc2 x0 _ HDR.out u3 HA3.out)
      clear hb hb' hz hu hbx F1 d0 d1 d2 d3 d4
      go_wp2_with fail
      rw [show w3.alloc (.cells #[.int .i64 x0, .int .i64 x1, .bool x2, .int .i64 x3, .int .i64 x4] 24) = u3 from HU.out]
      rw [show w3.heap.size = b3 from HBX3.out]
      clear dd
      refine C2.out.mono ?_
      rintro e w4 ⟨a4, n4, c4, rfl, hc4, hA4, hb⟩
      have B4 := Lib.hid (below_keep B3.out hb B3.out.size)
      have X4 := Lib.hid (X3.out.keep hb)
      have Z4 := Lib.hid (Z3.out.keep hb)
      have HA4 := Lib.hid (Rw.At.keep HA3.out hb)
      have HK4 := Lib.hid hA4
      have CF := Lib.hid (fit_any a2 n2 c2 m true HFM.out w4 HA4.out)
      clear hb hA4 hc4 C2
      obtain ⟨d0, d1, d2, d3, d4⟩ := cells5 X4.out
      obtain ⟨e0, e1, e2, e3, e4⟩ := cells5 Z4.out
      have q1 := fun w => eql_lt x0 x1 x2 x3 x4 x0 x1 x2 x3 x4 w
      rw [eqL_self] at q1
      have q3 := fun x y w => guard_lt .eql x y x0 x1 x2 x3 x4 x0 x1 x2 x3 x4 w
      go_wp2_with fail
      refine CF.out.mono ?_
      rintro e w5 ⟨rfl, hb⟩
      have B5 := Lib.hid (below_keep B4.out hb B4.out.size)
      have X5 := Lib.hid (X4.out.keep hb)
      have CS := Lib.hid (rsame_any a4 a n4 c4 len cap l l true (eqLs_iff.2 rfl) w5 (HK4.out.keep hb) (Rw.At.keep HX.out B5.out))
      clear hb CF q1 q3 d0 d1 d2 d3 d4 e0 e1 e2 e3 e4
      go_wp2_with fail
      refine CS.out.mono ?_
      rintro e w6 ⟨rfl, hb⟩
      have B6 := Lib.hid (below_keep B5.out hb B5.out.size)
      have X6 := Lib.hid (X5.out.keep hb)
      have CT := text_any x0 x1 x2 x3 x4 w6 (HT.out.keep B6.out)
      obtain ⟨s, hs⟩ : ∃ s, bs (textL ⟨x0, x1, x2, x3, x4⟩) = s := ⟨_, rfl⟩
      have hne : (s.toList == (bs []).toList) = false := by rw [← hs, bs_eq]; exact decide_eq_false (text_some H1.out)
      rw [hs] at CT
      have CT := Lib.hid CT
      clear hb CS hs
      obtain ⟨d0, d1, d2, d3, d4⟩ := cells5 X6.out
      go_wp2_with fail
      refine CT.out.mono ?_
      rintro e w7 ⟨rfl, hb⟩
      have B7 := Lib.hid (below_keep B6.out hb B6.out.size)
      have CA := Lib.hid (awake_any w7 (HT.out.keep B7.out))
      clear hb CT d0 d1 d2 d3 d4
      have hne2 : ¬ (s.toList = []) := fun e => by rw [e, show (bs []).toList = [] by rw [ByteArray.toList_eq]; rfl] at hne; simp at hne
      have HNE : Hid (true = !s.toList.isEmpty) := by show _ = _; cases q : s.toList with | nil => exact absurd q hne2 | cons c r => rfl
      clear hne
      go_wp2_with fail
      refine CA.out.mono ?_
      rintro e w8 ⟨rfl, hb⟩
      have B8 := Lib.hid (below_keep B7.out hb B7.out.size)
      clear hb
      go_wp2_with fail
      go_ret
      exact ⟨ret_bool HNE.out, B8.out⟩
  | true =>
    have O1 := Lib.hid (fun d os => Calls.regrown_of (rone_is x0 x1 x2 x3 x4 true ox (Sort.grow (redrawn w0 d) os)))
    cases oy : oneL ⟨y0, y1, y2, y3, y4⟩ with
    | false =>
      have O2 := Lib.hid (fun d os => Calls.regrown_of (rone_is y0 y1 y2 y3 y4 false oy (Sort.grow (redrawn w0 d) os)))
      clear ox oy
      go_enter Tryd.func5, Tryd.ntmps5
      go_wp2_with fail
      rw [show ((w.alloc (.cells #[.int .i64 x0, .int .i64 x1, .bool x2, .int .i64 x3, .int .i64 x4] 24)).alloc (.cells #[.int .i64 y0, .int .i64 y1, .bool y2, .int .i64 y3, .int .i64 y4] 24)) = w0 from HW.out]
      go_wp2_with fail
      obtain ⟨d0, d1, d2, d3, d4⟩ := cells5 HBX.out
      obtain ⟨e0, e1, e2, e3, e4⟩ := cells5 HBY.out
      have c0 := fun d os => cell_regrown d0 d os
      have k0 := fun d os => cell_regrown e0 d os
      have c1 := fun d os => cell_regrown d1 d os
      have k1 := fun d os => cell_regrown e1 d os
      have c2 := fun d os => cell_regrown d2 d os
      have k2 := fun d os => cell_regrown e2 d os
      have c3 := fun d os => cell_regrown d3 d os
      have k3 := fun d os => cell_regrown e3 d os
      have c4 := fun d os => cell_regrown d4 d os
      have k4 := fun d os => cell_regrown e4 d os
      clear d0 e0 d1 e1 d2 e2 d3 e3 d4 e4
      refine wp_region_qw (by kernel_rfl) (by kernel_rfl) ?_
      iterate 7 (refine qw_take (by kernel_rfl) (fun K hK => ?_); go_simp; first | (refine hK _ ?_; clear hK K) | (apply Exists.intro; refine ⟨fun _ => ?_, hK _ ?_⟩; (first | with_reducible exact O1.out _ _ | with_reducible exact O2.out _ _); clear hK K))
      iterate 9 (refine qw_skip (by kernel_rfl) ?_; simp only [Act.put, List.setIfInBounds_toArray, List.set_cons_succ, List.set_cons_zero])
      refine qw_take (by kernel_rfl) (fun K hK => ?_); go_simp; first | (refine hK _ ?_; clear hK K) | (apply Exists.intro; refine ⟨fun _ => ?_, hK _ ?_⟩; (first | with_reducible exact O1.out _ _ | with_reducible exact O2.out _ _); clear hK K)
      refine qw_nil ?_
      intro _ hw'
      obtain ⟨⟨dq, osq⟩, hw''⟩ := hw'
      subst hw''
      have B1 := Lib.hid (below_keep B0.out (below_regrown w0 dq osq) B0.out.size)
      have X1 := Lib.hid (At5.keep HBX.out (below_regrown w0 dq osq))
      clear c0 k0 c1 k1 c2 k2 c3 k3 c4 k4
      generalize Sort.grow (redrawn w0 dq) osq = w1 at *
      rcases HPC.out with ⟨er, hs, her⟩ | ⟨hs, h1, hfm, hfd, hdr, hln⟩
      · have C1 := Lib.hid (put_any a len cap l hcap x0 x1 x2 x3 x4 _ hs w1 (Rw.At.keep HX.out B1.out))
        have e1 : (er != 0) = true := by simpa using her
        clear hs her
        obtain ⟨d0, d1, d2, d3, d4⟩ := cells5 X1.out
        go_wp2_with fail
        refine C1.out.mono ?_
        rintro e w2 ⟨a2, n2, c2, rfl, hc2, hA2, hb⟩
        obtain rfl : 0 = n2 := hA2.1
        have B2 := Lib.hid (below_keep B1.out hb B1.out.size)
        have CA := Lib.hid (awake_any w2 (HT.out.keep B2.out))
        clear hb hA2 hc2 C1 d0 d1 d2 d3 d4
        go_wp2_with fail
        refine CA.out.mono ?_
        rintro e w3 ⟨rfl, hb⟩
        have B3 := Lib.hid (below_keep B2.out hb B2.out.size)
        clear hb
        go_wp2_with fail
        go_ret
        exact ⟨rfl, B3.out⟩
      · have C1 := Lib.hid (put_any a len cap l hcap x0 x1 x2 x3 x4 _ hs w1 (Rw.At.keep HX.out B1.out))
        obtain ⟨m, hm⟩ : ∃ m, insL ⟨x0, x1, x2, x3, x4⟩ l = m := ⟨_, rfl⟩
        rw [hm] at C1 hfm hfd hdr hln
        have HFM := Lib.hid hfm; have HFD := Lib.hid hfd; have HDR := Lib.hid hdr; have H1 := Lib.hid h1
        clear hs hfm hfd hdr hm h1
        obtain ⟨d0, d1, d2, d3, d4⟩ := cells5 X1.out
        go_wp2_with fail
        refine C1.out.mono ?_
        rintro e w2 ⟨a2, n2, c2, rfl, hc2, hA2, hb⟩
        have B2 := Lib.hid (below_keep B1.out hb B1.out.size)
        have X2 := Lib.hid (X1.out.keep hb)
        have HA2 := Lib.hid hA2
        have F1 := Lib.hid (find_is a2 n2 c2 m x0 x0 x1 x2 x3 x4 true (by rw [HFD.out]; rfl) (by rw [HFD.out]; rfl) w2 hA2)
        clear hb hA2 C1 d0 d1 d2 d3 d4
        obtain ⟨d0, d1, d2, d3, d4⟩ := cells5 X2.out
        go_wp2_with fail
        refine F1.out.mono ?_
        rintro e w3 ⟨rfl, hb⟩
        have hb' := hb.alloc hb.size (.cells #[.int .i64 x0, .int .i64 x1, .bool x2, .int .i64 x3, .int .i64 x4] 24)
        have hz := at5_new 24 w3 (.int .i64 x0) (.int .i64 x1) (.bool x2) (.int .i64 x3) (.int .i64 x4)
        have dd := (cells5 (X2.out.keep hb')).1
        obtain ⟨u3, hu⟩ : ∃ u3, w3.alloc (.cells #[.int .i64 x0, .int .i64 x1, .bool x2, .int .i64 x3, .int .i64 x4] 24) = u3 := ⟨_, rfl⟩
        rw [hu] at hb' hz
        obtain ⟨b3, hbx⟩ : ∃ b3, w3.heap.size = b3 := ⟨_, rfl⟩
        rw [hbx] at hz
        have HU := Lib.hid hu
        have HBX3 := Lib.hid hbx
        have B3 := Lib.hid (below_keep B2.out hb' B2.out.size)
        have X3 := Lib.hid (X2.out.keep hb')
        have Z3 := Lib.hid hz
        have HA3 := Lib.hid (Rw.At.keep HA2.out hb')
        have C2 := Lib.hid (drop_any a2 n2 c2 m hc2 x0 _ HDR.out u3 HA3.out)
        clear hb hb' hz hu hbx F1 d0 d1 d2 d3 d4
        go_wp2_with fail
        rw [show w3.alloc (.cells #[.int .i64 x0, .int .i64 x1, .bool x2, .int .i64 x3, .int .i64 x4] 24) = u3 from HU.out]
        rw [show w3.heap.size = b3 from HBX3.out]
        clear dd
        refine C2.out.mono ?_
        rintro e w4 ⟨a4, n4, c4, rfl, hc4, hA4, hb⟩
        have B4 := Lib.hid (below_keep B3.out hb B3.out.size)
        have X4 := Lib.hid (X3.out.keep hb)
        have Z4 := Lib.hid (Z3.out.keep hb)
        have HA4 := Lib.hid (Rw.At.keep HA3.out hb)
        have HK4 := Lib.hid hA4
        have CF := Lib.hid (fit_any a2 n2 c2 m true HFM.out w4 HA4.out)
        clear hb hA4 hc4 C2
        obtain ⟨d0, d1, d2, d3, d4⟩ := cells5 X4.out
        obtain ⟨e0, e1, e2, e3, e4⟩ := cells5 Z4.out
        have q1 := fun w => eql_lt x0 x1 x2 x3 x4 x0 x1 x2 x3 x4 w
        rw [eqL_self] at q1
        have q3 := fun x y w => guard_lt .eql x y x0 x1 x2 x3 x4 x0 x1 x2 x3 x4 w
        go_wp2_with fail
        refine CF.out.mono ?_
        rintro e w5 ⟨rfl, hb⟩
        have B5 := Lib.hid (below_keep B4.out hb B4.out.size)
        have X5 := Lib.hid (X4.out.keep hb)
        have CS := Lib.hid (rsame_any a4 a n4 c4 len cap l l true (eqLs_iff.2 rfl) w5 (HK4.out.keep hb) (Rw.At.keep HX.out B5.out))
        clear hb CF q1 q3 d0 d1 d2 d3 d4 e0 e1 e2 e3 e4
        go_wp2_with fail
        refine CS.out.mono ?_
        rintro e w6 ⟨rfl, hb⟩
        have B6 := Lib.hid (below_keep B5.out hb B5.out.size)
        have X6 := Lib.hid (X5.out.keep hb)
        have CT := text_any x0 x1 x2 x3 x4 w6 (HT.out.keep B6.out)
        obtain ⟨s, hs⟩ : ∃ s, bs (textL ⟨x0, x1, x2, x3, x4⟩) = s := ⟨_, rfl⟩
        have hne : (s.toList == (bs []).toList) = false := by rw [← hs, bs_eq]; exact decide_eq_false (text_some H1.out)
        rw [hs] at CT
        have CT := Lib.hid CT
        clear hb CS hs
        obtain ⟨d0, d1, d2, d3, d4⟩ := cells5 X6.out
        go_wp2_with fail
        refine CT.out.mono ?_
        rintro e w7 ⟨rfl, hb⟩
        have B7 := Lib.hid (below_keep B6.out hb B6.out.size)
        have CA := Lib.hid (awake_any w7 (HT.out.keep B7.out))
        clear hb CT d0 d1 d2 d3 d4
        have hne2 : ¬ (s.toList = []) := fun e => by rw [e, show (bs []).toList = [] by rw [ByteArray.toList_eq]; rfl] at hne; simp at hne
        have HNE : Hid (true = !s.toList.isEmpty) := by show _ = _; cases q : s.toList with | nil => exact absurd q hne2 | cons c r => rfl
        clear hne
        go_wp2_with fail
        refine CA.out.mono ?_
        rintro e w8 ⟨rfl, hb⟩
        have B8 := Lib.hid (below_keep B7.out hb B7.out.size)
        clear hb
        go_wp2_with fail
        go_ret
        exact ⟨ret_bool HNE.out, B8.out⟩
    | true =>
      have O2 := Lib.hid (fun d os => Calls.regrown_of (rone_is y0 y1 y2 y3 y4 true oy (Sort.grow (redrawn w0 d) os)))
      have htx := text_same ox oy
      rw [← bs_eq] at htx
      obtain ⟨s1, hs1⟩ : ∃ s1, bs (textL ⟨x0, x1, x2, x3, x4⟩) = s1 := ⟨_, rfl⟩
      obtain ⟨s2, hs2⟩ : ∃ s2, bs (textL ⟨y0, y1, y2, y3, y4⟩) = s2 := ⟨_, rfl⟩
      have O3 : Hid (∀ d os, _) := fun d os => Calls.regrown_of (text_any x0 x1 x2 x3 x4 (Sort.grow (redrawn w0 d) os) (HT.out.keep (below_keep B0.out (below_regrown w0 d os) B0.out.size)))
      have O4 : Hid (∀ d os, _) := fun d os => Calls.regrown_of (text_any y0 y1 y2 y3 y4 (Sort.grow (redrawn w0 d) os) (HT.out.keep (below_keep B0.out (below_regrown w0 d os) B0.out.size)))
      rw [hs1, hs2] at htx
      rw [hs1] at O3
      rw [hs2] at O4
      have q1 := fun w => eql_lt x0 x1 x2 x3 x4 y0 y1 y2 y3 y4 w
      have q3 := fun x y w => guard_lt .eql x y x0 x1 x2 x3 x4 y0 y1 y2 y3 y4 w
      obtain ⟨q, hq⟩ : ∃ q, eqL ⟨x0, x1, x2, x3, x4⟩ ⟨y0, y1, y2, y3, y4⟩ = q := ⟨_, rfl⟩
      rw [hq] at htx q1
      clear ox oy hs1 hs2 hq
      cases q with
      | true =>
        go_enter Tryd.func5, Tryd.ntmps5
        go_wp2_with fail
        rw [show ((w.alloc (.cells #[.int .i64 x0, .int .i64 x1, .bool x2, .int .i64 x3, .int .i64 x4] 24)).alloc (.cells #[.int .i64 y0, .int .i64 y1, .bool y2, .int .i64 y3, .int .i64 y4] 24)) = w0 from HW.out]
        go_wp2_with fail
        obtain ⟨d0, d1, d2, d3, d4⟩ := cells5 HBX.out
        obtain ⟨e0, e1, e2, e3, e4⟩ := cells5 HBY.out
        have c0 := fun d os => cell_regrown d0 d os
        have k0 := fun d os => cell_regrown e0 d os
        have c1 := fun d os => cell_regrown d1 d os
        have k1 := fun d os => cell_regrown e1 d os
        have c2 := fun d os => cell_regrown d2 d os
        have k2 := fun d os => cell_regrown e2 d os
        have c3 := fun d os => cell_regrown d3 d os
        have k3 := fun d os => cell_regrown e3 d os
        have c4 := fun d os => cell_regrown d4 d os
        have k4 := fun d os => cell_regrown e4 d os
        clear d0 e0 d1 e1 d2 e2 d3 e3 d4 e4
        refine wp_region_qw (by kernel_rfl) (by kernel_rfl) ?_
        iterate 17 (refine qw_take (by kernel_rfl) (fun K hK => ?_); go_simp; first | (refine hK _ ?_; clear hK K) | (apply Exists.intro; refine ⟨fun _ => ?_, hK _ ?_⟩; (first | with_reducible exact O1.out _ _ | with_reducible exact O2.out _ _ | with_reducible exact O3.out _ _ | with_reducible exact O4.out _ _); clear hK K))
        refine qw_nil ?_
        intro _ hw'
        obtain ⟨⟨dq, osq⟩, hw''⟩ := hw'
        subst hw''
        have B1 := Lib.hid (below_keep B0.out (below_regrown w0 dq osq) B0.out.size)
        have X1 := Lib.hid (At5.keep HBX.out (below_regrown w0 dq osq))
        clear c0 k0 c1 k1 c2 k2 c3 k3 c4 k4
        generalize Sort.grow (redrawn w0 dq) osq = w1 at *
        clear q1 q3 htx
        rcases HPC.out with ⟨er, hs, her⟩ | ⟨hs, h1, hfm, hfd, hdr, hln⟩
        · have C1 := Lib.hid (put_any a len cap l hcap x0 x1 x2 x3 x4 _ hs w1 (Rw.At.keep HX.out B1.out))
          have e1 : (er != 0) = true := by simpa using her
          clear hs her
          obtain ⟨d0, d1, d2, d3, d4⟩ := cells5 X1.out
          go_wp2_with fail
          refine C1.out.mono ?_
          rintro e w2 ⟨a2, n2, c2, rfl, hc2, hA2, hb⟩
          obtain rfl : 0 = n2 := hA2.1
          have B2 := Lib.hid (below_keep B1.out hb B1.out.size)
          have CA := Lib.hid (awake_any w2 (HT.out.keep B2.out))
          clear hb hA2 hc2 C1 d0 d1 d2 d3 d4
          go_wp2_with fail
          refine CA.out.mono ?_
          rintro e w3 ⟨rfl, hb⟩
          have B3 := Lib.hid (below_keep B2.out hb B2.out.size)
          clear hb
          go_wp2_with fail
          go_ret
          exact ⟨rfl, B3.out⟩
        · have C1 := Lib.hid (put_any a len cap l hcap x0 x1 x2 x3 x4 _ hs w1 (Rw.At.keep HX.out B1.out))
          obtain ⟨m, hm⟩ : ∃ m, insL ⟨x0, x1, x2, x3, x4⟩ l = m := ⟨_, rfl⟩
          rw [hm] at C1 hfm hfd hdr hln
          have HFM := Lib.hid hfm; have HFD := Lib.hid hfd; have HDR := Lib.hid hdr; have H1 := Lib.hid h1
          clear hs hfm hfd hdr hm h1
          obtain ⟨d0, d1, d2, d3, d4⟩ := cells5 X1.out
          go_wp2_with fail
          refine C1.out.mono ?_
          rintro e w2 ⟨a2, n2, c2, rfl, hc2, hA2, hb⟩
          have B2 := Lib.hid (below_keep B1.out hb B1.out.size)
          have X2 := Lib.hid (X1.out.keep hb)
          have HA2 := Lib.hid hA2
          have F1 := Lib.hid (find_is a2 n2 c2 m x0 x0 x1 x2 x3 x4 true (by rw [HFD.out]; rfl) (by rw [HFD.out]; rfl) w2 hA2)
          clear hb hA2 C1 d0 d1 d2 d3 d4
          obtain ⟨d0, d1, d2, d3, d4⟩ := cells5 X2.out
          go_wp2_with fail
          refine F1.out.mono ?_
          rintro e w3 ⟨rfl, hb⟩
          have hb' := hb.alloc hb.size (.cells #[.int .i64 x0, .int .i64 x1, .bool x2, .int .i64 x3, .int .i64 x4] 24)
          have hz := at5_new 24 w3 (.int .i64 x0) (.int .i64 x1) (.bool x2) (.int .i64 x3) (.int .i64 x4)
          have dd := (cells5 (X2.out.keep hb')).1
          obtain ⟨u3, hu⟩ : ∃ u3, w3.alloc (.cells #[.int .i64 x0, .int .i64 x1, .bool x2, .int .i64 x3, .int .i64 x4] 24) = u3 := ⟨_, rfl⟩
          rw [hu] at hb' hz
          obtain ⟨b3, hbx⟩ : ∃ b3, w3.heap.size = b3 := ⟨_, rfl⟩
          rw [hbx] at hz
          have HU := Lib.hid hu
          have HBX3 := Lib.hid hbx
          have B3 := Lib.hid (below_keep B2.out hb' B2.out.size)
          have X3 := Lib.hid (X2.out.keep hb')
          have Z3 := Lib.hid hz
          have HA3 := Lib.hid (Rw.At.keep HA2.out hb')
          have C2 := Lib.hid (drop_any a2 n2 c2 m hc2 x0 _ HDR.out u3 HA3.out)
          clear hb hb' hz hu hbx F1 d0 d1 d2 d3 d4
          go_wp2_with fail
          rw [show w3.alloc (.cells #[.int .i64 x0, .int .i64 x1, .bool x2, .int .i64 x3, .int .i64 x4] 24) = u3 from HU.out]
          rw [show w3.heap.size = b3 from HBX3.out]
          clear dd
          refine C2.out.mono ?_
          rintro e w4 ⟨a4, n4, c4, rfl, hc4, hA4, hb⟩
          have B4 := Lib.hid (below_keep B3.out hb B3.out.size)
          have X4 := Lib.hid (X3.out.keep hb)
          have Z4 := Lib.hid (Z3.out.keep hb)
          have HA4 := Lib.hid (Rw.At.keep HA3.out hb)
          have HK4 := Lib.hid hA4
          have CF := Lib.hid (fit_any a2 n2 c2 m true HFM.out w4 HA4.out)
          clear hb hA4 hc4 C2
          obtain ⟨d0, d1, d2, d3, d4⟩ := cells5 X4.out
          obtain ⟨e0, e1, e2, e3, e4⟩ := cells5 Z4.out
          have q1 := fun w => eql_lt x0 x1 x2 x3 x4 x0 x1 x2 x3 x4 w
          rw [eqL_self] at q1
          have q3 := fun x y w => guard_lt .eql x y x0 x1 x2 x3 x4 x0 x1 x2 x3 x4 w
          go_wp2_with fail
          refine CF.out.mono ?_
          rintro e w5 ⟨rfl, hb⟩
          have B5 := Lib.hid (below_keep B4.out hb B4.out.size)
          have X5 := Lib.hid (X4.out.keep hb)
          have CS := Lib.hid (rsame_any a4 a n4 c4 len cap l l true (eqLs_iff.2 rfl) w5 (HK4.out.keep hb) (Rw.At.keep HX.out B5.out))
          clear hb CF q1 q3 d0 d1 d2 d3 d4 e0 e1 e2 e3 e4
          go_wp2_with fail
          refine CS.out.mono ?_
          rintro e w6 ⟨rfl, hb⟩
          have B6 := Lib.hid (below_keep B5.out hb B5.out.size)
          have X6 := Lib.hid (X5.out.keep hb)
          have CT := text_any x0 x1 x2 x3 x4 w6 (HT.out.keep B6.out)
          obtain ⟨s, hs⟩ : ∃ s, bs (textL ⟨x0, x1, x2, x3, x4⟩) = s := ⟨_, rfl⟩
          have hne : (s.toList == (bs []).toList) = false := by rw [← hs, bs_eq]; exact decide_eq_false (text_some H1.out)
          rw [hs] at CT
          have CT := Lib.hid CT
          clear hb CS hs
          obtain ⟨d0, d1, d2, d3, d4⟩ := cells5 X6.out
          go_wp2_with fail
          refine CT.out.mono ?_
          rintro e w7 ⟨rfl, hb⟩
          have B7 := Lib.hid (below_keep B6.out hb B6.out.size)
          have CA := Lib.hid (awake_any w7 (HT.out.keep B7.out))
          clear hb CT d0 d1 d2 d3 d4
          have hne2 : ¬ (s.toList = []) := fun e => by rw [e, show (bs []).toList = [] by rw [ByteArray.toList_eq]; rfl] at hne; simp at hne
          have HNE : Hid (true = !s.toList.isEmpty) := by show _ = _; cases q : s.toList with | nil => exact absurd q hne2 | cons c r => rfl
          clear hne
          go_wp2_with fail
          refine CA.out.mono ?_
          rintro e w8 ⟨rfl, hb⟩
          have B8 := Lib.hid (below_keep B7.out hb B7.out.size)
          clear hb
          go_wp2_with fail
          go_ret
          exact ⟨ret_bool HNE.out, B8.out⟩
      | false =>
        go_enter Tryd.func5, Tryd.ntmps5
        go_wp2_with fail
        rw [show ((w.alloc (.cells #[.int .i64 x0, .int .i64 x1, .bool x2, .int .i64 x3, .int .i64 x4] 24)).alloc (.cells #[.int .i64 y0, .int .i64 y1, .bool y2, .int .i64 y3, .int .i64 y4] 24)) = w0 from HW.out]
        go_wp2_with fail
        obtain ⟨d0, d1, d2, d3, d4⟩ := cells5 HBX.out
        obtain ⟨e0, e1, e2, e3, e4⟩ := cells5 HBY.out
        have c0 := fun d os => cell_regrown d0 d os
        have k0 := fun d os => cell_regrown e0 d os
        have c1 := fun d os => cell_regrown d1 d os
        have k1 := fun d os => cell_regrown e1 d os
        have c2 := fun d os => cell_regrown d2 d os
        have k2 := fun d os => cell_regrown e2 d os
        have c3 := fun d os => cell_regrown d3 d os
        have k3 := fun d os => cell_regrown e3 d os
        have c4 := fun d os => cell_regrown d4 d os
        have k4 := fun d os => cell_regrown e4 d os
        clear d0 e0 d1 e1 d2 e2 d3 e3 d4 e4
        refine wp_region_qw (by kernel_rfl) (by kernel_rfl) ?_
        iterate 17 (refine qw_take (by kernel_rfl) (fun K hK => ?_); go_simp; first | (refine hK _ ?_; clear hK K) | (apply Exists.intro; refine ⟨fun _ => ?_, hK _ ?_⟩; (first | with_reducible exact O1.out _ _ | with_reducible exact O2.out _ _ | with_reducible exact O3.out _ _ | with_reducible exact O4.out _ _); clear hK K))
        refine qw_nil ?_
        intro _ hw'
        obtain ⟨⟨dq, osq⟩, hw''⟩ := hw'
        subst hw''
        have B1 := Lib.hid (below_keep B0.out (below_regrown w0 dq osq) B0.out.size)
        have X1 := Lib.hid (At5.keep HBX.out (below_regrown w0 dq osq))
        clear c0 k0 c1 k1 c2 k2 c3 k3 c4 k4
        generalize Sort.grow (redrawn w0 dq) osq = w1 at *
        clear q1 q3 htx
        rcases HPC.out with ⟨er, hs, her⟩ | ⟨hs, h1, hfm, hfd, hdr, hln⟩
        · have C1 := Lib.hid (put_any a len cap l hcap x0 x1 x2 x3 x4 _ hs w1 (Rw.At.keep HX.out B1.out))
          have e1 : (er != 0) = true := by simpa using her
          clear hs her
          obtain ⟨d0, d1, d2, d3, d4⟩ := cells5 X1.out
          go_wp2_with fail
          refine C1.out.mono ?_
          rintro e w2 ⟨a2, n2, c2, rfl, hc2, hA2, hb⟩
          obtain rfl : 0 = n2 := hA2.1
          have B2 := Lib.hid (below_keep B1.out hb B1.out.size)
          have CA := Lib.hid (awake_any w2 (HT.out.keep B2.out))
          clear hb hA2 hc2 C1 d0 d1 d2 d3 d4
          go_wp2_with fail
          refine CA.out.mono ?_
          rintro e w3 ⟨rfl, hb⟩
          have B3 := Lib.hid (below_keep B2.out hb B2.out.size)
          clear hb
          go_wp2_with fail
          go_ret
          exact ⟨rfl, B3.out⟩
        · have C1 := Lib.hid (put_any a len cap l hcap x0 x1 x2 x3 x4 _ hs w1 (Rw.At.keep HX.out B1.out))
          obtain ⟨m, hm⟩ : ∃ m, insL ⟨x0, x1, x2, x3, x4⟩ l = m := ⟨_, rfl⟩
          rw [hm] at C1 hfm hfd hdr hln
          have HFM := Lib.hid hfm; have HFD := Lib.hid hfd; have HDR := Lib.hid hdr; have H1 := Lib.hid h1
          clear hs hfm hfd hdr hm h1
          obtain ⟨d0, d1, d2, d3, d4⟩ := cells5 X1.out
          go_wp2_with fail
          refine C1.out.mono ?_
          rintro e w2 ⟨a2, n2, c2, rfl, hc2, hA2, hb⟩
          have B2 := Lib.hid (below_keep B1.out hb B1.out.size)
          have X2 := Lib.hid (X1.out.keep hb)
          have HA2 := Lib.hid hA2
          have F1 := Lib.hid (find_is a2 n2 c2 m x0 x0 x1 x2 x3 x4 true (by rw [HFD.out]; rfl) (by rw [HFD.out]; rfl) w2 hA2)
          clear hb hA2 C1 d0 d1 d2 d3 d4
          obtain ⟨d0, d1, d2, d3, d4⟩ := cells5 X2.out
          go_wp2_with fail
          refine F1.out.mono ?_
          rintro e w3 ⟨rfl, hb⟩
          have hb' := hb.alloc hb.size (.cells #[.int .i64 x0, .int .i64 x1, .bool x2, .int .i64 x3, .int .i64 x4] 24)
          have hz := at5_new 24 w3 (.int .i64 x0) (.int .i64 x1) (.bool x2) (.int .i64 x3) (.int .i64 x4)
          have dd := (cells5 (X2.out.keep hb')).1
          obtain ⟨u3, hu⟩ : ∃ u3, w3.alloc (.cells #[.int .i64 x0, .int .i64 x1, .bool x2, .int .i64 x3, .int .i64 x4] 24) = u3 := ⟨_, rfl⟩
          rw [hu] at hb' hz
          obtain ⟨b3, hbx⟩ : ∃ b3, w3.heap.size = b3 := ⟨_, rfl⟩
          rw [hbx] at hz
          have HU := Lib.hid hu
          have HBX3 := Lib.hid hbx
          have B3 := Lib.hid (below_keep B2.out hb' B2.out.size)
          have X3 := Lib.hid (X2.out.keep hb')
          have Z3 := Lib.hid hz
          have HA3 := Lib.hid (Rw.At.keep HA2.out hb')
          have C2 := Lib.hid (drop_any a2 n2 c2 m hc2 x0 _ HDR.out u3 HA3.out)
          clear hb hb' hz hu hbx F1 d0 d1 d2 d3 d4
          go_wp2_with fail
          rw [show w3.alloc (.cells #[.int .i64 x0, .int .i64 x1, .bool x2, .int .i64 x3, .int .i64 x4] 24) = u3 from HU.out]
          rw [show w3.heap.size = b3 from HBX3.out]
          clear dd
          refine C2.out.mono ?_
          rintro e w4 ⟨a4, n4, c4, rfl, hc4, hA4, hb⟩
          have B4 := Lib.hid (below_keep B3.out hb B3.out.size)
          have X4 := Lib.hid (X3.out.keep hb)
          have Z4 := Lib.hid (Z3.out.keep hb)
          have HA4 := Lib.hid (Rw.At.keep HA3.out hb)
          have HK4 := Lib.hid hA4
          have CF := Lib.hid (fit_any a2 n2 c2 m true HFM.out w4 HA4.out)
          clear hb hA4 hc4 C2
          obtain ⟨d0, d1, d2, d3, d4⟩ := cells5 X4.out
          obtain ⟨e0, e1, e2, e3, e4⟩ := cells5 Z4.out
          have q1 := fun w => eql_lt x0 x1 x2 x3 x4 x0 x1 x2 x3 x4 w
          rw [eqL_self] at q1
          have q3 := fun x y w => guard_lt .eql x y x0 x1 x2 x3 x4 x0 x1 x2 x3 x4 w
          go_wp2_with fail
          refine CF.out.mono ?_
          rintro e w5 ⟨rfl, hb⟩
          have B5 := Lib.hid (below_keep B4.out hb B4.out.size)
          have X5 := Lib.hid (X4.out.keep hb)
          have CS := Lib.hid (rsame_any a4 a n4 c4 len cap l l true (eqLs_iff.2 rfl) w5 (HK4.out.keep hb) (Rw.At.keep HX.out B5.out))
          clear hb CF q1 q3 d0 d1 d2 d3 d4 e0 e1 e2 e3 e4
          go_wp2_with fail
          refine CS.out.mono ?_
          rintro e w6 ⟨rfl, hb⟩
          have B6 := Lib.hid (below_keep B5.out hb B5.out.size)
          have X6 := Lib.hid (X5.out.keep hb)
          have CT := text_any x0 x1 x2 x3 x4 w6 (HT.out.keep B6.out)
          obtain ⟨s, hs⟩ : ∃ s, bs (textL ⟨x0, x1, x2, x3, x4⟩) = s := ⟨_, rfl⟩
          have hne : (s.toList == (bs []).toList) = false := by rw [← hs, bs_eq]; exact decide_eq_false (text_some H1.out)
          rw [hs] at CT
          have CT := Lib.hid CT
          clear hb CS hs
          obtain ⟨d0, d1, d2, d3, d4⟩ := cells5 X6.out
          go_wp2_with fail
          refine CT.out.mono ?_
          rintro e w7 ⟨rfl, hb⟩
          have B7 := Lib.hid (below_keep B6.out hb B6.out.size)
          have CA := Lib.hid (awake_any w7 (HT.out.keep B7.out))
          clear hb CT d0 d1 d2 d3 d4
          have hne2 : ¬ (s.toList = []) := fun e => by rw [e, show (bs []).toList = [] by rw [ByteArray.toList_eq]; rfl] at hne; simp at hne
          have HNE : Hid (true = !s.toList.isEmpty) := by show _ = _; cases q : s.toList with | nil => exact absurd q hne2 | cons c r => rfl
          clear hne
          go_wp2_with fail
          refine CA.out.mono ?_
          rintro e w8 ⟨rfl, hb⟩
          have B8 := Lib.hid (below_keep B7.out hb B7.out.size)
          clear hb
          go_wp2_with fail
          go_ret
          exact ⟨ret_bool HNE.out, B8.out⟩
end Go.Proofs.YtekndioohjlmcaaDoor.Letter
namespace Go.Proofs.YtekndioohjlmcaaDoor
open Go.RowKit
theorem Contract.letterBack (a : Option Addr) (len cap : Nat) (x0 x1 : Int) (x2 : Bool) (x3 x4 : Int) (y0 y1 : Int) (y2 : Bool) (y3 y4 : Int) (W : World) (h : IsLetter W a len cap) (ht : Laid W) :
    Calls Tryd.prog 5 #[.slice a len cap, .agg #[.int .i64 x0, .int .i64 x1, .bool x2, .int .i64 x3, .int .i64 x4], .agg #[.int .i64 y0, .int .i64 y1, .bool y2, .int .i64 y3, .int .i64 y4]] W fun e W' => e = .returned (.bool true) ∧ Below W.heap.size W W' := by
  obtain ⟨l, hl, hc⟩ := h
  exact Go.Proofs.YtekndioohjlmcaaDoor.Letter.back_any a len cap l hc x0 x1 x2 x3 x4 y0 y1 y2 y3 y4 W hl ht
end Go.Proofs.YtekndioohjlmcaaDoor
