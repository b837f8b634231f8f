/-
  LinesBack: the walk of the law: it returns true, and what was there stays as it was.
-/
import Derived.Test.YtpaemofjeadhcaaGreatDoorLinesM
import Derived.Test.YtpaemofjeadhcaaGreatDoorLinesTk
set_option linter.unusedVariables false
set_option maxRecDepth 4000
namespace Go.Proofs.YtpaemofjeadhcaaGreatDoor.Lines
open Go.RowKit LinesP NameP
open Wire (RdAt)

theorem read_yes {r : Option (List Ln)} {w w' : World} {e : Ending} {l : List Ln} (h : ReadOut w r e w') (hr : r = some l) : Below w.heap.size w w' ∧ ∃ a cap, e = .returned (.tuple #[.slice a l.length cap, .int .i64 0]) ∧ LsAt w' a l.length l ∧ Sz l := by
  subst hr
  refine ⟨h.1, ?_⟩
  rcases h.2 with ⟨hn, _⟩ | ⟨l', a, cap, hl, he, h1, h2⟩
  · cases hn
  · cases hl
    exact ⟨a, cap, he, h1, h2⟩
theorem read_no {r : Option (List Ln)} {w w' : World} {e : Ending} (h : ReadOut w r e w') (hr : r = none) : Below w.heap.size w w' ∧ e = .returned (.tuple #[.slice none 0 0, .int .i64 7]) := by
  subst hr
  refine ⟨h.1, ?_⟩
  rcases h.2 with ⟨_, he⟩ | ⟨l', a, cap, hl, _⟩
  · exact he
  · cases hl
theorem take_back {l : List Ln} (h : fitL l = true) : takeV (some (putV l)) = l := by
  unfold takeV; rw [take_put h]; rfl
theorem take_end {l : List Ln} (h : fitL l = true) : (takeA (some (putV l))).2 = some [] := by rw [take_put h]
/-- The rest of the law, behind its first test. -/
def Rest (l : List Ln) : Prop := True
set_option maxHeartbeats 4000000 in
theorem linesBack_walk (a : Option Addr) (len cap : Nat) (l : List Ln) (s : ByteArray) (w : World) (h : LsAt w a len l) (hs : SzM l) (hk : s.size ≤ 9223372036854775807) (hv : Vars w) :
    Calls Tryz.prog 5 #[.slice a len cap, .string s] w fun e w' => e = .returned (.bool true) ∧ Below w.heap.size w w' := by
  have HV := Lib.hid (fun w' (hb : Below w.heap.size w w') => hv.keep hb)
  have C0 := Lib.hid (rfew_any a len cap l w h hs)
  have HX := Lib.hid h
  clear hv h
  cases hf : fewV l with
  | false =>
    rw [hf] at C0
    clear hs hf
    go_enter Tryz.func5, Tryz.ntmps5
    go_wp2_with fail
    refine C0.out.mono ?_
    rintro e w1 ⟨rfl, hb1⟩
    have HB1 := Lib.hid hb1
    have CA := Lib.hid (awake_any w1 (HV.out w1 hb1))
    clear hb1
    go_wp2_with fail
    refine CA.out.mono ?_
    rintro e w2 ⟨rfl, hb2⟩
    have HB2 := Lib.hid (below_keep HB1.out hb2 HB1.out.size)
    clear hb2
    go_wp2_with fail
    go_ret
    exact ⟨rfl, HB2.out⟩
  | true =>
    rw [hf] at C0
    obtain ⟨h8, hz⟩ := few_sz hf hs
    have HZ := Lib.hid hz
    have hl8 : len ≤ 8 := by rw [← HX.out.1]; exact h8
    clear hs hf hz h8
    by_cases h200 : 200 < s.size
    · have hi : (200 : Int) < (s.size : Int) := by omega
      go_enter Tryz.func5, Tryz.ntmps5
      go_wp2_with fail
      refine C0.out.mono ?_
      rintro e w1 ⟨rfl, hb1⟩
      have HB1 := Lib.hid hb1
      have CA := Lib.hid (awake_any w1 (HV.out w1 hb1))
      clear hb1
      go_wp2_with fail
      refine CA.out.mono ?_
      rintro e w2 ⟨rfl, hb2⟩
      have HB2 := Lib.hid (below_keep HB1.out hb2 HB1.out.size)
      clear hb2
      go_wp2_with fail
      go_ret
      exact ⟨rfl, HB2.out⟩
    · have hi : ¬ (200 : Int) < (s.size : Int) := by omega
      cases hrd : readV s.data.toList with
      | none =>
        have HRD := Lib.hid hrd
        clear hrd
        go_enter Tryz.func5, Tryz.ntmps5
        go_wp2_with fail
        refine C0.out.mono ?_
        rintro e w1 ⟨rfl, hb1⟩
        have HB1 := Lib.hid hb1
        clear hb1
        have C1 := Lib.hid (read_any s w1 (by omega) (HV.out w1 HB1.out))
        go_wp2_with fail
        refine C1.out.mono ?_
        intro e w2 h2
        obtain ⟨hb2, rfl⟩ := read_no h2 HRD.out
        have HB2 := Lib.hid (below_keep HB1.out hb2 HB1.out.size)
        clear hb2 h2
        cases hfl : fitL l with
        | false =>
          have CF := fit_any a len cap l w2 (HX.out.keep HB2.out) HZ.out
          rw [hfl] at CF
          have CF := Lib.hid CF
          have HNT : Hid (bs (textV l) = ⟨#[]⟩) := by show _ = _; rw [textV_no hfl]; rfl
          clear hfl
          go_wp2_with fail
          refine CF.out.mono ?_
          rintro e w11 ⟨rfl, hb11⟩
          have HB11 := Lib.hid (below_keep HB2.out hb11 HB2.out.size)
          clear hb11
          have CT := text_any a len cap l w11 (HX.out.keep HB11.out) HZ.out (HV.out w11 HB11.out).1
          rw [HNT.out] at CT
          have CT := Lib.hid CT
          go_wp2_with fail
          refine CT.out.mono ?_
          rintro e w12 ⟨rfl, hb12⟩
          have HB12 := Lib.hid (below_keep HB11.out hb12 HB11.out.size)
          clear hb12
          have CA := Lib.hid (awake_any w12 (HV.out w12 HB12.out))
          go_wp2_with fail
          refine CA.out.mono ?_
          rintro e wz ⟨rfl, hbz⟩
          have HBZ := Lib.hid (below_keep HB12.out hbz HB12.out.size)
          clear hbz
          go_wp2_with fail
          go_ret
          exact ⟨rfl, HBZ.out⟩
        | true =>
          have CF := fit_any a len cap l w2 (HX.out.keep HB2.out) HZ.out
          rw [hfl] at CF
          have CF := Lib.hid CF
          have HFL := Lib.hid hfl
          clear hfl
          go_wp2_with fail
          refine CF.out.mono ?_
          rintro e w11 ⟨rfl, hb11⟩
          have HB11 := Lib.hid (below_keep HB2.out hb11 HB2.out.size)
          clear hb11
          obtain ⟨z, hzt⟩ : ∃ z : ByteArray, bs (textV l) = z := ⟨_, rfl⟩
          have CT := text_any a len cap l w11 (HX.out.keep HB11.out) HZ.out (HV.out w11 HB11.out).1
          rw [hzt] at CT
          have CT := Lib.hid CT
          have HZD : Hid (z.data.toList = textV l) := by show _ = _; rw [← hzt]; rfl
          have hzs : z.size ≤ 300 := by rw [← hzt, bs_size]; unfold textV; rw [if_pos HFL.out]; exact text_len HFL.out
          clear hzt
          go_wp2_with fail
          refine CT.out.mono ?_
          rintro e w12 ⟨rfl, hb12⟩
          have HB12 := Lib.hid (below_keep HB11.out hb12 HB11.out.size)
          clear hb12
          have CR := Lib.hid (read_any z w12 hzs (HV.out w12 HB12.out))
          go_wp2_with fail
          refine CR.out.mono ?_
          intro e w13 h13
          obtain ⟨hb13, a13, cap13, rfl, hA13, _⟩ := read_yes (l := l) h13 (by rw [HZD.out]; exact text_read HFL.out)
          have HB13 := Lib.hid (below_keep HB12.out hb13 HB12.out.size)
          have HA13 : Hid (LsAt w13 a13 len l) := by show LsAt _ _ _ _; rw [← HX.out.1]; exact hA13
          rw [show l.length = len from HX.out.1]
          clear hb13 h13 hA13
          obtain ⟨y, hyt⟩ : ∃ y : ByteArray, bs (putV l) = y := ⟨_, rfl⟩
          have CP := put_any a len cap l w13 (HX.out.keep HB13.out) HZ.out hl8
          rw [hyt] at CP
          have CP := Lib.hid CP
          have HYD : Hid (y.data.toList = putV l) := by show _ = _; rw [← hyt]; rfl
          have hys : y.size ≤ 2600 := by rw [← hyt, bs_size, putV_pk]; exact pk_size HZ.out (by rw [HX.out.1]; exact hl8) _
          clear hyt
          go_wp2_with fail
          refine CP.out.mono ?_
          rintro e w14 ⟨rfl, hb14⟩
          have HB14 := Lib.hid (below_keep HB13.out hb14 HB13.out.size)
          have HA14 := Lib.hid (HA13.out.keep hb14)
          clear hb14
          have CN := Wire.new_any y w14 (by omega)
          rw [HYD.out] at CN
          have CN := Lib.hid CN
          go_wp2_with fail
          refine CN.out.mono ?_
          rintro e w15 ⟨rfl, hr15, hb15⟩
          have HB15 := Lib.hid (below_keep HB14.out hb15 HB14.out.size)
          have HA15 := Lib.hid (HA14.out.keep hb15)
          have HR15 := Lib.hid hr15; have HN15 := Lib.hid hb15
          have hBs : w.heap.size ≤ w14.heap.size := HB14.out.size
          clear hb15 hr15
          obtain ⟨q, hq⟩ : ∃ q, w14.heap.size = q := ⟨_, rfl⟩
          rw [hq] at HR15 hBs ⊢
          have HQ := Lib.hid hq
          clear hq
          have CK := Lib.hid (take_any q _ w15 HR15.out)
          go_wp2_with fail
          refine CK.out.mono ?_
          rintro e w16 ⟨hg16, hr16, _, a16, cap16, rfl, hA16⟩
          rw [take_back HFL.out] at hA16 ⊢
          rw [take_end HFL.out] at hr16
          have HB16 := Lib.hid (HB15.out.trans (Wire.below_of_grown hg16 hBs HR15.out.lt))
          have HA16 : Hid (LsAt w16 a13 len l) := by
            show LsAt _ _ _ _
            refine HA14.out.keep ?_
            rw [HQ.out]
            exact (show Below q w14 w15 from by rw [← HQ.out]; exact HN15.out).trans (Wire.below_of_grown hg16 (Nat.le_refl _) HR15.out.lt)
          have HC16 : Hid (LsAt w16 a16 len l) := by show LsAt _ _ _ _; rw [← HX.out.1]; exact hA16
          rw [show l.length = len from HX.out.1]
          have HR16 := Lib.hid hr16
          clear hg16 hr16 hA16
          have C7 := same_any a13 a len cap13 len cap l l w16 HA16.out (HX.out.keep HB16.out)
          rw [eqUp_iff.2 rfl] at C7
          have C7 := Lib.hid C7
          go_wp2_with fail
          refine C7.out.mono ?_
          rintro e w17 ⟨rfl, hb17⟩
          have HB17 := Lib.hid (below_keep HB16.out hb17 HB16.out.size)
          have HC17 := Lib.hid (HC16.out.keep hb17)
          have HR17 := Lib.hid (HR16.out.keep (hb17.block _ HR16.out.lt))
          clear hb17
          have C8 := same_any a16 a len cap16 len cap l l w17 HC17.out (HX.out.keep HB17.out)
          rw [eqUp_iff.2 rfl] at C8
          have C8 := Lib.hid C8
          go_wp2_with fail
          refine C8.out.mono ?_
          rintro e w18 ⟨rfl, hb18⟩
          have HB18 := Lib.hid (below_keep HB17.out hb18 HB17.out.size)
          have HR18 := Lib.hid (HR17.out.keep (hb18.block _ HR17.out.lt))
          clear hb18
          have C9 := Lib.hid (Wire.rddone_is q _ true w18 HR18.out rfl)
          go_wp2_with fail
          refine C9.out.mono ?_
          rintro e w19 ⟨rfl, hb19⟩
          have HB19 := Lib.hid (below_keep HB18.out hb19 HB18.out.size)
          clear hb19
          have CA := Lib.hid (awake_any w19 (HV.out w19 HB19.out))
          go_wp2_with fail
          refine CA.out.mono ?_
          rintro e wz ⟨rfl, hbz⟩
          have HBZ := Lib.hid (below_keep HB19.out hbz HB19.out.size)
          clear hbz
          go_wp2_with fail
          go_ret
          exact ⟨rfl, HBZ.out⟩
      | some m =>
        obtain ⟨hfm, htm⟩ := read_text hrd
        have HRD := Lib.hid hrd
        have HFM := Lib.hid hfm
        have HTM : Hid (bs (textV m) = s) := by show _ = _; rw [htm]; exact bs_of s
        have hss : (s.toList != s.toList) = false := by simp
        clear hrd hfm htm
        go_enter Tryz.func5, Tryz.ntmps5
        go_wp2_with fail
        refine C0.out.mono ?_
        rintro e w1 ⟨rfl, hb1⟩
        have HB1 := Lib.hid hb1
        clear hb1
        have C1 := Lib.hid (read_any s w1 (by omega) (HV.out w1 HB1.out))
        go_wp2_with fail
        refine C1.out.mono ?_
        intro e w2 h2
        obtain ⟨hb2, a2, cap2, rfl, hA2, hS2⟩ := read_yes h2 HRD.out
        have HB2 := Lib.hid (below_keep HB1.out hb2 HB1.out.size)
        have HA2 := Lib.hid hA2
        have HS2 := Lib.hid hS2
        obtain ⟨L2, hL2⟩ : ∃ L2, m.length = L2 := ⟨_, rfl⟩
        rw [hL2] at HA2 ⊢
        clear hb2 h2 hA2 hS2 hL2
        have C2 := fit_any a2 L2 cap2 m w2 HA2.out HS2.out
        rw [HFM.out] at C2
        have C2 := Lib.hid C2
        go_wp2_with fail
        refine C2.out.mono ?_
        rintro e w3 ⟨rfl, hb3⟩
        have HB3 := Lib.hid (below_keep HB2.out hb3 HB2.out.size)
        have HA3 := Lib.hid (HA2.out.keep hb3)
        clear hb3
        have C3 := text_any a2 L2 cap2 m w3 HA3.out HS2.out (HV.out w3 HB3.out).1
        rw [HTM.out] at C3
        have C3 := Lib.hid C3
        go_wp2_with fail
        refine C3.out.mono ?_
        rintro e w4 ⟨rfl, hb4⟩
        have HB4 := Lib.hid (below_keep HB3.out hb4 HB3.out.size)
        clear hb4
        cases hfl : fitL l with
        | false =>
          have CF := fit_any a len cap l w4 (HX.out.keep HB4.out) HZ.out
          rw [hfl] at CF
          have CF := Lib.hid CF
          have HNT : Hid (bs (textV l) = ⟨#[]⟩) := by show _ = _; rw [textV_no hfl]; rfl
          clear hfl
          go_wp2_with fail
          refine CF.out.mono ?_
          rintro e w11 ⟨rfl, hb11⟩
          have HB11 := Lib.hid (below_keep HB4.out hb11 HB4.out.size)
          clear hb11
          have CT := text_any a len cap l w11 (HX.out.keep HB11.out) HZ.out (HV.out w11 HB11.out).1
          rw [HNT.out] at CT
          have CT := Lib.hid CT
          go_wp2_with fail
          refine CT.out.mono ?_
          rintro e w12 ⟨rfl, hb12⟩
          have HB12 := Lib.hid (below_keep HB11.out hb12 HB11.out.size)
          clear hb12
          have CA := Lib.hid (awake_any w12 (HV.out w12 HB12.out))
          go_wp2_with fail
          refine CA.out.mono ?_
          rintro e wz ⟨rfl, hbz⟩
          have HBZ := Lib.hid (below_keep HB12.out hbz HB12.out.size)
          clear hbz
          go_wp2_with fail
          go_ret
          exact ⟨rfl, HBZ.out⟩
        | true =>
          have CF := fit_any a len cap l w4 (HX.out.keep HB4.out) HZ.out
          rw [hfl] at CF
          have CF := Lib.hid CF
          have HFL := Lib.hid hfl
          clear hfl
          go_wp2_with fail
          refine CF.out.mono ?_
          rintro e w11 ⟨rfl, hb11⟩
          have HB11 := Lib.hid (below_keep HB4.out hb11 HB4.out.size)
          clear hb11
          obtain ⟨z, hzt⟩ : ∃ z : ByteArray, bs (textV l) = z := ⟨_, rfl⟩
          have CT := text_any a len cap l w11 (HX.out.keep HB11.out) HZ.out (HV.out w11 HB11.out).1
          rw [hzt] at CT
          have CT := Lib.hid CT
          have HZD : Hid (z.data.toList = textV l) := by show _ = _; rw [← hzt]; rfl
          have hzs : z.size ≤ 300 := by rw [← hzt, bs_size]; unfold textV; rw [if_pos HFL.out]; exact text_len HFL.out
          clear hzt
          go_wp2_with fail
          refine CT.out.mono ?_
          rintro e w12 ⟨rfl, hb12⟩
          have HB12 := Lib.hid (below_keep HB11.out hb12 HB11.out.size)
          clear hb12
          have CR := Lib.hid (read_any z w12 hzs (HV.out w12 HB12.out))
          go_wp2_with fail
          refine CR.out.mono ?_
          intro e w13 h13
          obtain ⟨hb13, a13, cap13, rfl, hA13, _⟩ := read_yes (l := l) h13 (by rw [HZD.out]; exact text_read HFL.out)
          have HB13 := Lib.hid (below_keep HB12.out hb13 HB12.out.size)
          have HA13 : Hid (LsAt w13 a13 len l) := by show LsAt _ _ _ _; rw [← HX.out.1]; exact hA13
          rw [show l.length = len from HX.out.1]
          clear hb13 h13 hA13
          obtain ⟨y, hyt⟩ : ∃ y : ByteArray, bs (putV l) = y := ⟨_, rfl⟩
          have CP := put_any a len cap l w13 (HX.out.keep HB13.out) HZ.out hl8
          rw [hyt] at CP
          have CP := Lib.hid CP
          have HYD : Hid (y.data.toList = putV l) := by show _ = _; rw [← hyt]; rfl
          have hys : y.size ≤ 2600 := by rw [← hyt, bs_size, putV_pk]; exact pk_size HZ.out (by rw [HX.out.1]; exact hl8) _
          clear hyt
          go_wp2_with fail
          refine CP.out.mono ?_
          rintro e w14 ⟨rfl, hb14⟩
          have HB14 := Lib.hid (below_keep HB13.out hb14 HB13.out.size)
          have HA14 := Lib.hid (HA13.out.keep hb14)
          clear hb14
          have CN := Wire.new_any y w14 (by omega)
          rw [HYD.out] at CN
          have CN := Lib.hid CN
          go_wp2_with fail
          refine CN.out.mono ?_
          rintro e w15 ⟨rfl, hr15, hb15⟩
          have HB15 := Lib.hid (below_keep HB14.out hb15 HB14.out.size)
          have HA15 := Lib.hid (HA14.out.keep hb15)
          have HR15 := Lib.hid hr15; have HN15 := Lib.hid hb15
          have hBs : w.heap.size ≤ w14.heap.size := HB14.out.size
          clear hb15 hr15
          obtain ⟨q, hq⟩ : ∃ q, w14.heap.size = q := ⟨_, rfl⟩
          rw [hq] at HR15 hBs ⊢
          have HQ := Lib.hid hq
          clear hq
          have CK := Lib.hid (take_any q _ w15 HR15.out)
          go_wp2_with fail
          refine CK.out.mono ?_
          rintro e w16 ⟨hg16, hr16, _, a16, cap16, rfl, hA16⟩
          rw [take_back HFL.out] at hA16 ⊢
          rw [take_end HFL.out] at hr16
          have HB16 := Lib.hid (HB15.out.trans (Wire.below_of_grown hg16 hBs HR15.out.lt))
          have HA16 : Hid (LsAt w16 a13 len l) := by
            show LsAt _ _ _ _
            refine HA14.out.keep ?_
            rw [HQ.out]
            exact (show Below q w14 w15 from by rw [← HQ.out]; exact HN15.out).trans (Wire.below_of_grown hg16 (Nat.le_refl _) HR15.out.lt)
          have HC16 : Hid (LsAt w16 a16 len l) := by show LsAt _ _ _ _; rw [← HX.out.1]; exact hA16
          rw [show l.length = len from HX.out.1]
          have HR16 := Lib.hid hr16
          clear hg16 hr16 hA16
          have C7 := same_any a13 a len cap13 len cap l l w16 HA16.out (HX.out.keep HB16.out)
          rw [eqUp_iff.2 rfl] at C7
          have C7 := Lib.hid C7
          go_wp2_with fail
          refine C7.out.mono ?_
          rintro e w17 ⟨rfl, hb17⟩
          have HB17 := Lib.hid (below_keep HB16.out hb17 HB16.out.size)
          have HC17 := Lib.hid (HC16.out.keep hb17)
          have HR17 := Lib.hid (HR16.out.keep (hb17.block _ HR16.out.lt))
          clear hb17
          have C8 := same_any a16 a len cap16 len cap l l w17 HC17.out (HX.out.keep HB17.out)
          rw [eqUp_iff.2 rfl] at C8
          have C8 := Lib.hid C8
          go_wp2_with fail
          refine C8.out.mono ?_
          rintro e w18 ⟨rfl, hb18⟩
          have HB18 := Lib.hid (below_keep HB17.out hb18 HB17.out.size)
          have HR18 := Lib.hid (HR17.out.keep (hb18.block _ HR17.out.lt))
          clear hb18
          have C9 := Lib.hid (Wire.rddone_is q _ true w18 HR18.out rfl)
          go_wp2_with fail
          refine C9.out.mono ?_
          rintro e w19 ⟨rfl, hb19⟩
          have HB19 := Lib.hid (below_keep HB18.out hb19 HB18.out.size)
          clear hb19
          have CA := Lib.hid (awake_any w19 (HV.out w19 HB19.out))
          go_wp2_with fail
          refine CA.out.mono ?_
          rintro e wz ⟨rfl, hbz⟩
          have HBZ := Lib.hid (below_keep HB19.out hbz HB19.out.size)
          clear hbz
          go_wp2_with fail
          go_ret
          exact ⟨rfl, HBZ.out⟩
end Go.Proofs.YtpaemofjeadhcaaGreatDoor.Lines
