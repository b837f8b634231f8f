/-
  LinesTell: the walk of the law: it returns true, and what was there stays as it was.
-/
import Derived.Test.YtpaemofjeadhcaaGreatDoorLinesM
import Derived.Test.YtpaemofjeadhcaaGreatDoorLinesF
set_option linter.unusedVariables false
set_option maxRecDepth 4000
namespace Go.Proofs.YtpaemofjeadhcaaGreatDoor.Lines
open Go.RowKit LinesP NameP

set_option maxHeartbeats 4000000 in
theorem linesTell_walk (a c : Option Addr) (len cap lenc capc : Nat) (l m : List Ln) (sku : ByteArray) (w : World) (h : LsAt w a len l) (hm : LsAt w c lenc m) (hs : SzM l) (hsm : SzM m) (hk : sku.size ≤ 9223372036854775807) (hv : Vars w) :
    Calls Tryz.prog 3 #[.slice a len cap, .slice c lenc capc, .string sku] w fun e w' => e = .returned (.bool true) ∧ Below w.heap.size w w' := by
  have HV := Lib.hid (fun w' (hb : Below w.heap.size w w') => hv.keep hb)
  have C0 := Lib.hid (rfew_any a len cap l w h hs)
  have HX := Lib.hid h
  have HM := Lib.hid hm
  have HSM := Lib.hid hsm
  have HLM := Lib.hid hm.1
  clear hv h hm hsm
  cases hf : fewV l with
  | false =>
    rw [hf] at C0
    clear hs hf
    go_enter Tryz.func3, Tryz.ntmps3
    go_wp2_with fail
    refine C0.out.mono ?_
    rintro e w1 ⟨rfl, hb1⟩
    have HB1 := Lib.hid hb1
    clear hb1
    have CA := Lib.hid (awake_any w1 (HV.out w1 HB1.out))
    go_wp2_with fail
    refine CA.out.mono ?_
    rintro e wz ⟨rfl, hbz⟩
    have HBZ := Lib.hid (below_keep HB1.out hbz HB1.out.size)
    clear hbz
    go_wp2_with fail
    go_ret
    exact ⟨rfl, HBZ.out⟩
  | true =>
    rw [hf] at C0
    obtain ⟨h8, hz⟩ := few_sz hf hs
    have HZ := Lib.hid hz
    have hl8 : len ≤ 8 := by rw [← HX.out.1]; exact h8
    clear hs hf hz h8
    cases hg : fewV m with
    | false =>
      go_enter Tryz.func3, Tryz.ntmps3
      go_wp2_with fail
      refine C0.out.mono ?_
      rintro e w1 ⟨rfl, hb1⟩
      have HB1 := Lib.hid hb1
      have C1 := rfew_any c lenc capc m w1 (HM.out.keep hb1) HSM.out
      rw [hg] at C1
      have C1 := Lib.hid C1
      clear hb1
      go_wp2_with fail
      refine C1.out.mono ?_
      rintro e w2 ⟨rfl, hb2⟩
      have HB2 := Lib.hid (below_keep HB1.out hb2 HB1.out.size)
      clear hb2
      have CA := Lib.hid (awake_any w2 (HV.out w2 HB2.out))
      go_wp2_with fail
      refine CA.out.mono ?_
      rintro e wz ⟨rfl, hbz⟩
      have HBZ := Lib.hid (below_keep HB2.out hbz HB2.out.size)
      clear hbz
      go_wp2_with fail
      go_ret
      exact ⟨rfl, HBZ.out⟩
    | true =>
      by_cases h60 : 60 < sku.size
      · have hi : (60 : Int) < (sku.size : Int) := by omega
        go_enter Tryz.func3, Tryz.ntmps3
        go_wp2_with fail
        refine C0.out.mono ?_
        rintro e w1 ⟨rfl, hb1⟩
        have HB1 := Lib.hid hb1
        have C1 := rfew_any c lenc capc m w1 (HM.out.keep hb1) HSM.out
        rw [hg] at C1
        have C1 := Lib.hid C1
        clear hb1
        go_wp2_with fail
        refine C1.out.mono ?_
        rintro e w2 ⟨rfl, hb2⟩
        have HB2 := Lib.hid (below_keep HB1.out hb2 HB1.out.size)
        clear hb2
        have CA := Lib.hid (awake_any w2 (HV.out w2 HB2.out))
        go_wp2_with fail
        refine CA.out.mono ?_
        rintro e wz ⟨rfl, hbz⟩
        have HBZ := Lib.hid (below_keep HB2.out hbz HB2.out.size)
        clear hbz
        go_wp2_with fail
        go_ret
        exact ⟨rfl, HBZ.out⟩
      · have hi : ¬ (60 : Int) < (sku.size : Int) := by omega
        obtain ⟨b1, hb1⟩ : ∃ v, fitL l = v := ⟨_, rfl⟩
        obtain ⟨i2, hi2⟩ : ∃ v, ofL sku l = v := ⟨_, rfl⟩
        obtain ⟨i3, hi3⟩ : ∃ v, sumV l = v := ⟨_, rfl⟩
        obtain ⟨s4, hs4⟩ : ∃ v, bs (textV l) = v := ⟨_, rfl⟩
        obtain ⟨s5, hs5⟩ : ∃ v, bs (putV l) = v := ⟨_, rfl⟩
        obtain ⟨b6, hb6⟩ : ∃ v, eqUp l m = v := ⟨_, rfl⟩
        have E1 := Lib.hid hb1
        have E2 := Lib.hid hi2
        have E3 := Lib.hid hi3
        have E4 := Lib.hid hs4
        have E5 := Lib.hid hs5
        have E6 := Lib.hid hb6
        have q1 : (b1 == b1) = true := by simp
        have q2 : (i2 == i2) = true := by simp
        have q3 : (i3 == i3) = true := by simp
        have q4 : (s4.toList == s4.toList) = true := by simp
        have q5 : (s5.toList == s5.toList) = true := by simp
        have q6 : (b6 == b6) = true := by simp
        clear hb1 hi2 hi3 hs4 hs5 hb6
        go_enter Tryz.func3, Tryz.ntmps3
        go_wp2_with fail
        refine C0.out.mono ?_
        rintro e w1 ⟨rfl, hb1⟩
        have HB1 := Lib.hid hb1
        have C1 := rfew_any c lenc capc m w1 (HM.out.keep hb1) HSM.out
        rw [hg] at C1
        have C1 := Lib.hid C1
        clear hb1
        go_wp2_with fail
        refine C1.out.mono ?_
        rintro e w2 ⟨rfl, hb2⟩
        have HB2 := Lib.hid (below_keep HB1.out hb2 HB1.out.size)
        clear hb2
        have C3 := fit_any a len cap l w2 (HX.out.keep HB2.out) HZ.out
        rw [E1.out] at C3
        have C3 := Lib.hid C3
        go_wp2_with fail
        refine C3.out.mono ?_
        rintro e w3 ⟨rfl, hb3⟩
        have HB3 := Lib.hid (below_keep HB2.out hb3 HB2.out.size)
        clear hb3 C3
        have C4 := rfit_any a len cap l w3 (HX.out.keep HB3.out) HZ.out
        rw [E1.out] at C4
        have C4 := Lib.hid C4
        go_wp2_with fail
        refine C4.out.mono ?_
        rintro e w4 ⟨rfl, hb4⟩
        have HB4 := Lib.hid (below_keep HB3.out hb4 HB3.out.size)
        clear hb4 C4
        have C5 := of_any a len cap l sku w4 (HX.out.keep HB4.out)
        rw [E2.out] at C5
        have C5 := Lib.hid C5
        go_wp2_with fail
        refine C5.out.mono ?_
        rintro e w5 ⟨rfl, hb5⟩
        have HB5 := Lib.hid (below_keep HB4.out hb5 HB4.out.size)
        clear hb5 C5
        have C6 := rof_any a len cap l sku w5 (HX.out.keep HB5.out)
        rw [E2.out] at C6
        have C6 := Lib.hid C6
        go_wp2_with fail
        refine C6.out.mono ?_
        rintro e w6 ⟨rfl, hb6⟩
        have HB6 := Lib.hid (below_keep HB5.out hb6 HB5.out.size)
        clear hb6 C6
        have C7 := sum_any a len cap l w6 (HX.out.keep HB6.out) HZ.out
        rw [E3.out] at C7
        have C7 := Lib.hid C7
        go_wp2_with fail
        refine C7.out.mono ?_
        rintro e w7 ⟨rfl, hb7⟩
        have HB7 := Lib.hid (below_keep HB6.out hb7 HB6.out.size)
        clear hb7 C7
        have C8 := rsum_any a len cap l w7 (HX.out.keep HB7.out) HZ.out
        rw [E3.out] at C8
        have C8 := Lib.hid C8
        go_wp2_with fail
        refine C8.out.mono ?_
        rintro e w8 ⟨rfl, hb8⟩
        have HB8 := Lib.hid (below_keep HB7.out hb8 HB7.out.size)
        clear hb8 C8
        have C9 := text_any a len cap l w8 (HX.out.keep HB8.out) HZ.out (HV.out w8 HB8.out).1
        rw [E4.out] at C9
        have C9 := Lib.hid C9
        go_wp2_with fail
        refine C9.out.mono ?_
        rintro e w9 ⟨rfl, hb9⟩
        have HB9 := Lib.hid (below_keep HB8.out hb9 HB8.out.size)
        clear hb9 C9
        have C10 := rtext_any a len cap l w9 (HX.out.keep HB9.out) HZ.out
        rw [E4.out] at C10
        have C10 := Lib.hid C10
        go_wp2_with fail
        refine C10.out.mono ?_
        rintro e w10 ⟨rfl, hb10⟩
        have HB10 := Lib.hid (below_keep HB9.out hb10 HB9.out.size)
        clear hb10 C10
        have C11 := put_any a len cap l w10 (HX.out.keep HB10.out) HZ.out hl8
        rw [E5.out] at C11
        have C11 := Lib.hid C11
        go_wp2_with fail
        refine C11.out.mono ?_
        rintro e w11 ⟨rfl, hb11⟩
        have HB11 := Lib.hid (below_keep HB10.out hb11 HB10.out.size)
        clear hb11 C11
        have C12 := rput_any a len cap l w11 (HX.out.keep HB11.out) HZ.out hl8
        rw [E5.out] at C12
        have C12 := Lib.hid C12
        go_wp2_with fail
        refine C12.out.mono ?_
        rintro e w12 ⟨rfl, hb12⟩
        have HB12 := Lib.hid (below_keep HB11.out hb12 HB11.out.size)
        clear hb12 C12
        have C13 := same_any a c len cap lenc capc l m w12 (HX.out.keep HB12.out) (HM.out.keep HB12.out)
        rw [E6.out] at C13
        have C13 := Lib.hid C13
        go_wp2_with fail
        refine C13.out.mono ?_
        rintro e w13 ⟨rfl, hb13⟩
        have HB13 := Lib.hid (below_keep HB12.out hb13 HB12.out.size)
        clear hb13 C13
        have C14 := rsame_any a c len cap lenc capc l m w13 (HX.out.keep HB13.out) (HM.out.keep HB13.out)
        rw [E6.out] at C14
        have C14 := Lib.hid C14
        go_wp2_with fail
        refine C14.out.mono ?_
        rintro e w14 ⟨rfl, hb14⟩
        have HB14 := Lib.hid (below_keep HB13.out hb14 HB13.out.size)
        clear hb14 C14
        have CA := Lib.hid (awake_any w14 (HV.out w14 HB14.out))
        go_wp2_with fail
        refine CA.out.mono ?_
        rintro e wz ⟨rfl, hbz⟩
        have HBZ := Lib.hid (below_keep HB14.out hbz HB14.out.size)
        clear hbz
        go_wp2_with fail
        go_ret
        exact ⟨rfl, HBZ.out⟩
end Go.Proofs.YtpaemofjeadhcaaGreatDoor.Lines
