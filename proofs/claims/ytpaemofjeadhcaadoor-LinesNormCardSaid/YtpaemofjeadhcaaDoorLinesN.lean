/-
  LinesNorm: the walk of the law: it returns true, and what was there stays as it was.
-/
import Derived.Test.YtpaemofjeadhcaaDoorLinesM
import Derived.Test.YtpaemofjeadhcaaDoorLinesL
set_option linter.unusedVariables false
set_option maxRecDepth 4000
set_option maxRecDepth 4000
namespace Go.Proofs.YtpaemofjeadhcaaDoor.Lines
open Go.RowKit LinesP NameP

set_option maxHeartbeats 1000000 in
theorem linesNorm_walk (a : Option Addr) (len cap : Nat) (l : List Ln) (w : World) (h : LsAt w a len l) (hs : SzM l) (hv : Vars w) :
    Calls Tryd.prog 3 #[.slice a len cap] w fun e w' => e = .returned (.bool true) ∧ Below w.heap.size w w' := by
  have HV := Lib.hid (fun w' (hb : Below w.heap.size w w') => hv.keep hb)
  have C0 := Lib.hid (rfew_any a len cap l w h hs)
  have HX := Lib.hid h
  clear hv h
  cases hf : fewV l with
  | false =>
    rw [hf] at C0
    clear hs hf
    go_enter Tryd.func3, Tryd.ntmps3
    go_wp2_with fail
    refine C0.out.mono ?_
    rintro e w1 ⟨rfl, hb1⟩
    have HB1 := Lib.hid hb1
    have CA := Lib.hid (awake_any w1 (HV.out w1 hb1))
    clear hb1
    go_wp2_with fail
    refine CA.out.mono ?_
    rintro e w2 ⟨rfl, hb2⟩
    have HB2 := Lib.hid (below_keep HB1.out hb2 HB1.out.size)
    clear hb2
    go_wp2_with fail
    go_ret
    exact ⟨rfl, HB2.out⟩
  | true =>
    rw [hf] at C0
    obtain ⟨h8, hz⟩ := few_sz hf hs
    have HZ := Lib.hid hz
    have hl8 : len ≤ 8 := by rw [← HX.out.1]; exact h8
    clear hs hf hz h8
    go_enter Tryd.func3, Tryd.ntmps3
    go_wp2_with fail
    refine C0.out.mono ?_
    rintro e w1 ⟨rfl, hb1⟩
    have HB1 := Lib.hid hb1
    have HX1 := Lib.hid (HX.out.keep hb1)
    have C1 := Lib.hid (norm_any a len cap l w1 HX1.out HZ.out hl8)
    clear hb1
    go_wp2_with fail
    refine C1.out.mono ?_
    rintro e w2 ⟨hb2, a2, cap2, rfl, hA2, _⟩
    have HB2 := Lib.hid (below_keep HB1.out hb2 HB1.out.size)
    have HX2 := Lib.hid (HX1.out.keep hb2)
    have HA2 := Lib.hid hA2
    have C2 := Lib.hid (rnorm_any a len cap l w2 HX2.out HZ.out hl8)
    clear hb2 hA2
    obtain ⟨m, hm⟩ : ∃ m, (normV l).1 = m := ⟨_, rfl⟩
    obtain ⟨er, her⟩ : ∃ er, (normV l).2 = er := ⟨_, rfl⟩
    rw [hm, her] at C2
    rw [hm] at HA2 ⊢
    rw [her]
    obtain ⟨L, hL⟩ : ∃ L, m.length = L := ⟨_, rfl⟩
    rw [hL] at HA2 ⊢
    have HLE := Lib.hid hL
    clear hm her hL
    go_wp2_with fail
    refine C2.out.mono ?_
    rintro e w3 ⟨hb3, a3, cap3, rfl, hA3, _⟩
    have HB3 := Lib.hid (below_keep HB2.out hb3 HB2.out.size)
    have HA3 := Lib.hid (HA2.out.keep hb3)
    have C3 := rsame_any a2 a3 L cap2 m.length cap3 m m w3 HA3.out hA3
    rw [eqUp_iff.2 rfl] at C3
    have C3 := Lib.hid C3
    clear hb3 hA3
    obtain ⟨L2, hL2⟩ : ∃ L2, m.length = L2 := ⟨_, rfl⟩
    rw [hL2] at C3 ⊢
    clear hL2
    go_wp2_with fail
    refine C3.out.mono ?_
    rintro e w4 ⟨rfl, hb4⟩
    have HB4 := Lib.hid (below_keep HB3.out hb4 HB3.out.size)
    have CA := Lib.hid (awake_any w4 (HV.out w4 HB4.out))
    have hee : (er == er) = true := by simp
    clear hb4
    go_wp2_with fail
    refine CA.out.mono ?_
    rintro e w5 ⟨rfl, hb5⟩
    have HB5 := Lib.hid (below_keep HB4.out hb5 HB4.out.size)
    clear hb5
    go_wp2_with fail
    go_ret
    exact ⟨rfl, HB5.out⟩
end Go.Proofs.YtpaemofjeadhcaaDoor.Lines
