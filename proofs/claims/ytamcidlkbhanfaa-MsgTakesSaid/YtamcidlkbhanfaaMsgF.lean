/-
  The contracts of the document's wide, TakeEntry and TakeReply: any reader; nothing changes but the reader.
-/
import Derived.Test.YtamcidlkbhanfaaMsgD
set_option linter.unusedVariables false
set_option linter.unusedSimpArgs false
set_option maxRecDepth 4000
namespace Go.Proofs.Ytamcidlkbhanfaa.Msg
open Go.RowKit MsgP
open Go.Proofs.Ytamcidlkbhanfaa.Kt

open Wire (RqAt)
open OutP (en0)
open WireP (rdFlag)
theorem wide_is (q : Nat) (st st' : Rd) (n : Int) (h : wide st = (n, st')) (w : World) (hr : RqAt w q st) : Calls Try.prog 43 #[.pointer (some ⟨q, 0, none⟩)] w fun e w' => e = .returned (.int .i64 n) ∧ RqAt w' q st' ∧ w.grownBy w' (some q) := by
  have K := Wire.rqint_any q st (-9223372036854775808) 9223372036854775807 w hr
  rw [show WireP.rdInt (-9223372036854775808) 9223372036854775807 st = (n, st') from h] at K
  have K := Lib.hid K
  clear hr h
  go_enter Try.func43, Try.ntmps43
  go_wp2_with fail
  refine K.out.mono ?_
  rintro e w1 ⟨rfl, h1, h2⟩
  have H1 := Lib.hid h1
  have H2 := Lib.hid h2
  clear h1 h2
  go_wp2_with fail
  go_ret
  exact ⟨rfl, H1.out, H2.out⟩
theorem flag_rq (q : Nat) (st st' : Rd) (v : Bool) (h : rdFlag st = (v, st')) (w : World) (hr : RqAt w q st) : Calls Try.prog 44 #[.pointer (some ⟨q, 0, none⟩)] w fun e w' => e = .returned (.bool v) ∧ RqAt w' q st' ∧ w.grownBy w' (some q) := by
  have K := Wire.rqflag_any q st w hr
  rw [h] at K
  exact K
theorem RqAt.below {w w' : World} {q : Nat} {st : Rd} (h : RqAt w q st) (k : Below w.heap.size w w') : RqAt w' q st := h.keep (k.block q h.lt)
theorem grown_store {w0 w : World} {q b : Nat} (h : w0.grownBy w (some q)) (hb : w0.heap.size ≤ b) (i : Nat) (v : Value) : w0.grownBy (w.setCell ⟨b, i, none⟩ v) (some q) := grown_gr2 h (Gr2.store w q b i v) hb
theorem grown_trans {u v w : World} {q : Nat} (h : u.grownBy v (some q)) (k : v.grownBy w (some q)) : u.grownBy w (some q) :=
  ⟨k.os.trans h.os, k.tape.trans h.tape, k.output.trans h.output, Nat.le_trans h.size k.size, fun i hi h1 => (k.block i (Nat.lt_of_lt_of_le hi h.size) h1).trans (h.block i hi h1)⟩

set_option maxHeartbeats 4000000 in
theorem rtakee_is (q : Nat) (st st' : Rd) (x0 : Int) (x1 : Int) (x2 : Int) (x3 : Bool) (x4 : Int) (x5 : Int) (x6 : Bool) (hx : takeE st = ⟨x0, x1, x2, x3, x4, x5, x6⟩) (hs : (rdE st).2 = st') (w : World) (hr : RqAt w q st) :
    Calls Try.prog 21 #[.pointer (some ⟨q, 0, none⟩)] w fun e w' => e = .returned (.agg #[.int .i64 x0, .int .i64 x1, .int .i64 x2, .bool x3, .int .i64 x4, .int .i64 x5, .bool x6]) ∧ RqAt w' q st' ∧ w.grownBy w' (some q) := by
  have hq := hr.lt
  obtain ⟨y0, st1, h0⟩ : ∃ y s, wide st = (y, s) := ⟨_, _, rfl⟩
  obtain ⟨y1, st2, h1⟩ : ∃ y s, wide st1 = (y, s) := ⟨_, _, rfl⟩
  obtain ⟨y2, st3, h2⟩ : ∃ y s, wide st2 = (y, s) := ⟨_, _, rfl⟩
  obtain ⟨y3, st4, h3⟩ : ∃ y s, rdFlag st3 = (y, s) := ⟨_, _, rfl⟩
  obtain ⟨y4, st5, h4⟩ : ∃ y s, wide st4 = (y, s) := ⟨_, _, rfl⟩
  obtain ⟨y5, st6, h5⟩ : ∃ y s, wide st5 = (y, s) := ⟨_, _, rfl⟩
  obtain ⟨y6, st7, h6⟩ : ∃ y s, rdFlag st6 = (y, s) := ⟨_, _, rfl⟩
  have hrd : rdE st = (⟨y0, y1, y2, y3, y4, y5, y6⟩, st7) := by unfold rdE; simp only [h0, h1, h2, h3, h4, h5, h6]
  rw [hrd] at hs
  subst hs
  obtain ⟨v, hv⟩ : ∃ v, st7.isNone = v := ⟨_, rfl⟩
  have HX : Hid (v = false → (⟨x0, x1, x2, x3, x4, x5, x6⟩ : OutP.En) = ⟨y0, y1, y2, y3, y4, y5, y6⟩) := by
    intro hvt
    rw [hvt] at hv
    rw [← hx]
    cases st7 with
    | none => cases hv
    | some l => exact takeE_some hrd
  have HN : Hid (v = true → (⟨x0, x1, x2, x3, x4, x5, x6⟩ : OutP.En) = en0) := by
    intro hvf
    rw [hvf] at hv
    rw [← hx]
    cases st7 with
    | none => exact rdE_bad hrd
    | some l => cases hv
  have HV := Lib.hid hv
  have hR0 := (at7_new 23 w (.int .i64 0) (.int .i64 0) (.int .i64 0) (.bool false) (.int .i64 0) (.int .i64 0) (.bool false)).alloc (.cells #[.int .i64 0, .int .i64 0, .int .i64 0, .bool false, .int .i64 0, .int .i64 0, .bool false] 23)
  have hB0 := at7_new 23 (w.alloc (.cells #[.int .i64 0, .int .i64 0, .int .i64 0, .bool false, .int .i64 0, .int .i64 0, .bool false] 23)) (.int .i64 0) (.int .i64 0) (.int .i64 0) (.bool false) (.int .i64 0) (.int .i64 0) (.bool false)
  rw [World.size_alloc] at hB0
  have hbl : Below w.heap.size w ((w.alloc (.cells #[.int .i64 0, .int .i64 0, .int .i64 0, .bool false, .int .i64 0, .int .i64 0, .bool false] 23)).alloc (.cells #[.int .i64 0, .int .i64 0, .int .i64 0, .bool false, .int .i64 0, .int .i64 0, .bool false] 23)) := ((Below.refl _ w).alloc (Nat.le_refl _) _).alloc (by rw [World.size_alloc]; omega) _
  have hsz : ((w.alloc (.cells #[.int .i64 0, .int .i64 0, .int .i64 0, .bool false, .int .i64 0, .int .i64 0, .bool false] 23)).alloc (.cells #[.int .i64 0, .int .i64 0, .int .i64 0, .bool false, .int .i64 0, .int .i64 0, .bool false] 23)).heap.size = w.heap.size + 2 := by rw [World.size_alloc, World.size_alloc]
  obtain ⟨b, hb⟩ : ∃ b, w.heap.size + 1 = b := ⟨_, rfl⟩
  obtain ⟨u0, hu⟩ : ∃ u, ((w.alloc (.cells #[.int .i64 0, .int .i64 0, .int .i64 0, .bool false, .int .i64 0, .int .i64 0, .bool false] 23)).alloc (.cells #[.int .i64 0, .int .i64 0, .int .i64 0, .bool false, .int .i64 0, .int .i64 0, .bool false] 23)) = u := ⟨_, rfl⟩
  rw [hu] at hR0 hB0 hbl hsz
  rw [hb] at hB0
  have HQW : Hid (q ≠ w.heap.size) := by show _ ≠ _; omega
  have HQB : Hid (q ≠ b) := by show _ ≠ _; omega
  have HBW : Hid (w.heap.size ≤ b) := by show _ ≤ _; omega
  have HBR : Hid (w.heap.size ≠ b) := by show _ ≠ _; omega
  have HQ0 := Lib.hid (RqAt.below hr hbl)
  have HR0 := Lib.hid hR0
  have HX0 := Lib.hid hB0
  have HG0 := Lib.hid (Wire.grown_of_below (row := some q) hbl)
  have HU := Lib.hid hu
  have HB := Lib.hid hb
  have S0 := Lib.hid h0
  have S1 := Lib.hid h1
  have S2 := Lib.hid h2
  have S3 := Lib.hid h3
  have S4 := Lib.hid h4
  have S5 := Lib.hid h5
  have S6 := Lib.hid h6
  clear hR0 hB0 hbl hu hb hr hx hv hrd hsz h0 h1 h2 h3 h4 h5 h6
  go_enter Try.func21, Try.ntmps21
  go_wp2_with fail
  rw [show ((w.alloc (.cells #[.int .i64 0, .int .i64 0, .int .i64 0, .bool false, .int .i64 0, .int .i64 0, .bool false] 23)).alloc (.cells #[.int .i64 0, .int .i64 0, .int .i64 0, .bool false, .int .i64 0, .int .i64 0, .bool false] 23)) = u0 from HU.out, show w.heap.size + 1 = b from HB.out]
  have CS := Lib.hid (wide_is q st st1 y0 S0.out u0 HQ0.out)
  refine CS.out.mono ?_
  rintro e w7 ⟨rfl, hrd, hgr⟩
  have hX : At7 23 w7 b (.int .i64 0) (.int .i64 0) (.int .i64 0) (.bool false) (.int .i64 0) (.int .i64 0) (.bool false) := (hgr.block b (heap_lt HX0.out) (fun e => HQB.out (by cases e; rfl))).trans HX0.out
  have hR : At7 23 w7 w.heap.size (.int .i64 0) (.int .i64 0) (.int .i64 0) (.bool false) (.int .i64 0) (.int .i64 0) (.bool false) := (hgr.block w.heap.size (heap_lt HR0.out) (fun e => HQW.out (by cases e; rfl))).trans HR0.out
  have hcl : w7.cell? ⟨b, 0, none⟩ = some (.int .i64 0) := by rw [cell_of_heap hX]; rfl
  have hfz : w7.frozen? ⟨b, 0, none⟩ = false := frozen_of_heap hX
  obtain ⟨u1, hu⟩ : ∃ u, w7.setCell ⟨b, 0, none⟩ (.int .i64 y0) = u := ⟨_, rfl⟩
  have hX2 : At7 23 (w7.setCell ⟨b, 0, none⟩ (.int .i64 y0)) b (.int .i64 y0) (.int .i64 0) (.int .i64 0) (.bool false) (.int .i64 0) (.int .i64 0) (.bool false) := Lib.heap_setCell_same (i := 0) hX _
  have hR2 : At7 23 (w7.setCell ⟨b, 0, none⟩ (.int .i64 y0)) w.heap.size (.int .i64 0) (.int .i64 0) (.int .i64 0) (.bool false) (.int .i64 0) (.int .i64 0) (.bool false) := (heap_setCell_other _ _ _ _ HBR.out).trans hR
  have hQ2 : RqAt (w7.setCell ⟨b, 0, none⟩ (.int .i64 y0)) q st1 := RqAt.keep hrd (heap_setCell_other _ _ _ _ HQB.out)
  have hG2 := grown_store (grown_trans HG0.out hgr) HBW.out 0 (.int .i64 y0)
  rw [hu] at hX2 hR2 hQ2 hG2
  have HX1 := Lib.hid hX2
  have HR1 := Lib.hid hR2
  have HQ1 := Lib.hid hQ2
  have HG1 := Lib.hid hG2
  have HU := Lib.hid hu
  clear hX hR hX2 hR2 hQ2 hG2 hu hrd hgr CS HX0 HR0 HQ0 HG0
  go_wp2_with fail
  rw [show w7.setCell ⟨b, 0, none⟩ (.int .i64 y0) = u1 from HU.out]
  clear hcl hfz HU
  have CS := Lib.hid (wide_is q st1 st2 y1 S1.out u1 HQ1.out)
  refine CS.out.mono ?_
  rintro e w7 ⟨rfl, hrd, hgr⟩
  have hX : At7 23 w7 b (.int .i64 y0) (.int .i64 0) (.int .i64 0) (.bool false) (.int .i64 0) (.int .i64 0) (.bool false) := (hgr.block b (heap_lt HX1.out) (fun e => HQB.out (by cases e; rfl))).trans HX1.out
  have hR : At7 23 w7 w.heap.size (.int .i64 0) (.int .i64 0) (.int .i64 0) (.bool false) (.int .i64 0) (.int .i64 0) (.bool false) := (hgr.block w.heap.size (heap_lt HR1.out) (fun e => HQW.out (by cases e; rfl))).trans HR1.out
  have hcl : w7.cell? ⟨b, 1, none⟩ = some (.int .i64 0) := by rw [cell_of_heap hX]; rfl
  have hfz : w7.frozen? ⟨b, 1, none⟩ = false := frozen_of_heap hX
  obtain ⟨u2, hu⟩ : ∃ u, w7.setCell ⟨b, 1, none⟩ (.int .i64 y1) = u := ⟨_, rfl⟩
  have hX2 : At7 23 (w7.setCell ⟨b, 1, none⟩ (.int .i64 y1)) b (.int .i64 y0) (.int .i64 y1) (.int .i64 0) (.bool false) (.int .i64 0) (.int .i64 0) (.bool false) := Lib.heap_setCell_same (i := 1) hX _
  have hR2 : At7 23 (w7.setCell ⟨b, 1, none⟩ (.int .i64 y1)) w.heap.size (.int .i64 0) (.int .i64 0) (.int .i64 0) (.bool false) (.int .i64 0) (.int .i64 0) (.bool false) := (heap_setCell_other _ _ _ _ HBR.out).trans hR
  have hQ2 : RqAt (w7.setCell ⟨b, 1, none⟩ (.int .i64 y1)) q st2 := RqAt.keep hrd (heap_setCell_other _ _ _ _ HQB.out)
  have hG2 := grown_store (grown_trans HG1.out hgr) HBW.out 1 (.int .i64 y1)
  rw [hu] at hX2 hR2 hQ2 hG2
  have HX2 := Lib.hid hX2
  have HR2 := Lib.hid hR2
  have HQ2 := Lib.hid hQ2
  have HG2 := Lib.hid hG2
  have HU := Lib.hid hu
  clear hX hR hX2 hR2 hQ2 hG2 hu hrd hgr CS HX1 HR1 HQ1 HG1
  go_wp2_with fail
  rw [show w7.setCell ⟨b, 1, none⟩ (.int .i64 y1) = u2 from HU.out]
  clear hcl hfz HU
  have CS := Lib.hid (wide_is q st2 st3 y2 S2.out u2 HQ2.out)
  refine CS.out.mono ?_
  rintro e w7 ⟨rfl, hrd, hgr⟩
  have hX : At7 23 w7 b (.int .i64 y0) (.int .i64 y1) (.int .i64 0) (.bool false) (.int .i64 0) (.int .i64 0) (.bool false) := (hgr.block b (heap_lt HX2.out) (fun e => HQB.out (by cases e; rfl))).trans HX2.out
  have hR : At7 23 w7 w.heap.size (.int .i64 0) (.int .i64 0) (.int .i64 0) (.bool false) (.int .i64 0) (.int .i64 0) (.bool false) := (hgr.block w.heap.size (heap_lt HR2.out) (fun e => HQW.out (by cases e; rfl))).trans HR2.out
  have hcl : w7.cell? ⟨b, 2, none⟩ = some (.int .i64 0) := by rw [cell_of_heap hX]; rfl
  have hfz : w7.frozen? ⟨b, 2, none⟩ = false := frozen_of_heap hX
  obtain ⟨u3, hu⟩ : ∃ u, w7.setCell ⟨b, 2, none⟩ (.int .i64 y2) = u := ⟨_, rfl⟩
  have hX2 : At7 23 (w7.setCell ⟨b, 2, none⟩ (.int .i64 y2)) b (.int .i64 y0) (.int .i64 y1) (.int .i64 y2) (.bool false) (.int .i64 0) (.int .i64 0) (.bool false) := Lib.heap_setCell_same (i := 2) hX _
  have hR2 : At7 23 (w7.setCell ⟨b, 2, none⟩ (.int .i64 y2)) w.heap.size (.int .i64 0) (.int .i64 0) (.int .i64 0) (.bool false) (.int .i64 0) (.int .i64 0) (.bool false) := (heap_setCell_other _ _ _ _ HBR.out).trans hR
  have hQ2 : RqAt (w7.setCell ⟨b, 2, none⟩ (.int .i64 y2)) q st3 := RqAt.keep hrd (heap_setCell_other _ _ _ _ HQB.out)
  have hG2 := grown_store (grown_trans HG2.out hgr) HBW.out 2 (.int .i64 y2)
  rw [hu] at hX2 hR2 hQ2 hG2
  have HX3 := Lib.hid hX2
  have HR3 := Lib.hid hR2
  have HQ3 := Lib.hid hQ2
  have HG3 := Lib.hid hG2
  have HU := Lib.hid hu
  clear hX hR hX2 hR2 hQ2 hG2 hu hrd hgr CS HX2 HR2 HQ2 HG2
  go_wp2_with fail
  rw [show w7.setCell ⟨b, 2, none⟩ (.int .i64 y2) = u3 from HU.out]
  clear hcl hfz HU
  have CS := Lib.hid (flag_rq q st3 st4 y3 S3.out u3 HQ3.out)
  refine CS.out.mono ?_
  rintro e w7 ⟨rfl, hrd, hgr⟩
  have hX : At7 23 w7 b (.int .i64 y0) (.int .i64 y1) (.int .i64 y2) (.bool false) (.int .i64 0) (.int .i64 0) (.bool false) := (hgr.block b (heap_lt HX3.out) (fun e => HQB.out (by cases e; rfl))).trans HX3.out
  have hR : At7 23 w7 w.heap.size (.int .i64 0) (.int .i64 0) (.int .i64 0) (.bool false) (.int .i64 0) (.int .i64 0) (.bool false) := (hgr.block w.heap.size (heap_lt HR3.out) (fun e => HQW.out (by cases e; rfl))).trans HR3.out
  have hcl : w7.cell? ⟨b, 3, none⟩ = some (.bool false) := by rw [cell_of_heap hX]; rfl
  have hfz : w7.frozen? ⟨b, 3, none⟩ = false := frozen_of_heap hX
  obtain ⟨u4, hu⟩ : ∃ u, w7.setCell ⟨b, 3, none⟩ (.bool y3) = u := ⟨_, rfl⟩
  have hX2 : At7 23 (w7.setCell ⟨b, 3, none⟩ (.bool y3)) b (.int .i64 y0) (.int .i64 y1) (.int .i64 y2) (.bool y3) (.int .i64 0) (.int .i64 0) (.bool false) := Lib.heap_setCell_same (i := 3) hX _
  have hR2 : At7 23 (w7.setCell ⟨b, 3, none⟩ (.bool y3)) w.heap.size (.int .i64 0) (.int .i64 0) (.int .i64 0) (.bool false) (.int .i64 0) (.int .i64 0) (.bool false) := (heap_setCell_other _ _ _ _ HBR.out).trans hR
  have hQ2 : RqAt (w7.setCell ⟨b, 3, none⟩ (.bool y3)) q st4 := RqAt.keep hrd (heap_setCell_other _ _ _ _ HQB.out)
  have hG2 := grown_store (grown_trans HG3.out hgr) HBW.out 3 (.bool y3)
  rw [hu] at hX2 hR2 hQ2 hG2
  have HX4 := Lib.hid hX2
  have HR4 := Lib.hid hR2
  have HQ4 := Lib.hid hQ2
  have HG4 := Lib.hid hG2
  have HU := Lib.hid hu
  clear hX hR hX2 hR2 hQ2 hG2 hu hrd hgr CS HX3 HR3 HQ3 HG3
  go_wp2_with fail
  rw [show w7.setCell ⟨b, 3, none⟩ (.bool y3) = u4 from HU.out]
  clear hcl hfz HU
  have CS := Lib.hid (wide_is q st4 st5 y4 S4.out u4 HQ4.out)
  refine CS.out.mono ?_
  rintro e w7 ⟨rfl, hrd, hgr⟩
  have hX : At7 23 w7 b (.int .i64 y0) (.int .i64 y1) (.int .i64 y2) (.bool y3) (.int .i64 0) (.int .i64 0) (.bool false) := (hgr.block b (heap_lt HX4.out) (fun e => HQB.out (by cases e; rfl))).trans HX4.out
  have hR : At7 23 w7 w.heap.size (.int .i64 0) (.int .i64 0) (.int .i64 0) (.bool false) (.int .i64 0) (.int .i64 0) (.bool false) := (hgr.block w.heap.size (heap_lt HR4.out) (fun e => HQW.out (by cases e; rfl))).trans HR4.out
  have hcl : w7.cell? ⟨b, 4, none⟩ = some (.int .i64 0) := by rw [cell_of_heap hX]; rfl
  have hfz : w7.frozen? ⟨b, 4, none⟩ = false := frozen_of_heap hX
  obtain ⟨u5, hu⟩ : ∃ u, w7.setCell ⟨b, 4, none⟩ (.int .i64 y4) = u := ⟨_, rfl⟩
  have hX2 : At7 23 (w7.setCell ⟨b, 4, none⟩ (.int .i64 y4)) b (.int .i64 y0) (.int .i64 y1) (.int .i64 y2) (.bool y3) (.int .i64 y4) (.int .i64 0) (.bool false) := Lib.heap_setCell_same (i := 4) hX _
  have hR2 : At7 23 (w7.setCell ⟨b, 4, none⟩ (.int .i64 y4)) w.heap.size (.int .i64 0) (.int .i64 0) (.int .i64 0) (.bool false) (.int .i64 0) (.int .i64 0) (.bool false) := (heap_setCell_other _ _ _ _ HBR.out).trans hR
  have hQ2 : RqAt (w7.setCell ⟨b, 4, none⟩ (.int .i64 y4)) q st5 := RqAt.keep hrd (heap_setCell_other _ _ _ _ HQB.out)
  have hG2 := grown_store (grown_trans HG4.out hgr) HBW.out 4 (.int .i64 y4)
  rw [hu] at hX2 hR2 hQ2 hG2
  have HX5 := Lib.hid hX2
  have HR5 := Lib.hid hR2
  have HQ5 := Lib.hid hQ2
  have HG5 := Lib.hid hG2
  have HU := Lib.hid hu
  clear hX hR hX2 hR2 hQ2 hG2 hu hrd hgr CS HX4 HR4 HQ4 HG4
  go_wp2_with fail
  rw [show w7.setCell ⟨b, 4, none⟩ (.int .i64 y4) = u5 from HU.out]
  clear hcl hfz HU
  have CS := Lib.hid (wide_is q st5 st6 y5 S5.out u5 HQ5.out)
  refine CS.out.mono ?_
  rintro e w7 ⟨rfl, hrd, hgr⟩
  have hX : At7 23 w7 b (.int .i64 y0) (.int .i64 y1) (.int .i64 y2) (.bool y3) (.int .i64 y4) (.int .i64 0) (.bool false) := (hgr.block b (heap_lt HX5.out) (fun e => HQB.out (by cases e; rfl))).trans HX5.out
  have hR : At7 23 w7 w.heap.size (.int .i64 0) (.int .i64 0) (.int .i64 0) (.bool false) (.int .i64 0) (.int .i64 0) (.bool false) := (hgr.block w.heap.size (heap_lt HR5.out) (fun e => HQW.out (by cases e; rfl))).trans HR5.out
  have hcl : w7.cell? ⟨b, 5, none⟩ = some (.int .i64 0) := by rw [cell_of_heap hX]; rfl
  have hfz : w7.frozen? ⟨b, 5, none⟩ = false := frozen_of_heap hX
  obtain ⟨u6, hu⟩ : ∃ u, w7.setCell ⟨b, 5, none⟩ (.int .i64 y5) = u := ⟨_, rfl⟩
  have hX2 : At7 23 (w7.setCell ⟨b, 5, none⟩ (.int .i64 y5)) b (.int .i64 y0) (.int .i64 y1) (.int .i64 y2) (.bool y3) (.int .i64 y4) (.int .i64 y5) (.bool false) := Lib.heap_setCell_same (i := 5) hX _
  have hR2 : At7 23 (w7.setCell ⟨b, 5, none⟩ (.int .i64 y5)) w.heap.size (.int .i64 0) (.int .i64 0) (.int .i64 0) (.bool false) (.int .i64 0) (.int .i64 0) (.bool false) := (heap_setCell_other _ _ _ _ HBR.out).trans hR
  have hQ2 : RqAt (w7.setCell ⟨b, 5, none⟩ (.int .i64 y5)) q st6 := RqAt.keep hrd (heap_setCell_other _ _ _ _ HQB.out)
  have hG2 := grown_store (grown_trans HG5.out hgr) HBW.out 5 (.int .i64 y5)
  rw [hu] at hX2 hR2 hQ2 hG2
  have HX6 := Lib.hid hX2
  have HR6 := Lib.hid hR2
  have HQ6 := Lib.hid hQ2
  have HG6 := Lib.hid hG2
  have HU := Lib.hid hu
  clear hX hR hX2 hR2 hQ2 hG2 hu hrd hgr CS HX5 HR5 HQ5 HG5
  go_wp2_with fail
  rw [show w7.setCell ⟨b, 5, none⟩ (.int .i64 y5) = u6 from HU.out]
  clear hcl hfz HU
  have CS := Lib.hid (flag_rq q st6 st7 y6 S6.out u6 HQ6.out)
  refine CS.out.mono ?_
  rintro e w7 ⟨rfl, hrd, hgr⟩
  have hX : At7 23 w7 b (.int .i64 y0) (.int .i64 y1) (.int .i64 y2) (.bool y3) (.int .i64 y4) (.int .i64 y5) (.bool false) := (hgr.block b (heap_lt HX6.out) (fun e => HQB.out (by cases e; rfl))).trans HX6.out
  have hR : At7 23 w7 w.heap.size (.int .i64 0) (.int .i64 0) (.int .i64 0) (.bool false) (.int .i64 0) (.int .i64 0) (.bool false) := (hgr.block w.heap.size (heap_lt HR6.out) (fun e => HQW.out (by cases e; rfl))).trans HR6.out
  have hcl : w7.cell? ⟨b, 6, none⟩ = some (.bool false) := by rw [cell_of_heap hX]; rfl
  have hfz : w7.frozen? ⟨b, 6, none⟩ = false := frozen_of_heap hX
  obtain ⟨u7, hu⟩ : ∃ u, w7.setCell ⟨b, 6, none⟩ (.bool y6) = u := ⟨_, rfl⟩
  have hX2 : At7 23 (w7.setCell ⟨b, 6, none⟩ (.bool y6)) b (.int .i64 y0) (.int .i64 y1) (.int .i64 y2) (.bool y3) (.int .i64 y4) (.int .i64 y5) (.bool y6) := Lib.heap_setCell_same (i := 6) hX _
  have hR2 : At7 23 (w7.setCell ⟨b, 6, none⟩ (.bool y6)) w.heap.size (.int .i64 0) (.int .i64 0) (.int .i64 0) (.bool false) (.int .i64 0) (.int .i64 0) (.bool false) := (heap_setCell_other _ _ _ _ HBR.out).trans hR
  have hQ2 : RqAt (w7.setCell ⟨b, 6, none⟩ (.bool y6)) q st7 := RqAt.keep hrd (heap_setCell_other _ _ _ _ HQB.out)
  have hG2 := grown_store (grown_trans HG6.out hgr) HBW.out 6 (.bool y6)
  rw [hu] at hX2 hR2 hQ2 hG2
  have HX7 := Lib.hid hX2
  have HR7 := Lib.hid hR2
  have HQ7 := Lib.hid hQ2
  have HG7 := Lib.hid hG2
  have HU := Lib.hid hu
  clear hX hR hX2 hR2 hQ2 hG2 hu hrd hgr CS HX6 HR6 HQ6 HG6
  have hub : w7.setCell ⟨b, 6, none⟩ (.bool y6) = u7 := HU.out
  obtain ⟨z, hz, _⟩ := HQ7.out
  have hbad : (w7.setCell ⟨b, 6, none⟩ (.bool y6)).cell? ⟨q, 1, none⟩ = some (.bool v) := by rw [hub, cell_of_heap hz, ← HV.out]; rfl
  obtain ⟨d0, d1, d2, d3, d4, d5, d6⟩ := cells7 HX7.out
  obtain ⟨p0, p1, p2, p3, p4, p5, p6⟩ := cells7 HR7.out
  obtain ⟨f0, f1, f2, f3, f4, f5, f6⟩ := free7 HR7.out
  clear hz
  cases v with
  | false =>
    cases HX.out rfl
    rw [← hub] at d0 d1 d2 d3 d4 d5 d6 p0 p1 p2 p3 p4 p5 p6 f0 f1 f2 f3 f4 f5 f6
    clear hub
    go_wp2_with fail
    rw [show w7.setCell ⟨b, 6, none⟩ (.bool x6) = u7 from HU.out]
    have HZ := Lib.hid (heap_put7 HR7.out (.int .i64 x0) (.int .i64 x1) (.int .i64 x2) (.bool x3) (.int .i64 x4) (.int .i64 x5) (.bool x6))
    have HQ : Hid (RqAt (put7 u7 w.heap.size (.int .i64 x0) (.int .i64 x1) (.int .i64 x2) (.bool x3) (.int .i64 x4) (.int .i64 x5) (.bool x6)) q st7) := RqAt.keep HQ7.out (put7_other _ _ _ _ _ _ _ (fun e => HQW.out (by rw [e])))
    have HG8 := Lib.hid (grown_below HG7.out (below_put7 (Below.refl w.heap.size u7) (Nat.le_refl _) (.int .i64 x0) (.int .i64 x1) (.int .i64 x2) (.bool x3) (.int .i64 x4) (.int .i64 x5) (.bool x6)) (.inr trivial))
    exact bodyPost_ret (results_e (j := 2) rfl _ _ w.heap.size _ _ _ _ _ _ _ rfl HZ.out) rfl ⟨rfl, HQ.out, HG8.out⟩
  | true =>
    cases HN.out rfl
    rw [← hub] at d0 d1 d2 d3 d4 d5 d6 p0 p1 p2 p3 p4 p5 p6 f0 f1 f2 f3 f4 f5 f6
    clear hub
    go_wp2_with fail
    rw [show w7.setCell ⟨b, 6, none⟩ (.bool y6) = u7 from HU.out]
    have HZ := Lib.hid (heap_put7 HR7.out (.int .i64 0) (.int .i64 0) (.int .i64 0) (.bool false) (.int .i64 0) (.int .i64 0) (.bool false))
    have HQ : Hid (RqAt (put7 u7 w.heap.size (.int .i64 0) (.int .i64 0) (.int .i64 0) (.bool false) (.int .i64 0) (.int .i64 0) (.bool false)) q st7) := RqAt.keep HQ7.out (put7_other _ _ _ _ _ _ _ (fun e => HQW.out (by rw [e])))
    have HG8 := Lib.hid (grown_below HG7.out (below_put7 (Below.refl w.heap.size u7) (Nat.le_refl _) (.int .i64 0) (.int .i64 0) (.int .i64 0) (.bool false) (.int .i64 0) (.int .i64 0) (.bool false)) (.inr trivial))
    exact bodyPost_ret (results_e (j := 2) rfl _ _ w.heap.size _ _ _ _ _ _ _ rfl HZ.out) rfl ⟨rfl, HQ.out, HG8.out⟩
set_option maxHeartbeats 4000000 in
theorem rtaker_is (q : Nat) (st st' : Rd) (r0 : Int) (r1 : Int) (r2 : Int) (r3 : Int) (r4 : Bool) (r5 : Int) (r6 : Int) (hx : takeR st = ⟨r0, r1, r2, r3, r4, r5, r6⟩) (hs : (rdR st).2 = st') (w : World) (hr : RqAt w q st) :
    Calls Try.prog 27 #[.pointer (some ⟨q, 0, none⟩)] w fun e w' => e = .returned (.agg #[.int .i64 r0, .int .i64 r1, .int .i64 r2, .int .i64 r3, .bool r4, .int .i64 r5, .int .i64 r6]) ∧ RqAt w' q st' ∧ w.grownBy w' (some q) := by
  have hq := hr.lt
  obtain ⟨y0, st1, h0⟩ : ∃ y s, wide st = (y, s) := ⟨_, _, rfl⟩
  obtain ⟨y1, st2, h1⟩ : ∃ y s, wide st1 = (y, s) := ⟨_, _, rfl⟩
  obtain ⟨y2, st3, h2⟩ : ∃ y s, wide st2 = (y, s) := ⟨_, _, rfl⟩
  obtain ⟨y3, st4, h3⟩ : ∃ y s, wide st3 = (y, s) := ⟨_, _, rfl⟩
  obtain ⟨y4, st5, h4⟩ : ∃ y s, rdFlag st4 = (y, s) := ⟨_, _, rfl⟩
  obtain ⟨y5, st6, h5⟩ : ∃ y s, wide st5 = (y, s) := ⟨_, _, rfl⟩
  obtain ⟨y6, st7, h6⟩ : ∃ y s, wide st6 = (y, s) := ⟨_, _, rfl⟩
  have hrd : rdR st = (⟨y0, y1, y2, y3, y4, y5, y6⟩, st7) := by unfold rdR; simp only [h0, h1, h2, h3, h4, h5, h6]
  rw [hrd] at hs
  subst hs
  obtain ⟨v, hv⟩ : ∃ v, st7.isNone = v := ⟨_, rfl⟩
  have HX : Hid (v = false → (⟨r0, r1, r2, r3, r4, r5, r6⟩ : Rp) = ⟨y0, y1, y2, y3, y4, y5, y6⟩) := by
    intro hvt
    rw [hvt] at hv
    rw [← hx]
    cases st7 with
    | none => cases hv
    | some l => exact takeR_some hrd
  have HN : Hid (v = true → (⟨r0, r1, r2, r3, r4, r5, r6⟩ : Rp) = rp0) := by
    intro hvf
    rw [hvf] at hv
    rw [← hx]
    cases st7 with
    | none => exact rdR_bad hrd
    | some l => cases hv
  have HV := Lib.hid hv
  have hR0 := (at7_new 25 w (.int .i64 0) (.int .i64 0) (.int .i64 0) (.int .i64 0) (.bool false) (.int .i64 0) (.int .i64 0)).alloc (.cells #[.int .i64 0, .int .i64 0, .int .i64 0, .int .i64 0, .bool false, .int .i64 0, .int .i64 0] 25)
  have hB0 := at7_new 25 (w.alloc (.cells #[.int .i64 0, .int .i64 0, .int .i64 0, .int .i64 0, .bool false, .int .i64 0, .int .i64 0] 25)) (.int .i64 0) (.int .i64 0) (.int .i64 0) (.int .i64 0) (.bool false) (.int .i64 0) (.int .i64 0)
  rw [World.size_alloc] at hB0
  have hbl : Below w.heap.size w ((w.alloc (.cells #[.int .i64 0, .int .i64 0, .int .i64 0, .int .i64 0, .bool false, .int .i64 0, .int .i64 0] 25)).alloc (.cells #[.int .i64 0, .int .i64 0, .int .i64 0, .int .i64 0, .bool false, .int .i64 0, .int .i64 0] 25)) := ((Below.refl _ w).alloc (Nat.le_refl _) _).alloc (by rw [World.size_alloc]; omega) _
  have hsz : ((w.alloc (.cells #[.int .i64 0, .int .i64 0, .int .i64 0, .int .i64 0, .bool false, .int .i64 0, .int .i64 0] 25)).alloc (.cells #[.int .i64 0, .int .i64 0, .int .i64 0, .int .i64 0, .bool false, .int .i64 0, .int .i64 0] 25)).heap.size = w.heap.size + 2 := by rw [World.size_alloc, World.size_alloc]
  obtain ⟨b, hb⟩ : ∃ b, w.heap.size + 1 = b := ⟨_, rfl⟩
  obtain ⟨u0, hu⟩ : ∃ u, ((w.alloc (.cells #[.int .i64 0, .int .i64 0, .int .i64 0, .int .i64 0, .bool false, .int .i64 0, .int .i64 0] 25)).alloc (.cells #[.int .i64 0, .int .i64 0, .int .i64 0, .int .i64 0, .bool false, .int .i64 0, .int .i64 0] 25)) = u := ⟨_, rfl⟩
  rw [hu] at hR0 hB0 hbl hsz
  rw [hb] at hB0
  have HQW : Hid (q ≠ w.heap.size) := by show _ ≠ _; omega
  have HQB : Hid (q ≠ b) := by show _ ≠ _; omega
  have HBW : Hid (w.heap.size ≤ b) := by show _ ≤ _; omega
  have HBR : Hid (w.heap.size ≠ b) := by show _ ≠ _; omega
  have HQ0 := Lib.hid (RqAt.below hr hbl)
  have HR0 := Lib.hid hR0
  have HX0 := Lib.hid hB0
  have HG0 := Lib.hid (Wire.grown_of_below (row := some q) hbl)
  have HU := Lib.hid hu
  have HB := Lib.hid hb
  have S0 := Lib.hid h0
  have S1 := Lib.hid h1
  have S2 := Lib.hid h2
  have S3 := Lib.hid h3
  have S4 := Lib.hid h4
  have S5 := Lib.hid h5
  have S6 := Lib.hid h6
  clear hR0 hB0 hbl hu hb hr hx hv hrd hsz h0 h1 h2 h3 h4 h5 h6
  go_enter Try.func27, Try.ntmps27
  go_wp2_with fail
  rw [show ((w.alloc (.cells #[.int .i64 0, .int .i64 0, .int .i64 0, .int .i64 0, .bool false, .int .i64 0, .int .i64 0] 25)).alloc (.cells #[.int .i64 0, .int .i64 0, .int .i64 0, .int .i64 0, .bool false, .int .i64 0, .int .i64 0] 25)) = u0 from HU.out, show w.heap.size + 1 = b from HB.out]
  have CS := Lib.hid (wide_is q st st1 y0 S0.out u0 HQ0.out)
  refine CS.out.mono ?_
  rintro e w7 ⟨rfl, hrd, hgr⟩
  have hX : At7 25 w7 b (.int .i64 0) (.int .i64 0) (.int .i64 0) (.int .i64 0) (.bool false) (.int .i64 0) (.int .i64 0) := (hgr.block b (heap_lt HX0.out) (fun e => HQB.out (by cases e; rfl))).trans HX0.out
  have hR : At7 25 w7 w.heap.size (.int .i64 0) (.int .i64 0) (.int .i64 0) (.int .i64 0) (.bool false) (.int .i64 0) (.int .i64 0) := (hgr.block w.heap.size (heap_lt HR0.out) (fun e => HQW.out (by cases e; rfl))).trans HR0.out
  have hcl : w7.cell? ⟨b, 0, none⟩ = some (.int .i64 0) := by rw [cell_of_heap hX]; rfl
  have hfz : w7.frozen? ⟨b, 0, none⟩ = false := frozen_of_heap hX
  obtain ⟨u1, hu⟩ : ∃ u, w7.setCell ⟨b, 0, none⟩ (.int .i64 y0) = u := ⟨_, rfl⟩
  have hX2 : At7 25 (w7.setCell ⟨b, 0, none⟩ (.int .i64 y0)) b (.int .i64 y0) (.int .i64 0) (.int .i64 0) (.int .i64 0) (.bool false) (.int .i64 0) (.int .i64 0) := Lib.heap_setCell_same (i := 0) hX _
  have hR2 : At7 25 (w7.setCell ⟨b, 0, none⟩ (.int .i64 y0)) w.heap.size (.int .i64 0) (.int .i64 0) (.int .i64 0) (.int .i64 0) (.bool false) (.int .i64 0) (.int .i64 0) := (heap_setCell_other _ _ _ _ HBR.out).trans hR
  have hQ2 : RqAt (w7.setCell ⟨b, 0, none⟩ (.int .i64 y0)) q st1 := RqAt.keep hrd (heap_setCell_other _ _ _ _ HQB.out)
  have hG2 := grown_store (grown_trans HG0.out hgr) HBW.out 0 (.int .i64 y0)
  rw [hu] at hX2 hR2 hQ2 hG2
  have HX1 := Lib.hid hX2
  have HR1 := Lib.hid hR2
  have HQ1 := Lib.hid hQ2
  have HG1 := Lib.hid hG2
  have HU := Lib.hid hu
  clear hX hR hX2 hR2 hQ2 hG2 hu hrd hgr CS HX0 HR0 HQ0 HG0
  go_wp2_with fail
  rw [show w7.setCell ⟨b, 0, none⟩ (.int .i64 y0) = u1 from HU.out]
  clear hcl hfz HU
  have CS := Lib.hid (wide_is q st1 st2 y1 S1.out u1 HQ1.out)
  refine CS.out.mono ?_
  rintro e w7 ⟨rfl, hrd, hgr⟩
  have hX : At7 25 w7 b (.int .i64 y0) (.int .i64 0) (.int .i64 0) (.int .i64 0) (.bool false) (.int .i64 0) (.int .i64 0) := (hgr.block b (heap_lt HX1.out) (fun e => HQB.out (by cases e; rfl))).trans HX1.out
  have hR : At7 25 w7 w.heap.size (.int .i64 0) (.int .i64 0) (.int .i64 0) (.int .i64 0) (.bool false) (.int .i64 0) (.int .i64 0) := (hgr.block w.heap.size (heap_lt HR1.out) (fun e => HQW.out (by cases e; rfl))).trans HR1.out
  have hcl : w7.cell? ⟨b, 1, none⟩ = some (.int .i64 0) := by rw [cell_of_heap hX]; rfl
  have hfz : w7.frozen? ⟨b, 1, none⟩ = false := frozen_of_heap hX
  obtain ⟨u2, hu⟩ : ∃ u, w7.setCell ⟨b, 1, none⟩ (.int .i64 y1) = u := ⟨_, rfl⟩
  have hX2 : At7 25 (w7.setCell ⟨b, 1, none⟩ (.int .i64 y1)) b (.int .i64 y0) (.int .i64 y1) (.int .i64 0) (.int .i64 0) (.bool false) (.int .i64 0) (.int .i64 0) := Lib.heap_setCell_same (i := 1) hX _
  have hR2 : At7 25 (w7.setCell ⟨b, 1, none⟩ (.int .i64 y1)) w.heap.size (.int .i64 0) (.int .i64 0) (.int .i64 0) (.int .i64 0) (.bool false) (.int .i64 0) (.int .i64 0) := (heap_setCell_other _ _ _ _ HBR.out).trans hR
  have hQ2 : RqAt (w7.setCell ⟨b, 1, none⟩ (.int .i64 y1)) q st2 := RqAt.keep hrd (heap_setCell_other _ _ _ _ HQB.out)
  have hG2 := grown_store (grown_trans HG1.out hgr) HBW.out 1 (.int .i64 y1)
  rw [hu] at hX2 hR2 hQ2 hG2
  have HX2 := Lib.hid hX2
  have HR2 := Lib.hid hR2
  have HQ2 := Lib.hid hQ2
  have HG2 := Lib.hid hG2
  have HU := Lib.hid hu
  clear hX hR hX2 hR2 hQ2 hG2 hu hrd hgr CS HX1 HR1 HQ1 HG1
  go_wp2_with fail
  rw [show w7.setCell ⟨b, 1, none⟩ (.int .i64 y1) = u2 from HU.out]
  clear hcl hfz HU
  have CS := Lib.hid (wide_is q st2 st3 y2 S2.out u2 HQ2.out)
  refine CS.out.mono ?_
  rintro e w7 ⟨rfl, hrd, hgr⟩
  have hX : At7 25 w7 b (.int .i64 y0) (.int .i64 y1) (.int .i64 0) (.int .i64 0) (.bool false) (.int .i64 0) (.int .i64 0) := (hgr.block b (heap_lt HX2.out) (fun e => HQB.out (by cases e; rfl))).trans HX2.out
  have hR : At7 25 w7 w.heap.size (.int .i64 0) (.int .i64 0) (.int .i64 0) (.int .i64 0) (.bool false) (.int .i64 0) (.int .i64 0) := (hgr.block w.heap.size (heap_lt HR2.out) (fun e => HQW.out (by cases e; rfl))).trans HR2.out
  have hcl : w7.cell? ⟨b, 2, none⟩ = some (.int .i64 0) := by rw [cell_of_heap hX]; rfl
  have hfz : w7.frozen? ⟨b, 2, none⟩ = false := frozen_of_heap hX
  obtain ⟨u3, hu⟩ : ∃ u, w7.setCell ⟨b, 2, none⟩ (.int .i64 y2) = u := ⟨_, rfl⟩
  have hX2 : At7 25 (w7.setCell ⟨b, 2, none⟩ (.int .i64 y2)) b (.int .i64 y0) (.int .i64 y1) (.int .i64 y2) (.int .i64 0) (.bool false) (.int .i64 0) (.int .i64 0) := Lib.heap_setCell_same (i := 2) hX _
  have hR2 : At7 25 (w7.setCell ⟨b, 2, none⟩ (.int .i64 y2)) w.heap.size (.int .i64 0) (.int .i64 0) (.int .i64 0) (.int .i64 0) (.bool false) (.int .i64 0) (.int .i64 0) := (heap_setCell_other _ _ _ _ HBR.out).trans hR
  have hQ2 : RqAt (w7.setCell ⟨b, 2, none⟩ (.int .i64 y2)) q st3 := RqAt.keep hrd (heap_setCell_other _ _ _ _ HQB.out)
  have hG2 := grown_store (grown_trans HG2.out hgr) HBW.out 2 (.int .i64 y2)
  rw [hu] at hX2 hR2 hQ2 hG2
  have HX3 := Lib.hid hX2
  have HR3 := Lib.hid hR2
  have HQ3 := Lib.hid hQ2
  have HG3 := Lib.hid hG2
  have HU := Lib.hid hu
  clear hX hR hX2 hR2 hQ2 hG2 hu hrd hgr CS HX2 HR2 HQ2 HG2
  go_wp2_with fail
  rw [show w7.setCell ⟨b, 2, none⟩ (.int .i64 y2) = u3 from HU.out]
  clear hcl hfz HU
  have CS := Lib.hid (wide_is q st3 st4 y3 S3.out u3 HQ3.out)
  refine CS.out.mono ?_
  rintro e w7 ⟨rfl, hrd, hgr⟩
  have hX : At7 25 w7 b (.int .i64 y0) (.int .i64 y1) (.int .i64 y2) (.int .i64 0) (.bool false) (.int .i64 0) (.int .i64 0) := (hgr.block b (heap_lt HX3.out) (fun e => HQB.out (by cases e; rfl))).trans HX3.out
  have hR : At7 25 w7 w.heap.size (.int .i64 0) (.int .i64 0) (.int .i64 0) (.int .i64 0) (.bool false) (.int .i64 0) (.int .i64 0) := (hgr.block w.heap.size (heap_lt HR3.out) (fun e => HQW.out (by cases e; rfl))).trans HR3.out
  have hcl : w7.cell? ⟨b, 3, none⟩ = some (.int .i64 0) := by rw [cell_of_heap hX]; rfl
  have hfz : w7.frozen? ⟨b, 3, none⟩ = false := frozen_of_heap hX
  obtain ⟨u4, hu⟩ : ∃ u, w7.setCell ⟨b, 3, none⟩ (.int .i64 y3) = u := ⟨_, rfl⟩
  have hX2 : At7 25 (w7.setCell ⟨b, 3, none⟩ (.int .i64 y3)) b (.int .i64 y0) (.int .i64 y1) (.int .i64 y2) (.int .i64 y3) (.bool false) (.int .i64 0) (.int .i64 0) := Lib.heap_setCell_same (i := 3) hX _
  have hR2 : At7 25 (w7.setCell ⟨b, 3, none⟩ (.int .i64 y3)) w.heap.size (.int .i64 0) (.int .i64 0) (.int .i64 0) (.int .i64 0) (.bool false) (.int .i64 0) (.int .i64 0) := (heap_setCell_other _ _ _ _ HBR.out).trans hR
  have hQ2 : RqAt (w7.setCell ⟨b, 3, none⟩ (.int .i64 y3)) q st4 := RqAt.keep hrd (heap_setCell_other _ _ _ _ HQB.out)
  have hG2 := grown_store (grown_trans HG3.out hgr) HBW.out 3 (.int .i64 y3)
  rw [hu] at hX2 hR2 hQ2 hG2
  have HX4 := Lib.hid hX2
  have HR4 := Lib.hid hR2
  have HQ4 := Lib.hid hQ2
  have HG4 := Lib.hid hG2
  have HU := Lib.hid hu
  clear hX hR hX2 hR2 hQ2 hG2 hu hrd hgr CS HX3 HR3 HQ3 HG3
  go_wp2_with fail
  rw [show w7.setCell ⟨b, 3, none⟩ (.int .i64 y3) = u4 from HU.out]
  clear hcl hfz HU
  have CS := Lib.hid (flag_rq q st4 st5 y4 S4.out u4 HQ4.out)
  refine CS.out.mono ?_
  rintro e w7 ⟨rfl, hrd, hgr⟩
  have hX : At7 25 w7 b (.int .i64 y0) (.int .i64 y1) (.int .i64 y2) (.int .i64 y3) (.bool false) (.int .i64 0) (.int .i64 0) := (hgr.block b (heap_lt HX4.out) (fun e => HQB.out (by cases e; rfl))).trans HX4.out
  have hR : At7 25 w7 w.heap.size (.int .i64 0) (.int .i64 0) (.int .i64 0) (.int .i64 0) (.bool false) (.int .i64 0) (.int .i64 0) := (hgr.block w.heap.size (heap_lt HR4.out) (fun e => HQW.out (by cases e; rfl))).trans HR4.out
  have hcl : w7.cell? ⟨b, 4, none⟩ = some (.bool false) := by rw [cell_of_heap hX]; rfl
  have hfz : w7.frozen? ⟨b, 4, none⟩ = false := frozen_of_heap hX
  obtain ⟨u5, hu⟩ : ∃ u, w7.setCell ⟨b, 4, none⟩ (.bool y4) = u := ⟨_, rfl⟩
  have hX2 : At7 25 (w7.setCell ⟨b, 4, none⟩ (.bool y4)) b (.int .i64 y0) (.int .i64 y1) (.int .i64 y2) (.int .i64 y3) (.bool y4) (.int .i64 0) (.int .i64 0) := Lib.heap_setCell_same (i := 4) hX _
  have hR2 : At7 25 (w7.setCell ⟨b, 4, none⟩ (.bool y4)) w.heap.size (.int .i64 0) (.int .i64 0) (.int .i64 0) (.int .i64 0) (.bool false) (.int .i64 0) (.int .i64 0) := (heap_setCell_other _ _ _ _ HBR.out).trans hR
  have hQ2 : RqAt (w7.setCell ⟨b, 4, none⟩ (.bool y4)) q st5 := RqAt.keep hrd (heap_setCell_other _ _ _ _ HQB.out)
  have hG2 := grown_store (grown_trans HG4.out hgr) HBW.out 4 (.bool y4)
  rw [hu] at hX2 hR2 hQ2 hG2
  have HX5 := Lib.hid hX2
  have HR5 := Lib.hid hR2
  have HQ5 := Lib.hid hQ2
  have HG5 := Lib.hid hG2
  have HU := Lib.hid hu
  clear hX hR hX2 hR2 hQ2 hG2 hu hrd hgr CS HX4 HR4 HQ4 HG4
  go_wp2_with fail
  rw [show w7.setCell ⟨b, 4, none⟩ (.bool y4) = u5 from HU.out]
  clear hcl hfz HU
  have CS := Lib.hid (wide_is q st5 st6 y5 S5.out u5 HQ5.out)
  refine CS.out.mono ?_
  rintro e w7 ⟨rfl, hrd, hgr⟩
  have hX : At7 25 w7 b (.int .i64 y0) (.int .i64 y1) (.int .i64 y2) (.int .i64 y3) (.bool y4) (.int .i64 0) (.int .i64 0) := (hgr.block b (heap_lt HX5.out) (fun e => HQB.out (by cases e; rfl))).trans HX5.out
  have hR : At7 25 w7 w.heap.size (.int .i64 0) (.int .i64 0) (.int .i64 0) (.int .i64 0) (.bool false) (.int .i64 0) (.int .i64 0) := (hgr.block w.heap.size (heap_lt HR5.out) (fun e => HQW.out (by cases e; rfl))).trans HR5.out
  have hcl : w7.cell? ⟨b, 5, none⟩ = some (.int .i64 0) := by rw [cell_of_heap hX]; rfl
  have hfz : w7.frozen? ⟨b, 5, none⟩ = false := frozen_of_heap hX
  obtain ⟨u6, hu⟩ : ∃ u, w7.setCell ⟨b, 5, none⟩ (.int .i64 y5) = u := ⟨_, rfl⟩
  have hX2 : At7 25 (w7.setCell ⟨b, 5, none⟩ (.int .i64 y5)) b (.int .i64 y0) (.int .i64 y1) (.int .i64 y2) (.int .i64 y3) (.bool y4) (.int .i64 y5) (.int .i64 0) := Lib.heap_setCell_same (i := 5) hX _
  have hR2 : At7 25 (w7.setCell ⟨b, 5, none⟩ (.int .i64 y5)) w.heap.size (.int .i64 0) (.int .i64 0) (.int .i64 0) (.int .i64 0) (.bool false) (.int .i64 0) (.int .i64 0) := (heap_setCell_other _ _ _ _ HBR.out).trans hR
  have hQ2 : RqAt (w7.setCell ⟨b, 5, none⟩ (.int .i64 y5)) q st6 := RqAt.keep hrd (heap_setCell_other _ _ _ _ HQB.out)
  have hG2 := grown_store (grown_trans HG5.out hgr) HBW.out 5 (.int .i64 y5)
  rw [hu] at hX2 hR2 hQ2 hG2
  have HX6 := Lib.hid hX2
  have HR6 := Lib.hid hR2
  have HQ6 := Lib.hid hQ2
  have HG6 := Lib.hid hG2
  have HU := Lib.hid hu
  clear hX hR hX2 hR2 hQ2 hG2 hu hrd hgr CS HX5 HR5 HQ5 HG5
  go_wp2_with fail
  rw [show w7.setCell ⟨b, 5, none⟩ (.int .i64 y5) = u6 from HU.out]
  clear hcl hfz HU
  have CS := Lib.hid (wide_is q st6 st7 y6 S6.out u6 HQ6.out)
  refine CS.out.mono ?_
  rintro e w7 ⟨rfl, hrd, hgr⟩
  have hX : At7 25 w7 b (.int .i64 y0) (.int .i64 y1) (.int .i64 y2) (.int .i64 y3) (.bool y4) (.int .i64 y5) (.int .i64 0) := (hgr.block b (heap_lt HX6.out) (fun e => HQB.out (by cases e; rfl))).trans HX6.out
  have hR : At7 25 w7 w.heap.size (.int .i64 0) (.int .i64 0) (.int .i64 0) (.int .i64 0) (.bool false) (.int .i64 0) (.int .i64 0) := (hgr.block w.heap.size (heap_lt HR6.out) (fun e => HQW.out (by cases e; rfl))).trans HR6.out
  have hcl : w7.cell? ⟨b, 6, none⟩ = some (.int .i64 0) := by rw [cell_of_heap hX]; rfl
  have hfz : w7.frozen? ⟨b, 6, none⟩ = false := frozen_of_heap hX
  obtain ⟨u7, hu⟩ : ∃ u, w7.setCell ⟨b, 6, none⟩ (.int .i64 y6) = u := ⟨_, rfl⟩
  have hX2 : At7 25 (w7.setCell ⟨b, 6, none⟩ (.int .i64 y6)) b (.int .i64 y0) (.int .i64 y1) (.int .i64 y2) (.int .i64 y3) (.bool y4) (.int .i64 y5) (.int .i64 y6) := Lib.heap_setCell_same (i := 6) hX _
  have hR2 : At7 25 (w7.setCell ⟨b, 6, none⟩ (.int .i64 y6)) w.heap.size (.int .i64 0) (.int .i64 0) (.int .i64 0) (.int .i64 0) (.bool false) (.int .i64 0) (.int .i64 0) := (heap_setCell_other _ _ _ _ HBR.out).trans hR
  have hQ2 : RqAt (w7.setCell ⟨b, 6, none⟩ (.int .i64 y6)) q st7 := RqAt.keep hrd (heap_setCell_other _ _ _ _ HQB.out)
  have hG2 := grown_store (grown_trans HG6.out hgr) HBW.out 6 (.int .i64 y6)
  rw [hu] at hX2 hR2 hQ2 hG2
  have HX7 := Lib.hid hX2
  have HR7 := Lib.hid hR2
  have HQ7 := Lib.hid hQ2
  have HG7 := Lib.hid hG2
  have HU := Lib.hid hu
  clear hX hR hX2 hR2 hQ2 hG2 hu hrd hgr CS HX6 HR6 HQ6 HG6
  have hub : w7.setCell ⟨b, 6, none⟩ (.int .i64 y6) = u7 := HU.out
  obtain ⟨z, hz, _⟩ := HQ7.out
  have hbad : (w7.setCell ⟨b, 6, none⟩ (.int .i64 y6)).cell? ⟨q, 1, none⟩ = some (.bool v) := by rw [hub, cell_of_heap hz, ← HV.out]; rfl
  obtain ⟨d0, d1, d2, d3, d4, d5, d6⟩ := cells7 HX7.out
  obtain ⟨p0, p1, p2, p3, p4, p5, p6⟩ := cells7 HR7.out
  obtain ⟨f0, f1, f2, f3, f4, f5, f6⟩ := free7 HR7.out
  clear hz
  cases v with
  | false =>
    cases HX.out rfl
    rw [← hub] at d0 d1 d2 d3 d4 d5 d6 p0 p1 p2 p3 p4 p5 p6 f0 f1 f2 f3 f4 f5 f6
    clear hub
    go_wp2_with fail
    rw [show w7.setCell ⟨b, 6, none⟩ (.int .i64 r6) = u7 from HU.out]
    have HZ := Lib.hid (heap_put7 HR7.out (.int .i64 r0) (.int .i64 r1) (.int .i64 r2) (.int .i64 r3) (.bool r4) (.int .i64 r5) (.int .i64 r6))
    have HQ : Hid (RqAt (put7 u7 w.heap.size (.int .i64 r0) (.int .i64 r1) (.int .i64 r2) (.int .i64 r3) (.bool r4) (.int .i64 r5) (.int .i64 r6)) q st7) := RqAt.keep HQ7.out (put7_other _ _ _ _ _ _ _ (fun e => HQW.out (by rw [e])))
    have HG8 := Lib.hid (grown_below HG7.out (below_put7 (Below.refl w.heap.size u7) (Nat.le_refl _) (.int .i64 r0) (.int .i64 r1) (.int .i64 r2) (.int .i64 r3) (.bool r4) (.int .i64 r5) (.int .i64 r6)) (.inr trivial))
    exact bodyPost_ret (results_r (j := 2) rfl _ _ w.heap.size _ _ _ _ _ _ _ rfl HZ.out) rfl ⟨rfl, HQ.out, HG8.out⟩
  | true =>
    cases HN.out rfl
    rw [← hub] at d0 d1 d2 d3 d4 d5 d6 p0 p1 p2 p3 p4 p5 p6 f0 f1 f2 f3 f4 f5 f6
    clear hub
    go_wp2_with fail
    rw [show w7.setCell ⟨b, 6, none⟩ (.int .i64 y6) = u7 from HU.out]
    have HZ := Lib.hid (heap_put7 HR7.out (.int .i64 0) (.int .i64 0) (.int .i64 0) (.int .i64 0) (.bool false) (.int .i64 0) (.int .i64 0))
    have HQ : Hid (RqAt (put7 u7 w.heap.size (.int .i64 0) (.int .i64 0) (.int .i64 0) (.int .i64 0) (.bool false) (.int .i64 0) (.int .i64 0)) q st7) := RqAt.keep HQ7.out (put7_other _ _ _ _ _ _ _ (fun e => HQW.out (by rw [e])))
    have HG8 := Lib.hid (grown_below HG7.out (below_put7 (Below.refl w.heap.size u7) (Nat.le_refl _) (.int .i64 0) (.int .i64 0) (.int .i64 0) (.int .i64 0) (.bool false) (.int .i64 0) (.int .i64 0)) (.inr trivial))
    exact bodyPost_ret (results_r (j := 2) rfl _ _ w.heap.size _ _ _ _ _ _ _ rfl HZ.out) rfl ⟨rfl, HQ.out, HG8.out⟩
end Go.Proofs.Ytamcidlkbhanfaa.Msg
