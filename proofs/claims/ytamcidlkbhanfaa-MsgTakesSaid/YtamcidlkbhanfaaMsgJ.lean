/-
  The contract of the document's Take: any text; what was there stays as it was.
-/
import Derived.Test.YtamcidlkbhanfaaMsgI
import Derived.Test.YtamcidlkbhanfaaMsgBr
import Derived.Test.YtamcidlkbhanfaaMsgF
set_option linter.unusedVariables false
set_option linter.unusedSimpArgs false
set_option maxRecDepth 4000
namespace Go.Proofs.Ytamcidlkbhanfaa.Msg
open Go.RowKit MsgP
open Go.Proofs.Ytamcidlkbhanfaa.Kt

open Wire (RqAt)
open OutP (en0 serviceV)
open WireP (rdInt rdFlag done)
structure Stop (p : Prop) : Prop where
  out : p
/-- The walk stands where two are compared. -/
theorem stop_neq {P : Program} {ops : Array Oper} {rest : List Oper} {op : Oper} {a : Act} {w : World} {Q : Exit → Act → World → Prop} {t t' : TypeId} {x y : Operand} (ho : op.op = .binOp .neq t x y t') (h : Stop (wpList P ops Q (op :: rest) a w)) : wpList P ops Q (op :: rest) a w := h.out
theorem rq_below {w w' : World} {b B : Nat} {st0 : Rd} (h : w.grownBy w' (some b)) (h0 : RqAt w b st0) (hB : B ≤ b) : Below B w w' := Wire.below_of_grown h hB h0.lt

set_option maxHeartbeats 4000000 in
theorem rtake_asked (s : ByteArray) (m0 : Int) (m1 : Bool) (m2 : Int) (y0 : Int) (y1 : Int) (y2 : Int) (y3 : Bool) (y4 : Int) (y5 : Int) (y6 : Bool) (s0 : Int) (s1 : Int) (s2 : Int) (s3 : Int) (s4 : Bool) (s5 : Int) (s6 : Int) (er : Int) (i0 n0 : Int) (st1 st2 st3 : Rd) (h1 : wide (some s.data.toList) = (i0, st1)) (h2 : wide st1 = (n0, st2)) (h3 : rdFlag st2 = (true, st3)) (hx : gotV (takeV s.data.toList) = ⟨m0, m1, m2, ⟨y0, y1, y2, y3, y4, y5, y6⟩, ⟨s0, s1, s2, s3, s4, s5, s6⟩⟩) (he : errV (takeV s.data.toList) = er) (hk : s.size ≤ 4398046511104) (w : World) :
    Calls Try.prog 18 #[.string s] w fun e w' => e = .returned (.tuple #[.agg #[.int .i64 m0, .bool m1, .int .i64 m2, .int .i64 y0, .int .i64 y1, .int .i64 y2, .bool y3, .int .i64 y4, .int .i64 y5, .bool y6, .int .i64 s0, .int .i64 s1, .int .i64 s2, .int .i64 s3, .bool s4, .int .i64 s5, .int .i64 s6], .int .i64 er]) ∧ Below w.heap.size w w' := by
  have HP : Hid (rdV s.data.toList = (i0, (restV n0 (true, st3)).1, (restV n0 (true, st3)).2)) := by
    show _ = _
    rw [rdV_eq]
    simp only [h1, h2, h3]
  have HX := Lib.hid hx
  have HE := Lib.hid he
  clear hx he
  have hR0 := (at17_new 27 w (.int .i64 0) (.bool false) (.int .i64 0) (.int .i64 0) (.int .i64 0) (.int .i64 0) (.bool false) (.int .i64 0) (.int .i64 0) (.bool false) (.int .i64 0) (.int .i64 0) (.int .i64 0) (.int .i64 0) (.bool false) (.int .i64 0) (.int .i64 0)).alloc (.cells #[.string s, .bool false] 43)
  have hb0 := ((Below.refl w.heap.size w).alloc (Nat.le_refl _) (.cells #[.int .i64 0, .bool false, .int .i64 0, .int .i64 0, .int .i64 0, .int .i64 0, .bool false, .int .i64 0, .int .i64 0, .bool false, .int .i64 0, .int .i64 0, .int .i64 0, .int .i64 0, .bool false, .int .i64 0, .int .i64 0] 27)).alloc (by rw [World.size_alloc]; omega) (.cells #[.string s, .bool false] 43)
  have hsz : (w.alloc (.cells #[.int .i64 0, .bool false, .int .i64 0, .int .i64 0, .int .i64 0, .int .i64 0, .bool false, .int .i64 0, .int .i64 0, .bool false, .int .i64 0, .int .i64 0, .int .i64 0, .int .i64 0, .bool false, .int .i64 0, .int .i64 0] 27)).heap.size = w.heap.size + 1 := by rw [World.size_alloc]
  have hq0 : RqAt ((w.alloc (.cells #[.int .i64 0, .bool false, .int .i64 0, .int .i64 0, .int .i64 0, .int .i64 0, .bool false, .int .i64 0, .int .i64 0, .bool false, .int .i64 0, .int .i64 0, .int .i64 0, .int .i64 0, .bool false, .int .i64 0, .int .i64 0] 27)).alloc (.cells #[.string s, .bool false] 43)) (w.alloc (.cells #[.int .i64 0, .bool false, .int .i64 0, .int .i64 0, .int .i64 0, .int .i64 0, .bool false, .int .i64 0, .int .i64 0, .bool false, .int .i64 0, .int .i64 0, .int .i64 0, .int .i64 0, .bool false, .int .i64 0, .int .i64 0] 27)).heap.size (some s.data.toList) := ⟨s, heap_alloc_new _ _, rfl, hk⟩
  rw [hsz] at hq0
  obtain ⟨u, hu⟩ : ∃ u, ((w.alloc (.cells #[.int .i64 0, .bool false, .int .i64 0, .int .i64 0, .int .i64 0, .int .i64 0, .bool false, .int .i64 0, .int .i64 0, .bool false, .int .i64 0, .int .i64 0, .int .i64 0, .int .i64 0, .bool false, .int .i64 0, .int .i64 0] 27)).alloc (.cells #[.string s, .bool false] 43)) = u := ⟨_, rfl⟩
  obtain ⟨q, hq⟩ : ∃ q, w.heap.size + 1 = q := ⟨_, rfl⟩
  rw [hu] at hR0 hb0 hq0
  rw [hq] at hq0
  have HR1 := Lib.hid hR0
  have HB1 := Lib.hid hb0
  have HRD1 := Lib.hid hq0
  have HU := Lib.hid hu
  have HQ := Lib.hid hq
  have HQS : Hid (q = w.heap.size + 1) := hq.symm
  have C1 := Lib.hid (wide_is q _ st1 i0 h1 u hq0)
  have H2 := Lib.hid h2
  have H3 := Lib.hid h3
  clear hR0 hb0 hsz hu hq hq0 h1 h2 h3
  go_enter Try.func18, Try.ntmps18
  go_wp2_with fail
  rw [show ((w.alloc (.cells #[.int .i64 0, .bool false, .int .i64 0, .int .i64 0, .int .i64 0, .int .i64 0, .bool false, .int .i64 0, .int .i64 0, .bool false, .int .i64 0, .int .i64 0, .int .i64 0, .int .i64 0, .bool false, .int .i64 0, .int .i64 0] 27)).alloc (.cells #[.string s, .bool false] 43)) = u from HU.out, show w.heap.size + 1 = q from HQ.out]
  refine C1.out.mono ?_
  rintro e w2 ⟨rfl, hrd, hgr⟩
  have HR2 : Hid (At17 27 w2 w.heap.size (.int .i64 0) (.bool false) (.int .i64 0) (.int .i64 0) (.int .i64 0) (.int .i64 0) (.bool false) (.int .i64 0) (.int .i64 0) (.bool false) (.int .i64 0) (.int .i64 0) (.int .i64 0) (.int .i64 0) (.bool false) (.int .i64 0) (.int .i64 0)) := (hgr.block w.heap.size (heap_lt HR1.out) (fun e => by cases e; have := HQS.out; omega)).trans HR1.out
  have HB2 := Lib.hid (HB1.out.trans (rq_below hgr HRD1.out (by have := HQS.out; omega)))
  have C2 := Lib.hid (wide_is q st1 st2 n0 H2.out w2 hrd)
  have HRD2 := Lib.hid hrd
  clear hrd hgr C1 HR1 HB1 HRD1
  go_wp2_with fail
  refine C2.out.mono ?_
  rintro e w3 ⟨rfl, hrd, hgr⟩
  have HR3 : Hid (At17 27 w3 w.heap.size (.int .i64 0) (.bool false) (.int .i64 0) (.int .i64 0) (.int .i64 0) (.int .i64 0) (.bool false) (.int .i64 0) (.int .i64 0) (.bool false) (.int .i64 0) (.int .i64 0) (.int .i64 0) (.int .i64 0) (.bool false) (.int .i64 0) (.int .i64 0)) := (hgr.block w.heap.size (heap_lt HR2.out) (fun e => by cases e; have := HQS.out; omega)).trans HR2.out
  have HB3 := Lib.hid (HB2.out.trans (rq_below hgr HRD2.out (by have := HQS.out; omega)))
  have C3 := Lib.hid (flag_rq q st2 st3 true H3.out w3 hrd)
  have HRD3 := Lib.hid hrd
  clear hrd hgr C2 HR2 HB2 HRD2
  go_wp2_with fail
  refine C3.out.mono ?_
  rintro e w4 ⟨rfl, hrd, hgr⟩
  have HR4 : Hid (At17 27 w4 w.heap.size (.int .i64 0) (.bool false) (.int .i64 0) (.int .i64 0) (.int .i64 0) (.int .i64 0) (.bool false) (.int .i64 0) (.int .i64 0) (.bool false) (.int .i64 0) (.int .i64 0) (.int .i64 0) (.int .i64 0) (.bool false) (.int .i64 0) (.int .i64 0)) := (hgr.block w.heap.size (heap_lt HR3.out) (fun e => by cases e; have := HQS.out; omega)).trans HR3.out
  have HB4 := Lib.hid (HB3.out.trans (rq_below hgr HRD3.out (by have := HQS.out; omega)))
  have HRD4 := Lib.hid hrd
  clear hrd hgr C3 HR3 HB3 HRD3
  obtain ⟨a0, a1, a2, a3, a4, a5, a6, ha⟩ : ∃ a0 a1 a2 a3 a4 a5 a6, takeE st3 = ⟨a0, a1, a2, a3, a4, a5, a6⟩ := Outbox.en_split _
  obtain ⟨st4, h4⟩ : ∃ t, (rdE st3).2 = t := ⟨_, rfl⟩
  obtain ⟨sv, hsv⟩ : ∃ s, serviceV a4 = s := ⟨_, rfl⟩
  have hp := HP.out
  unfold restV at hp
  simp only [if_true, ha, h4] at hp
  obtain ⟨d, hd⟩ : ∃ d, done st4 = d := ⟨_, rfl⟩
  obtain ⟨fv, hfv⟩ : ∃ f, fitV ⟨n0, true, sv, ⟨a0, a1, a2, a3, a4, a5, a6⟩, rp0⟩ = f := ⟨_, rfl⟩
  have HY : Hid (i0 = 1 → d = true → fv = true → (⟨n0, true, sv, ⟨a0, a1, a2, a3, a4, a5, a6⟩, rp0⟩ : Ev) = ⟨m0, m1, m2, ⟨y0, y1, y2, y3, y4, y5, y6⟩, ⟨s0, s1, s2, s3, s4, s5, s6⟩⟩ ∧ er = 0) := by
    intro e0 e1 e2
    have hg : takeV s.data.toList = some ⟨n0, true, sv, ⟨a0, a1, a2, a3, a4, a5, a6⟩, rp0⟩ := by
      unfold takeV
      rw [hp]
      simp only
      rw [hsv, hd, hfv, if_pos ⟨e0, e1, e2⟩]
    rw [← HX.out, ← HE.out, hg]
    exact ⟨rfl, rfl⟩
  have HN : Hid ((¬ i0 = 1) ∨ d = false ∨ fv = false → (⟨m0, m1, m2, ⟨y0, y1, y2, y3, y4, y5, y6⟩, ⟨s0, s1, s2, s3, s4, s5, s6⟩⟩ : Ev) = ev0 ∧ er = 7) := by
    intro e1
    have hg : takeV s.data.toList = none := by
      unfold takeV
      rw [hp]
      simp only
      rw [hsv, hd, hfv, if_neg (by rintro ⟨g0, g1, g2⟩; rcases e1 with e | e | e <;> simp_all)]
    rw [← HX.out, ← HE.out, hg]
    exact ⟨rfl, rfl⟩
  have HD := Lib.hid hd
  have HFV := Lib.hid hfv
  have hX4 := at17_new 27 w4 (.int .i64 n0) (.bool true) (.int .i64 0) (.int .i64 0) (.int .i64 0) (.int .i64 0) (.bool false) (.int .i64 0) (.int .i64 0) (.bool false) (.int .i64 0) (.int .i64 0) (.int .i64 0) (.int .i64 0) (.bool false) (.int .i64 0) (.int .i64 0)
  have hR4 := HR4.out.alloc (.cells #[.int .i64 n0, .bool true, .int .i64 0, .int .i64 0, .int .i64 0, .int .i64 0, .bool false, .int .i64 0, .int .i64 0, .bool false, .int .i64 0, .int .i64 0, .int .i64 0, .int .i64 0, .bool false, .int .i64 0, .int .i64 0] 27)
  have hb4 := HB4.out.alloc HB4.out.size (.cells #[.int .i64 n0, .bool true, .int .i64 0, .int .i64 0, .int .i64 0, .int .i64 0, .bool false, .int .i64 0, .int .i64 0, .bool false, .int .i64 0, .int .i64 0, .int .i64 0, .int .i64 0, .bool false, .int .i64 0, .int .i64 0] 27)
  have hrd4 := RqAt.below HRD4.out ((Below.refl _ w4).alloc (Nat.le_refl _) (.cells #[.int .i64 n0, .bool true, .int .i64 0, .int .i64 0, .int .i64 0, .int .i64 0, .bool false, .int .i64 0, .int .i64 0, .bool false, .int .i64 0, .int .i64 0, .int .i64 0, .int .i64 0, .bool false, .int .i64 0, .int .i64 0] 27))
  obtain ⟨b, hb⟩ : ∃ b, w4.heap.size = b := ⟨_, rfl⟩
  obtain ⟨u4, hu4⟩ : ∃ u, w4.alloc (.cells #[.int .i64 n0, .bool true, .int .i64 0, .int .i64 0, .int .i64 0, .int .i64 0, .bool false, .int .i64 0, .int .i64 0, .bool false, .int .i64 0, .int .i64 0, .int .i64 0, .int .i64 0, .bool false, .int .i64 0, .int .i64 0] 27) = u := ⟨_, rfl⟩
  rw [hu4] at hX4 hR4 hb4 hrd4
  rw [hb] at hX4
  have HBQ : Hid (q < b) := by show _ < _; rw [← hb]; exact HRD4.out.lt
  have HRB : Hid (w.heap.size ≤ b) := by show _ ≤ _; have := HQS.out; have := HBQ.out; omega
  have HRX : Hid (w.heap.size ≠ b) := by show _ ≠ _; have := HQS.out; have := HBQ.out; omega
  have HX4 := Lib.hid hX4
  have HR5 := Lib.hid hR4
  have HB5 := Lib.hid hb4
  have HBN := Lib.hid hb
  have HU4 := Lib.hid hu4
  have HRD5 := Lib.hid hrd4
  have CS := Lib.hid (fun W => Outbox.rservice_is a4 sv hsv W)
  have CT := Lib.hid (rtakee_is q st3 st4 a0 a1 a2 a3 a4 a5 a6 ha h4 u4 hrd4)
  clear hX4 hR4 hb4 hrd4 hb hu4 hd hfv hsv hp ha h4 HP HX HE
  go_wp2_with fail
  rw [show w4.alloc (.cells #[.int .i64 n0, .bool true, .int .i64 0, .int .i64 0, .int .i64 0, .int .i64 0, .bool false, .int .i64 0, .int .i64 0, .bool false, .int .i64 0, .int .i64 0, .int .i64 0, .int .i64 0, .bool false, .int .i64 0, .int .i64 0] 27) = u4 from HU4.out, show w4.heap.size = b from HBN.out]
  refine CT.out.mono ?_
  rintro e w5 ⟨rfl, hrd, hgr⟩
  have hX5 : At17 27 w5 b (.int .i64 n0) (.bool true) (.int .i64 0) (.int .i64 0) (.int .i64 0) (.int .i64 0) (.bool false) (.int .i64 0) (.int .i64 0) (.bool false) (.int .i64 0) (.int .i64 0) (.int .i64 0) (.int .i64 0) (.bool false) (.int .i64 0) (.int .i64 0) := (hgr.block b (heap_lt HX4.out) (fun e => by cases e; exact Nat.lt_irrefl _ HBQ.out)).trans HX4.out
  have HR6 : Hid (At17 27 w5 w.heap.size (.int .i64 0) (.bool false) (.int .i64 0) (.int .i64 0) (.int .i64 0) (.int .i64 0) (.bool false) (.int .i64 0) (.int .i64 0) (.bool false) (.int .i64 0) (.int .i64 0) (.int .i64 0) (.int .i64 0) (.bool false) (.int .i64 0) (.int .i64 0)) := (hgr.block w.heap.size (heap_lt HR5.out) (fun e => by cases e; have := HQS.out; omega)).trans HR5.out
  have hb5 := HB5.out.trans (rq_below hgr HRD5.out (by have := HQS.out; omega))
  obtain ⟨q0, q1, q2, q3, q4, q5, q6, q7, q8, q9, q10, q11, q12, q13, q14, q15, q16⟩ := cells17 hX5
  obtain ⟨f0, f1, f2, f3, f4, f5, f6, f7, f8, f9, f10, f11, f12, f13, f14, f15, f16⟩ := free17 hX5
  have hX6 := heap_setE hX5 (.int .i64 a0) (.int .i64 a1) (.int .i64 a2) (.bool a3) (.int .i64 a4) (.int .i64 a5) (.bool a6)
  have hR6 : At17 27 (setE w5 b (.int .i64 a0) (.int .i64 a1) (.int .i64 a2) (.bool a3) (.int .i64 a4) (.int .i64 a5) (.bool a6)) w.heap.size (.int .i64 0) (.bool false) (.int .i64 0) (.int .i64 0) (.int .i64 0) (.int .i64 0) (.bool false) (.int .i64 0) (.int .i64 0) (.bool false) (.int .i64 0) (.int .i64 0) (.int .i64 0) (.int .i64 0) (.bool false) (.int .i64 0) (.int .i64 0) := (setE_other _ _ _ _ _ _ _ HRX.out).trans HR6.out
  have hb6 := below_setE hb5 HRB.out (.int .i64 a0) (.int .i64 a1) (.int .i64 a2) (.bool a3) (.int .i64 a4) (.int .i64 a5) (.bool a6)
  have hrd6 : RqAt (setE w5 b (.int .i64 a0) (.int .i64 a1) (.int .i64 a2) (.bool a3) (.int .i64 a4) (.int .i64 a5) (.bool a6)) q st4 := RqAt.keep hrd (setE_other _ _ _ _ _ _ _ (Nat.ne_of_lt HBQ.out))
  have k1 : (((((((w5.setCell ⟨b, 3, none⟩ (.int .i64 a0)).setCell ⟨b, 4, none⟩ (.int .i64 a1)).setCell ⟨b, 5, none⟩ (.int .i64 a2)).setCell ⟨b, 6, none⟩ (.bool a3)).setCell ⟨b, 7, none⟩ (.int .i64 a4)).setCell ⟨b, 8, none⟩ (.int .i64 a5)).setCell ⟨b, 9, none⟩ (.bool a6)).cell? ⟨b, 7, none⟩ = some (.int .i64 a4) := by rw [show (((((((w5.setCell ⟨b, 3, none⟩ (.int .i64 a0)).setCell ⟨b, 4, none⟩ (.int .i64 a1)).setCell ⟨b, 5, none⟩ (.int .i64 a2)).setCell ⟨b, 6, none⟩ (.bool a3)).setCell ⟨b, 7, none⟩ (.int .i64 a4)).setCell ⟨b, 8, none⟩ (.int .i64 a5)).setCell ⟨b, 9, none⟩ (.bool a6)).cell? _ = _ from cell_of_heap hX6]; rfl
  have k2 : (((((((w5.setCell ⟨b, 3, none⟩ (.int .i64 a0)).setCell ⟨b, 4, none⟩ (.int .i64 a1)).setCell ⟨b, 5, none⟩ (.int .i64 a2)).setCell ⟨b, 6, none⟩ (.bool a3)).setCell ⟨b, 7, none⟩ (.int .i64 a4)).setCell ⟨b, 8, none⟩ (.int .i64 a5)).setCell ⟨b, 9, none⟩ (.bool a6)).cell? ⟨b, 2, none⟩ = some (.int .i64 0) := by rw [show (((((((w5.setCell ⟨b, 3, none⟩ (.int .i64 a0)).setCell ⟨b, 4, none⟩ (.int .i64 a1)).setCell ⟨b, 5, none⟩ (.int .i64 a2)).setCell ⟨b, 6, none⟩ (.bool a3)).setCell ⟨b, 7, none⟩ (.int .i64 a4)).setCell ⟨b, 8, none⟩ (.int .i64 a5)).setCell ⟨b, 9, none⟩ (.bool a6)).cell? _ = _ from cell_of_heap hX6]; rfl
  have k3 : (((((((w5.setCell ⟨b, 3, none⟩ (.int .i64 a0)).setCell ⟨b, 4, none⟩ (.int .i64 a1)).setCell ⟨b, 5, none⟩ (.int .i64 a2)).setCell ⟨b, 6, none⟩ (.bool a3)).setCell ⟨b, 7, none⟩ (.int .i64 a4)).setCell ⟨b, 8, none⟩ (.int .i64 a5)).setCell ⟨b, 9, none⟩ (.bool a6)).frozen? ⟨b, 2, none⟩ = false := frozen_of_heap hX6
  have hX8 := heap_setS hX6 (.int .i64 sv)
  have hR8 : At17 27 (setS (setE w5 b (.int .i64 a0) (.int .i64 a1) (.int .i64 a2) (.bool a3) (.int .i64 a4) (.int .i64 a5) (.bool a6)) b (.int .i64 sv)) w.heap.size (.int .i64 0) (.bool false) (.int .i64 0) (.int .i64 0) (.int .i64 0) (.int .i64 0) (.bool false) (.int .i64 0) (.int .i64 0) (.bool false) (.int .i64 0) (.int .i64 0) (.int .i64 0) (.int .i64 0) (.bool false) (.int .i64 0) (.int .i64 0) := (setS_other _ HRX.out).trans hR6
  have hb8 := below_setS hb6 HRB.out (.int .i64 sv)
  have hrd8 : RqAt (setS (setE w5 b (.int .i64 a0) (.int .i64 a1) (.int .i64 a2) (.bool a3) (.int .i64 a4) (.int .i64 a5) (.bool a6)) b (.int .i64 sv)) q st4 := RqAt.keep hrd6 (setS_other _ (Nat.ne_of_lt HBQ.out))
  obtain ⟨u6, hu6⟩ : ∃ u, setS (setE w5 b (.int .i64 a0) (.int .i64 a1) (.int .i64 a2) (.bool a3) (.int .i64 a4) (.int .i64 a5) (.bool a6)) b (.int .i64 sv) = u := ⟨_, rfl⟩
  rw [hu6] at hX8 hR8 hb8 hrd8
  have HX8 := Lib.hid hX8
  have HR8 := Lib.hid hR8
  have HB8 := Lib.hid hb8
  have HRD8 := Lib.hid hrd8
  have HU6 := Lib.hid hu6
  have CD0 := Wire.rqdone_any q st4 u6 hrd8
  rw [HD.out] at CD0
  have CD := Lib.hid CD0
  have CF := Lib.hid (fun W => rfit_is n0 true sv a0 a1 a2 a3 a4 a5 a6 0 0 0 0 false 0 0 fv HFV.out W)
  clear hX5 hX6 hR6 hb6 hrd6 hb5 hrd hgr hX8 hR8 hb8 hrd8 hu6 CD0 CT HX4 HR5 HB5 HRD5 HR6
  by_cases hv : i0 = 1
  rotate_left
  · have hne : (i0 != 1) = true := bne_iff_ne.2 hv
    obtain ⟨e1, e2⟩ := HN.out (.inl hv)
    cases e1
    cases e2
    have HRE := Lib.hid HR8.out
    have HBE := Lib.hid HB8.out
    go_wp2_with fail
    refine (CS.out _).mono ?_
    rintro e w6 ⟨rfl, rfl⟩
    go_wp2_with (refine stop_neq rfl ?_)
    rw [show (((((((w5.setCell ⟨b, 3, none⟩ (.int .i64 a0)).setCell ⟨b, 4, none⟩ (.int .i64 a1)).setCell ⟨b, 5, none⟩ (.int .i64 a2)).setCell ⟨b, 6, none⟩ (.bool a3)).setCell ⟨b, 7, none⟩ (.int .i64 a4)).setCell ⟨b, 8, none⟩ (.int .i64 a5)).setCell ⟨b, 9, none⟩ (.bool a6)).setCell ⟨b, 2, none⟩ (.int .i64 sv) = u6 from HU6.out]
    refine ⟨?_⟩
    clear k1 k2 k3 q0 f0 q1 f1 q2 f2 q3 f3 q4 f4 q5 f5 q6 f6 q7 f7 q8 f8 q9 f9 q10 f10 q11 f11 q12 f12 q13 f13 q14 f14 q15 f15 q16 f16
    go_wp2_with (refine wpList_plain rfl fun K hK => ?_; go_simp; refine hK _ _ ?_; clear hK K; refine st17 HRE.out (.tmp 2) (.tmp 46) rfl rfl rfl rfl rfl ?_; simp only [Act.put, List.setIfInBounds_toArray, List.set_cons_succ, List.set_cons_zero])
    have HZ := Lib.hid (heap_put17 HRE.out (.int .i64 0) (.bool false) (.int .i64 0) (.int .i64 0) (.int .i64 0) (.int .i64 0) (.bool false) (.int .i64 0) (.int .i64 0) (.bool false) (.int .i64 0) (.int .i64 0) (.int .i64 0) (.int .i64 0) (.bool false) (.int .i64 0) (.int .i64 0))
    have HBZ := Lib.hid (below_put17 HBE.out (Nat.le_refl _) (.int .i64 0) (.bool false) (.int .i64 0) (.int .i64 0) (.int .i64 0) (.int .i64 0) (.bool false) (.int .i64 0) (.int .i64 0) (.bool false) (.int .i64 0) (.int .i64 0) (.int .i64 0) (.int .i64 0) (.bool false) (.int .i64 0) (.int .i64 0))
    exact bodyPost_ret (results_v (j := 2) (k := 3) rfl _ _ w.heap.size _ _ _ _ _ _ _ _ _ _ _ _ _ _ _ _ _ rfl HZ.out) rfl ⟨rfl, HBZ.out⟩
  subst hv
  have hne : ((1 : Int) != 1) = false := rfl
  go_wp2_with fail
  refine (CS.out _).mono ?_
  rintro e w6 ⟨rfl, rfl⟩
  go_wp2_with fail
  rw [show (((((((w5.setCell ⟨b, 3, none⟩ (.int .i64 a0)).setCell ⟨b, 4, none⟩ (.int .i64 a1)).setCell ⟨b, 5, none⟩ (.int .i64 a2)).setCell ⟨b, 6, none⟩ (.bool a3)).setCell ⟨b, 7, none⟩ (.int .i64 a4)).setCell ⟨b, 8, none⟩ (.int .i64 a5)).setCell ⟨b, 9, none⟩ (.bool a6)).setCell ⟨b, 2, none⟩ (.int .i64 sv) = u6 from HU6.out]
  clear k1 k2 k3 q0 f0 q1 f1 q2 f2 q3 f3 q4 f4 q5 f5 q6 f6 q7 f7 q8 f8 q9 f9 q10 f10 q11 f11 q12 f12 q13 f13 q14 f14 q15 f15 q16 f16
  refine CD.out.mono ?_
  rintro e w7 ⟨rfl, hb⟩
  have HX9 := Lib.hid (HX8.out.keep hb)
  have HRE := Lib.hid (HR8.out.keep hb)
  have HBE := Lib.hid (below_keep HB8.out hb HB8.out.size)
  clear hb HX8 HR8 HB8 CD
  cases d with
  | false =>
    obtain ⟨e1, e2⟩ := HN.out (.inr (.inl (by first | rfl | trivial)))
    cases e1
    cases e2
    go_wp2_with (refine wpList_plain rfl fun K hK => ?_; go_simp; refine hK _ _ ?_; clear hK K; refine st17 HRE.out (.tmp 2) (.tmp 46) rfl rfl rfl rfl rfl ?_; simp only [Act.put, List.setIfInBounds_toArray, List.set_cons_succ, List.set_cons_zero])
    have HZ := Lib.hid (heap_put17 HRE.out (.int .i64 0) (.bool false) (.int .i64 0) (.int .i64 0) (.int .i64 0) (.int .i64 0) (.bool false) (.int .i64 0) (.int .i64 0) (.bool false) (.int .i64 0) (.int .i64 0) (.int .i64 0) (.int .i64 0) (.bool false) (.int .i64 0) (.int .i64 0))
    have HBZ := Lib.hid (below_put17 HBE.out (Nat.le_refl _) (.int .i64 0) (.bool false) (.int .i64 0) (.int .i64 0) (.int .i64 0) (.int .i64 0) (.bool false) (.int .i64 0) (.int .i64 0) (.bool false) (.int .i64 0) (.int .i64 0) (.int .i64 0) (.int .i64 0) (.bool false) (.int .i64 0) (.int .i64 0))
    exact bodyPost_ret (results_v (j := 2) (k := 3) rfl _ _ w.heap.size _ _ _ _ _ _ _ _ _ _ _ _ _ _ _ _ _ rfl HZ.out) rfl ⟨rfl, HBZ.out⟩
  | true =>
    go_simp
    rename_i K1 hK1
    refine hK1 _ _ ?_
    clear hK1 K1
    refine wpList_step fun K hK => ?_
    rw [if_pos (by kernel_rfl)]
    go_simp
    refine hK _ _ ?_
    clear hK K
    iterate 2 (refine wpList_plain rfl fun K hK => ?_; go_simp; refine hK _ _ ?_; clear hK K)
    refine ld17 HX9.out (.tmp 6) (by kernel_rfl) rfl rfl ?_
    simp only [Act.put, List.setIfInBounds_toArray, List.set_cons_succ, List.set_cons_zero]
    go_wp2_with fail
    refine (CF.out _).mono ?_
    rintro e w8 ⟨rfl, hb⟩
    have HXA := Lib.hid (HX9.out.keep hb)
    have HRA := Lib.hid (HRE.out.keep hb)
    have HBA := Lib.hid (below_keep HBE.out hb HBE.out.size)
    clear hb HX9 HRE HBE CF
    have HRE := Lib.hid HRA.out
    have HBE := Lib.hid HBA.out
    clear HRA HBA
    cases fv with
    | false =>
      obtain ⟨e1, e2⟩ := HN.out (.inr (.inr (by first | rfl | trivial)))
      cases e1
      cases e2
      go_wp2_with (refine wpList_plain rfl fun K hK => ?_; go_simp; refine hK _ _ ?_; clear hK K; refine st17 HRE.out (.tmp 2) (.tmp 46) rfl rfl rfl rfl rfl ?_; simp only [Act.put, List.setIfInBounds_toArray, List.set_cons_succ, List.set_cons_zero])
      have HZ := Lib.hid (heap_put17 HRE.out (.int .i64 0) (.bool false) (.int .i64 0) (.int .i64 0) (.int .i64 0) (.int .i64 0) (.bool false) (.int .i64 0) (.int .i64 0) (.bool false) (.int .i64 0) (.int .i64 0) (.int .i64 0) (.int .i64 0) (.bool false) (.int .i64 0) (.int .i64 0))
      have HBZ := Lib.hid (below_put17 HBE.out (Nat.le_refl _) (.int .i64 0) (.bool false) (.int .i64 0) (.int .i64 0) (.int .i64 0) (.int .i64 0) (.bool false) (.int .i64 0) (.int .i64 0) (.bool false) (.int .i64 0) (.int .i64 0) (.int .i64 0) (.int .i64 0) (.bool false) (.int .i64 0) (.int .i64 0))
      exact bodyPost_ret (results_v (j := 2) (k := 3) rfl _ _ w.heap.size _ _ _ _ _ _ _ _ _ _ _ _ _ _ _ _ _ rfl HZ.out) rfl ⟨rfl, HBZ.out⟩
    | true =>
      obtain ⟨e1, e2⟩ := HY.out (by first | rfl | trivial) (by first | rfl | trivial) (by first | rfl | trivial)
      cases e1
      cases e2
      go_wp2_with (refine ld17 HXA.out (.tmp 6) (by kernel_rfl) rfl rfl ?_; simp only [Act.put, List.setIfInBounds_toArray, List.set_cons_succ, List.set_cons_zero]; refine st17 HRE.out (.tmp 2) (.tmp 47) rfl rfl rfl rfl rfl ?_; simp only [Act.put, List.setIfInBounds_toArray, List.set_cons_succ, List.set_cons_zero])
      have HZ := Lib.hid (heap_put17 HRE.out (.int .i64 m0) (.bool true) (.int .i64 m2) (.int .i64 y0) (.int .i64 y1) (.int .i64 y2) (.bool y3) (.int .i64 y4) (.int .i64 y5) (.bool y6) (.int .i64 0) (.int .i64 0) (.int .i64 0) (.int .i64 0) (.bool false) (.int .i64 0) (.int .i64 0))
      have HBZ := Lib.hid (below_put17 HBE.out (Nat.le_refl _) (.int .i64 m0) (.bool true) (.int .i64 m2) (.int .i64 y0) (.int .i64 y1) (.int .i64 y2) (.bool y3) (.int .i64 y4) (.int .i64 y5) (.bool y6) (.int .i64 0) (.int .i64 0) (.int .i64 0) (.int .i64 0) (.bool false) (.int .i64 0) (.int .i64 0))
      exact bodyPost_ret (results_v (j := 2) (k := 3) rfl _ _ w.heap.size _ _ _ _ _ _ _ _ _ _ _ _ _ _ _ _ _ rfl HZ.out) rfl ⟨rfl, HBZ.out⟩
set_option maxHeartbeats 4000000 in
theorem rtake_told (s : ByteArray) (m0 : Int) (m1 : Bool) (m2 : Int) (y0 : Int) (y1 : Int) (y2 : Int) (y3 : Bool) (y4 : Int) (y5 : Int) (y6 : Bool) (s0 : Int) (s1 : Int) (s2 : Int) (s3 : Int) (s4 : Bool) (s5 : Int) (s6 : Int) (er : Int) (i0 n0 : Int) (st1 st2 st3 : Rd) (h1 : wide (some s.data.toList) = (i0, st1)) (h2 : wide st1 = (n0, st2)) (h3 : rdFlag st2 = (false, st3)) (hx : gotV (takeV s.data.toList) = ⟨m0, m1, m2, ⟨y0, y1, y2, y3, y4, y5, y6⟩, ⟨s0, s1, s2, s3, s4, s5, s6⟩⟩) (he : errV (takeV s.data.toList) = er) (hk : s.size ≤ 4398046511104) (w : World) :
    Calls Try.prog 18 #[.string s] w fun e w' => e = .returned (.tuple #[.agg #[.int .i64 m0, .bool m1, .int .i64 m2, .int .i64 y0, .int .i64 y1, .int .i64 y2, .bool y3, .int .i64 y4, .int .i64 y5, .bool y6, .int .i64 s0, .int .i64 s1, .int .i64 s2, .int .i64 s3, .bool s4, .int .i64 s5, .int .i64 s6], .int .i64 er]) ∧ Below w.heap.size w w' := by
  have HP : Hid (rdV s.data.toList = (i0, (restV n0 (false, st3)).1, (restV n0 (false, st3)).2)) := by
    show _ = _
    rw [rdV_eq]
    simp only [h1, h2, h3]
  have HX := Lib.hid hx
  have HE := Lib.hid he
  clear hx he
  have hR0 := (at17_new 27 w (.int .i64 0) (.bool false) (.int .i64 0) (.int .i64 0) (.int .i64 0) (.int .i64 0) (.bool false) (.int .i64 0) (.int .i64 0) (.bool false) (.int .i64 0) (.int .i64 0) (.int .i64 0) (.int .i64 0) (.bool false) (.int .i64 0) (.int .i64 0)).alloc (.cells #[.string s, .bool false] 43)
  have hb0 := ((Below.refl w.heap.size w).alloc (Nat.le_refl _) (.cells #[.int .i64 0, .bool false, .int .i64 0, .int .i64 0, .int .i64 0, .int .i64 0, .bool false, .int .i64 0, .int .i64 0, .bool false, .int .i64 0, .int .i64 0, .int .i64 0, .int .i64 0, .bool false, .int .i64 0, .int .i64 0] 27)).alloc (by rw [World.size_alloc]; omega) (.cells #[.string s, .bool false] 43)
  have hsz : (w.alloc (.cells #[.int .i64 0, .bool false, .int .i64 0, .int .i64 0, .int .i64 0, .int .i64 0, .bool false, .int .i64 0, .int .i64 0, .bool false, .int .i64 0, .int .i64 0, .int .i64 0, .int .i64 0, .bool false, .int .i64 0, .int .i64 0] 27)).heap.size = w.heap.size + 1 := by rw [World.size_alloc]
  have hq0 : RqAt ((w.alloc (.cells #[.int .i64 0, .bool false, .int .i64 0, .int .i64 0, .int .i64 0, .int .i64 0, .bool false, .int .i64 0, .int .i64 0, .bool false, .int .i64 0, .int .i64 0, .int .i64 0, .int .i64 0, .bool false, .int .i64 0, .int .i64 0] 27)).alloc (.cells #[.string s, .bool false] 43)) (w.alloc (.cells #[.int .i64 0, .bool false, .int .i64 0, .int .i64 0, .int .i64 0, .int .i64 0, .bool false, .int .i64 0, .int .i64 0, .bool false, .int .i64 0, .int .i64 0, .int .i64 0, .int .i64 0, .bool false, .int .i64 0, .int .i64 0] 27)).heap.size (some s.data.toList) := ⟨s, heap_alloc_new _ _, rfl, hk⟩
  rw [hsz] at hq0
  obtain ⟨u, hu⟩ : ∃ u, ((w.alloc (.cells #[.int .i64 0, .bool false, .int .i64 0, .int .i64 0, .int .i64 0, .int .i64 0, .bool false, .int .i64 0, .int .i64 0, .bool false, .int .i64 0, .int .i64 0, .int .i64 0, .int .i64 0, .bool false, .int .i64 0, .int .i64 0] 27)).alloc (.cells #[.string s, .bool false] 43)) = u := ⟨_, rfl⟩
  obtain ⟨q, hq⟩ : ∃ q, w.heap.size + 1 = q := ⟨_, rfl⟩
  rw [hu] at hR0 hb0 hq0
  rw [hq] at hq0
  have HR1 := Lib.hid hR0
  have HB1 := Lib.hid hb0
  have HRD1 := Lib.hid hq0
  have HU := Lib.hid hu
  have HQ := Lib.hid hq
  have HQS : Hid (q = w.heap.size + 1) := hq.symm
  have C1 := Lib.hid (wide_is q _ st1 i0 h1 u hq0)
  have H2 := Lib.hid h2
  have H3 := Lib.hid h3
  clear hR0 hb0 hsz hu hq hq0 h1 h2 h3
  go_enter Try.func18, Try.ntmps18
  go_wp2_with fail
  rw [show ((w.alloc (.cells #[.int .i64 0, .bool false, .int .i64 0, .int .i64 0, .int .i64 0, .int .i64 0, .bool false, .int .i64 0, .int .i64 0, .bool false, .int .i64 0, .int .i64 0, .int .i64 0, .int .i64 0, .bool false, .int .i64 0, .int .i64 0] 27)).alloc (.cells #[.string s, .bool false] 43)) = u from HU.out, show w.heap.size + 1 = q from HQ.out]
  refine C1.out.mono ?_
  rintro e w2 ⟨rfl, hrd, hgr⟩
  have HR2 : Hid (At17 27 w2 w.heap.size (.int .i64 0) (.bool false) (.int .i64 0) (.int .i64 0) (.int .i64 0) (.int .i64 0) (.bool false) (.int .i64 0) (.int .i64 0) (.bool false) (.int .i64 0) (.int .i64 0) (.int .i64 0) (.int .i64 0) (.bool false) (.int .i64 0) (.int .i64 0)) := (hgr.block w.heap.size (heap_lt HR1.out) (fun e => by cases e; have := HQS.out; omega)).trans HR1.out
  have HB2 := Lib.hid (HB1.out.trans (rq_below hgr HRD1.out (by have := HQS.out; omega)))
  have C2 := Lib.hid (wide_is q st1 st2 n0 H2.out w2 hrd)
  have HRD2 := Lib.hid hrd
  clear hrd hgr C1 HR1 HB1 HRD1
  go_wp2_with fail
  refine C2.out.mono ?_
  rintro e w3 ⟨rfl, hrd, hgr⟩
  have HR3 : Hid (At17 27 w3 w.heap.size (.int .i64 0) (.bool false) (.int .i64 0) (.int .i64 0) (.int .i64 0) (.int .i64 0) (.bool false) (.int .i64 0) (.int .i64 0) (.bool false) (.int .i64 0) (.int .i64 0) (.int .i64 0) (.int .i64 0) (.bool false) (.int .i64 0) (.int .i64 0)) := (hgr.block w.heap.size (heap_lt HR2.out) (fun e => by cases e; have := HQS.out; omega)).trans HR2.out
  have HB3 := Lib.hid (HB2.out.trans (rq_below hgr HRD2.out (by have := HQS.out; omega)))
  have C3 := Lib.hid (flag_rq q st2 st3 false H3.out w3 hrd)
  have HRD3 := Lib.hid hrd
  clear hrd hgr C2 HR2 HB2 HRD2
  go_wp2_with fail
  refine C3.out.mono ?_
  rintro e w4 ⟨rfl, hrd, hgr⟩
  have HR4 : Hid (At17 27 w4 w.heap.size (.int .i64 0) (.bool false) (.int .i64 0) (.int .i64 0) (.int .i64 0) (.int .i64 0) (.bool false) (.int .i64 0) (.int .i64 0) (.bool false) (.int .i64 0) (.int .i64 0) (.int .i64 0) (.int .i64 0) (.bool false) (.int .i64 0) (.int .i64 0)) := (hgr.block w.heap.size (heap_lt HR3.out) (fun e => by cases e; have := HQS.out; omega)).trans HR3.out
  have HB4 := Lib.hid (HB3.out.trans (rq_below hgr HRD3.out (by have := HQS.out; omega)))
  have HRD4 := Lib.hid hrd
  clear hrd hgr C3 HR3 HB3 HRD3
  obtain ⟨a0, a1, a2, a3, a4, a5, a6, ha⟩ : ∃ a0 a1 a2 a3 a4 a5 a6, takeR st3 = ⟨a0, a1, a2, a3, a4, a5, a6⟩ := rp_split _
  obtain ⟨st4, h4⟩ : ∃ t, (rdR st3).2 = t := ⟨_, rfl⟩
  have hsv : a0 = a0 := rfl
  have hp := HP.out
  unfold restV at hp
  simp only [Bool.false_eq_true, if_false, ha, h4] at hp
  obtain ⟨d, hd⟩ : ∃ d, done st4 = d := ⟨_, rfl⟩
  obtain ⟨fv, hfv⟩ : ∃ f, fitV ⟨n0, false, a0, en0, ⟨a0, a1, a2, a3, a4, a5, a6⟩⟩ = f := ⟨_, rfl⟩
  have HY : Hid (i0 = 1 → d = true → fv = true → (⟨n0, false, a0, en0, ⟨a0, a1, a2, a3, a4, a5, a6⟩⟩ : Ev) = ⟨m0, m1, m2, ⟨y0, y1, y2, y3, y4, y5, y6⟩, ⟨s0, s1, s2, s3, s4, s5, s6⟩⟩ ∧ er = 0) := by
    intro e0 e1 e2
    have hg : takeV s.data.toList = some ⟨n0, false, a0, en0, ⟨a0, a1, a2, a3, a4, a5, a6⟩⟩ := by
      unfold takeV
      rw [hp]
      simp only
      rw [hd, hfv, if_pos ⟨e0, e1, e2⟩]
    rw [← HX.out, ← HE.out, hg]
    exact ⟨rfl, rfl⟩
  have HN : Hid ((¬ i0 = 1) ∨ d = false ∨ fv = false → (⟨m0, m1, m2, ⟨y0, y1, y2, y3, y4, y5, y6⟩, ⟨s0, s1, s2, s3, s4, s5, s6⟩⟩ : Ev) = ev0 ∧ er = 7) := by
    intro e1
    have hg : takeV s.data.toList = none := by
      unfold takeV
      rw [hp]
      simp only
      rw [hd, hfv, if_neg (by rintro ⟨g0, g1, g2⟩; rcases e1 with e | e | e <;> simp_all)]
    rw [← HX.out, ← HE.out, hg]
    exact ⟨rfl, rfl⟩
  have HD := Lib.hid hd
  have HFV := Lib.hid hfv
  have hX4 := at17_new 27 w4 (.int .i64 n0) (.bool false) (.int .i64 0) (.int .i64 0) (.int .i64 0) (.int .i64 0) (.bool false) (.int .i64 0) (.int .i64 0) (.bool false) (.int .i64 0) (.int .i64 0) (.int .i64 0) (.int .i64 0) (.bool false) (.int .i64 0) (.int .i64 0)
  have hR4 := HR4.out.alloc (.cells #[.int .i64 n0, .bool false, .int .i64 0, .int .i64 0, .int .i64 0, .int .i64 0, .bool false, .int .i64 0, .int .i64 0, .bool false, .int .i64 0, .int .i64 0, .int .i64 0, .int .i64 0, .bool false, .int .i64 0, .int .i64 0] 27)
  have hb4 := HB4.out.alloc HB4.out.size (.cells #[.int .i64 n0, .bool false, .int .i64 0, .int .i64 0, .int .i64 0, .int .i64 0, .bool false, .int .i64 0, .int .i64 0, .bool false, .int .i64 0, .int .i64 0, .int .i64 0, .int .i64 0, .bool false, .int .i64 0, .int .i64 0] 27)
  have hrd4 := RqAt.below HRD4.out ((Below.refl _ w4).alloc (Nat.le_refl _) (.cells #[.int .i64 n0, .bool false, .int .i64 0, .int .i64 0, .int .i64 0, .int .i64 0, .bool false, .int .i64 0, .int .i64 0, .bool false, .int .i64 0, .int .i64 0, .int .i64 0, .int .i64 0, .bool false, .int .i64 0, .int .i64 0] 27))
  obtain ⟨b, hb⟩ : ∃ b, w4.heap.size = b := ⟨_, rfl⟩
  obtain ⟨u4, hu4⟩ : ∃ u, w4.alloc (.cells #[.int .i64 n0, .bool false, .int .i64 0, .int .i64 0, .int .i64 0, .int .i64 0, .bool false, .int .i64 0, .int .i64 0, .bool false, .int .i64 0, .int .i64 0, .int .i64 0, .int .i64 0, .bool false, .int .i64 0, .int .i64 0] 27) = u := ⟨_, rfl⟩
  rw [hu4] at hX4 hR4 hb4 hrd4
  rw [hb] at hX4
  have HBQ : Hid (q < b) := by show _ < _; rw [← hb]; exact HRD4.out.lt
  have HRB : Hid (w.heap.size ≤ b) := by show _ ≤ _; have := HQS.out; have := HBQ.out; omega
  have HRX : Hid (w.heap.size ≠ b) := by show _ ≠ _; have := HQS.out; have := HBQ.out; omega
  have HX4 := Lib.hid hX4
  have HR5 := Lib.hid hR4
  have HB5 := Lib.hid hb4
  have HBN := Lib.hid hb
  have HU4 := Lib.hid hu4
  have HRD5 := Lib.hid hrd4

  have CT := Lib.hid (rtaker_is q st3 st4 a0 a1 a2 a3 a4 a5 a6 ha h4 u4 hrd4)
  clear hX4 hR4 hb4 hrd4 hb hu4 hd hfv hsv hp ha h4 HP HX HE
  go_wp2_with fail
  rw [show w4.alloc (.cells #[.int .i64 n0, .bool false, .int .i64 0, .int .i64 0, .int .i64 0, .int .i64 0, .bool false, .int .i64 0, .int .i64 0, .bool false, .int .i64 0, .int .i64 0, .int .i64 0, .int .i64 0, .bool false, .int .i64 0, .int .i64 0] 27) = u4 from HU4.out, show w4.heap.size = b from HBN.out]
  refine CT.out.mono ?_
  rintro e w5 ⟨rfl, hrd, hgr⟩
  have hX5 : At17 27 w5 b (.int .i64 n0) (.bool false) (.int .i64 0) (.int .i64 0) (.int .i64 0) (.int .i64 0) (.bool false) (.int .i64 0) (.int .i64 0) (.bool false) (.int .i64 0) (.int .i64 0) (.int .i64 0) (.int .i64 0) (.bool false) (.int .i64 0) (.int .i64 0) := (hgr.block b (heap_lt HX4.out) (fun e => by cases e; exact Nat.lt_irrefl _ HBQ.out)).trans HX4.out
  have HR6 : Hid (At17 27 w5 w.heap.size (.int .i64 0) (.bool false) (.int .i64 0) (.int .i64 0) (.int .i64 0) (.int .i64 0) (.bool false) (.int .i64 0) (.int .i64 0) (.bool false) (.int .i64 0) (.int .i64 0) (.int .i64 0) (.int .i64 0) (.bool false) (.int .i64 0) (.int .i64 0)) := (hgr.block w.heap.size (heap_lt HR5.out) (fun e => by cases e; have := HQS.out; omega)).trans HR5.out
  have hb5 := HB5.out.trans (rq_below hgr HRD5.out (by have := HQS.out; omega))
  obtain ⟨q0, q1, q2, q3, q4, q5, q6, q7, q8, q9, q10, q11, q12, q13, q14, q15, q16⟩ := cells17 hX5
  obtain ⟨f0, f1, f2, f3, f4, f5, f6, f7, f8, f9, f10, f11, f12, f13, f14, f15, f16⟩ := free17 hX5
  have hX6 := heap_setR hX5 (.int .i64 a0) (.int .i64 a1) (.int .i64 a2) (.int .i64 a3) (.bool a4) (.int .i64 a5) (.int .i64 a6)
  have hR6 : At17 27 (setR w5 b (.int .i64 a0) (.int .i64 a1) (.int .i64 a2) (.int .i64 a3) (.bool a4) (.int .i64 a5) (.int .i64 a6)) w.heap.size (.int .i64 0) (.bool false) (.int .i64 0) (.int .i64 0) (.int .i64 0) (.int .i64 0) (.bool false) (.int .i64 0) (.int .i64 0) (.bool false) (.int .i64 0) (.int .i64 0) (.int .i64 0) (.int .i64 0) (.bool false) (.int .i64 0) (.int .i64 0) := (setR_other _ _ _ _ _ _ _ HRX.out).trans HR6.out
  have hb6 := below_setR hb5 HRB.out (.int .i64 a0) (.int .i64 a1) (.int .i64 a2) (.int .i64 a3) (.bool a4) (.int .i64 a5) (.int .i64 a6)
  have hrd6 : RqAt (setR w5 b (.int .i64 a0) (.int .i64 a1) (.int .i64 a2) (.int .i64 a3) (.bool a4) (.int .i64 a5) (.int .i64 a6)) q st4 := RqAt.keep hrd (setR_other _ _ _ _ _ _ _ (Nat.ne_of_lt HBQ.out))
  have k1 : (((((((w5.setCell ⟨b, 10, none⟩ (.int .i64 a0)).setCell ⟨b, 11, none⟩ (.int .i64 a1)).setCell ⟨b, 12, none⟩ (.int .i64 a2)).setCell ⟨b, 13, none⟩ (.int .i64 a3)).setCell ⟨b, 14, none⟩ (.bool a4)).setCell ⟨b, 15, none⟩ (.int .i64 a5)).setCell ⟨b, 16, none⟩ (.int .i64 a6)).cell? ⟨b, 10, none⟩ = some (.int .i64 a0) := by rw [show (((((((w5.setCell ⟨b, 10, none⟩ (.int .i64 a0)).setCell ⟨b, 11, none⟩ (.int .i64 a1)).setCell ⟨b, 12, none⟩ (.int .i64 a2)).setCell ⟨b, 13, none⟩ (.int .i64 a3)).setCell ⟨b, 14, none⟩ (.bool a4)).setCell ⟨b, 15, none⟩ (.int .i64 a5)).setCell ⟨b, 16, none⟩ (.int .i64 a6)).cell? _ = _ from cell_of_heap hX6]; rfl
  have k2 : (((((((w5.setCell ⟨b, 10, none⟩ (.int .i64 a0)).setCell ⟨b, 11, none⟩ (.int .i64 a1)).setCell ⟨b, 12, none⟩ (.int .i64 a2)).setCell ⟨b, 13, none⟩ (.int .i64 a3)).setCell ⟨b, 14, none⟩ (.bool a4)).setCell ⟨b, 15, none⟩ (.int .i64 a5)).setCell ⟨b, 16, none⟩ (.int .i64 a6)).cell? ⟨b, 2, none⟩ = some (.int .i64 0) := by rw [show (((((((w5.setCell ⟨b, 10, none⟩ (.int .i64 a0)).setCell ⟨b, 11, none⟩ (.int .i64 a1)).setCell ⟨b, 12, none⟩ (.int .i64 a2)).setCell ⟨b, 13, none⟩ (.int .i64 a3)).setCell ⟨b, 14, none⟩ (.bool a4)).setCell ⟨b, 15, none⟩ (.int .i64 a5)).setCell ⟨b, 16, none⟩ (.int .i64 a6)).cell? _ = _ from cell_of_heap hX6]; rfl
  have k3 : (((((((w5.setCell ⟨b, 10, none⟩ (.int .i64 a0)).setCell ⟨b, 11, none⟩ (.int .i64 a1)).setCell ⟨b, 12, none⟩ (.int .i64 a2)).setCell ⟨b, 13, none⟩ (.int .i64 a3)).setCell ⟨b, 14, none⟩ (.bool a4)).setCell ⟨b, 15, none⟩ (.int .i64 a5)).setCell ⟨b, 16, none⟩ (.int .i64 a6)).frozen? ⟨b, 2, none⟩ = false := frozen_of_heap hX6
  have hX8 := heap_setS hX6 (.int .i64 a0)
  have hR8 : At17 27 (setS (setR w5 b (.int .i64 a0) (.int .i64 a1) (.int .i64 a2) (.int .i64 a3) (.bool a4) (.int .i64 a5) (.int .i64 a6)) b (.int .i64 a0)) w.heap.size (.int .i64 0) (.bool false) (.int .i64 0) (.int .i64 0) (.int .i64 0) (.int .i64 0) (.bool false) (.int .i64 0) (.int .i64 0) (.bool false) (.int .i64 0) (.int .i64 0) (.int .i64 0) (.int .i64 0) (.bool false) (.int .i64 0) (.int .i64 0) := (setS_other _ HRX.out).trans hR6
  have hb8 := below_setS hb6 HRB.out (.int .i64 a0)
  have hrd8 : RqAt (setS (setR w5 b (.int .i64 a0) (.int .i64 a1) (.int .i64 a2) (.int .i64 a3) (.bool a4) (.int .i64 a5) (.int .i64 a6)) b (.int .i64 a0)) q st4 := RqAt.keep hrd6 (setS_other _ (Nat.ne_of_lt HBQ.out))
  obtain ⟨u6, hu6⟩ : ∃ u, setS (setR w5 b (.int .i64 a0) (.int .i64 a1) (.int .i64 a2) (.int .i64 a3) (.bool a4) (.int .i64 a5) (.int .i64 a6)) b (.int .i64 a0) = u := ⟨_, rfl⟩
  rw [hu6] at hX8 hR8 hb8 hrd8
  have HX8 := Lib.hid hX8
  have HR8 := Lib.hid hR8
  have HB8 := Lib.hid hb8
  have HRD8 := Lib.hid hrd8
  have HU6 := Lib.hid hu6
  have CD0 := Wire.rqdone_any q st4 u6 hrd8
  rw [HD.out] at CD0
  have CD := Lib.hid CD0
  have CF := Lib.hid (fun W => rfit_is n0 false a0 0 0 0 false 0 0 false a0 a1 a2 a3 a4 a5 a6 fv HFV.out W)
  clear hX5 hX6 hR6 hb6 hrd6 hb5 hrd hgr hX8 hR8 hb8 hrd8 hu6 CD0 CT HX4 HR5 HB5 HRD5 HR6
  by_cases hv : i0 = 1
  rotate_left
  · have hne : (i0 != 1) = true := bne_iff_ne.2 hv
    obtain ⟨e1, e2⟩ := HN.out (.inl hv)
    cases e1
    cases e2
    have HRE := Lib.hid HR8.out
    have HBE := Lib.hid HB8.out

    go_wp2_with (refine stop_neq rfl ?_)
    rw [show (((((((w5.setCell ⟨b, 10, none⟩ (.int .i64 a0)).setCell ⟨b, 11, none⟩ (.int .i64 a1)).setCell ⟨b, 12, none⟩ (.int .i64 a2)).setCell ⟨b, 13, none⟩ (.int .i64 a3)).setCell ⟨b, 14, none⟩ (.bool a4)).setCell ⟨b, 15, none⟩ (.int .i64 a5)).setCell ⟨b, 16, none⟩ (.int .i64 a6)).setCell ⟨b, 2, none⟩ (.int .i64 a0) = u6 from HU6.out]
    refine ⟨?_⟩
    clear k1 k2 k3 q0 f0 q1 f1 q2 f2 q3 f3 q4 f4 q5 f5 q6 f6 q7 f7 q8 f8 q9 f9 q10 f10 q11 f11 q12 f12 q13 f13 q14 f14 q15 f15 q16 f16
    go_wp2_with (refine wpList_plain rfl fun K hK => ?_; go_simp; refine hK _ _ ?_; clear hK K; refine st17 HRE.out (.tmp 2) (.tmp 46) rfl rfl rfl rfl rfl ?_; simp only [Act.put, List.setIfInBounds_toArray, List.set_cons_succ, List.set_cons_zero])
    have HZ := Lib.hid (heap_put17 HRE.out (.int .i64 0) (.bool false) (.int .i64 0) (.int .i64 0) (.int .i64 0) (.int .i64 0) (.bool false) (.int .i64 0) (.int .i64 0) (.bool false) (.int .i64 0) (.int .i64 0) (.int .i64 0) (.int .i64 0) (.bool false) (.int .i64 0) (.int .i64 0))
    have HBZ := Lib.hid (below_put17 HBE.out (Nat.le_refl _) (.int .i64 0) (.bool false) (.int .i64 0) (.int .i64 0) (.int .i64 0) (.int .i64 0) (.bool false) (.int .i64 0) (.int .i64 0) (.bool false) (.int .i64 0) (.int .i64 0) (.int .i64 0) (.int .i64 0) (.bool false) (.int .i64 0) (.int .i64 0))
    exact bodyPost_ret (results_v (j := 2) (k := 3) rfl _ _ w.heap.size _ _ _ _ _ _ _ _ _ _ _ _ _ _ _ _ _ rfl HZ.out) rfl ⟨rfl, HBZ.out⟩
  subst hv
  have hne : ((1 : Int) != 1) = false := rfl
  go_wp2_with fail
  rw [show (((((((w5.setCell ⟨b, 10, none⟩ (.int .i64 a0)).setCell ⟨b, 11, none⟩ (.int .i64 a1)).setCell ⟨b, 12, none⟩ (.int .i64 a2)).setCell ⟨b, 13, none⟩ (.int .i64 a3)).setCell ⟨b, 14, none⟩ (.bool a4)).setCell ⟨b, 15, none⟩ (.int .i64 a5)).setCell ⟨b, 16, none⟩ (.int .i64 a6)).setCell ⟨b, 2, none⟩ (.int .i64 a0) = u6 from HU6.out]
  clear k1 k2 k3 q0 f0 q1 f1 q2 f2 q3 f3 q4 f4 q5 f5 q6 f6 q7 f7 q8 f8 q9 f9 q10 f10 q11 f11 q12 f12 q13 f13 q14 f14 q15 f15 q16 f16
  refine CD.out.mono ?_
  rintro e w7 ⟨rfl, hb⟩
  have HX9 := Lib.hid (HX8.out.keep hb)
  have HRE := Lib.hid (HR8.out.keep hb)
  have HBE := Lib.hid (below_keep HB8.out hb HB8.out.size)
  clear hb HX8 HR8 HB8 CD
  cases d with
  | false =>
    obtain ⟨e1, e2⟩ := HN.out (.inr (.inl (by first | rfl | trivial)))
    cases e1
    cases e2
    go_wp2_with (refine wpList_plain rfl fun K hK => ?_; go_simp; refine hK _ _ ?_; clear hK K; refine st17 HRE.out (.tmp 2) (.tmp 46) rfl rfl rfl rfl rfl ?_; simp only [Act.put, List.setIfInBounds_toArray, List.set_cons_succ, List.set_cons_zero])
    have HZ := Lib.hid (heap_put17 HRE.out (.int .i64 0) (.bool false) (.int .i64 0) (.int .i64 0) (.int .i64 0) (.int .i64 0) (.bool false) (.int .i64 0) (.int .i64 0) (.bool false) (.int .i64 0) (.int .i64 0) (.int .i64 0) (.int .i64 0) (.bool false) (.int .i64 0) (.int .i64 0))
    have HBZ := Lib.hid (below_put17 HBE.out (Nat.le_refl _) (.int .i64 0) (.bool false) (.int .i64 0) (.int .i64 0) (.int .i64 0) (.int .i64 0) (.bool false) (.int .i64 0) (.int .i64 0) (.bool false) (.int .i64 0) (.int .i64 0) (.int .i64 0) (.int .i64 0) (.bool false) (.int .i64 0) (.int .i64 0))
    exact bodyPost_ret (results_v (j := 2) (k := 3) rfl _ _ w.heap.size _ _ _ _ _ _ _ _ _ _ _ _ _ _ _ _ _ rfl HZ.out) rfl ⟨rfl, HBZ.out⟩
  | true =>
    go_simp
    rename_i K1 hK1
    refine hK1 _ _ ?_
    clear hK1 K1
    refine wpList_step fun K hK => ?_
    rw [if_pos (by kernel_rfl)]
    go_simp
    refine hK _ _ ?_
    clear hK K
    iterate 2 (refine wpList_plain rfl fun K hK => ?_; go_simp; refine hK _ _ ?_; clear hK K)
    refine ld17 HX9.out (.tmp 6) (by kernel_rfl) rfl rfl ?_
    simp only [Act.put, List.setIfInBounds_toArray, List.set_cons_succ, List.set_cons_zero]
    go_wp2_with fail
    refine (CF.out _).mono ?_
    rintro e w8 ⟨rfl, hb⟩
    have HXA := Lib.hid (HX9.out.keep hb)
    have HRA := Lib.hid (HRE.out.keep hb)
    have HBA := Lib.hid (below_keep HBE.out hb HBE.out.size)
    clear hb HX9 HRE HBE CF
    have HRE := Lib.hid HRA.out
    have HBE := Lib.hid HBA.out
    clear HRA HBA
    cases fv with
    | false =>
      obtain ⟨e1, e2⟩ := HN.out (.inr (.inr (by first | rfl | trivial)))
      cases e1
      cases e2
      go_wp2_with (refine wpList_plain rfl fun K hK => ?_; go_simp; refine hK _ _ ?_; clear hK K; refine st17 HRE.out (.tmp 2) (.tmp 46) rfl rfl rfl rfl rfl ?_; simp only [Act.put, List.setIfInBounds_toArray, List.set_cons_succ, List.set_cons_zero])
      have HZ := Lib.hid (heap_put17 HRE.out (.int .i64 0) (.bool false) (.int .i64 0) (.int .i64 0) (.int .i64 0) (.int .i64 0) (.bool false) (.int .i64 0) (.int .i64 0) (.bool false) (.int .i64 0) (.int .i64 0) (.int .i64 0) (.int .i64 0) (.bool false) (.int .i64 0) (.int .i64 0))
      have HBZ := Lib.hid (below_put17 HBE.out (Nat.le_refl _) (.int .i64 0) (.bool false) (.int .i64 0) (.int .i64 0) (.int .i64 0) (.int .i64 0) (.bool false) (.int .i64 0) (.int .i64 0) (.bool false) (.int .i64 0) (.int .i64 0) (.int .i64 0) (.int .i64 0) (.bool false) (.int .i64 0) (.int .i64 0))
      exact bodyPost_ret (results_v (j := 2) (k := 3) rfl _ _ w.heap.size _ _ _ _ _ _ _ _ _ _ _ _ _ _ _ _ _ rfl HZ.out) rfl ⟨rfl, HBZ.out⟩
    | true =>
      obtain ⟨e1, e2⟩ := HY.out (by first | rfl | trivial) (by first | rfl | trivial) (by first | rfl | trivial)
      cases e1
      cases e2
      go_wp2_with (refine ld17 HXA.out (.tmp 6) (by kernel_rfl) rfl rfl ?_; simp only [Act.put, List.setIfInBounds_toArray, List.set_cons_succ, List.set_cons_zero]; refine st17 HRE.out (.tmp 2) (.tmp 47) rfl rfl rfl rfl rfl ?_; simp only [Act.put, List.setIfInBounds_toArray, List.set_cons_succ, List.set_cons_zero])
      have HZ := Lib.hid (heap_put17 HRE.out (.int .i64 m0) (.bool false) (.int .i64 m2) (.int .i64 0) (.int .i64 0) (.int .i64 0) (.bool false) (.int .i64 0) (.int .i64 0) (.bool false) (.int .i64 m2) (.int .i64 s1) (.int .i64 s2) (.int .i64 s3) (.bool s4) (.int .i64 s5) (.int .i64 s6))
      have HBZ := Lib.hid (below_put17 HBE.out (Nat.le_refl _) (.int .i64 m0) (.bool false) (.int .i64 m2) (.int .i64 0) (.int .i64 0) (.int .i64 0) (.bool false) (.int .i64 0) (.int .i64 0) (.bool false) (.int .i64 m2) (.int .i64 s1) (.int .i64 s2) (.int .i64 s3) (.bool s4) (.int .i64 s5) (.int .i64 s6))
      exact bodyPost_ret (results_v (j := 2) (k := 3) rfl _ _ w.heap.size _ _ _ _ _ _ _ _ _ _ _ _ _ _ _ _ _ rfl HZ.out) rfl ⟨rfl, HBZ.out⟩
theorem rtake_is (s : ByteArray) (m0 : Int) (m1 : Bool) (m2 : Int) (y0 : Int) (y1 : Int) (y2 : Int) (y3 : Bool) (y4 : Int) (y5 : Int) (y6 : Bool) (s0 : Int) (s1 : Int) (s2 : Int) (s3 : Int) (s4 : Bool) (s5 : Int) (s6 : Int) (er : Int) (hx : gotV (takeV s.data.toList) = ⟨m0, m1, m2, ⟨y0, y1, y2, y3, y4, y5, y6⟩, ⟨s0, s1, s2, s3, s4, s5, s6⟩⟩) (he : errV (takeV s.data.toList) = er) (hk : s.size ≤ 4398046511104) (w : World) :
    Calls Try.prog 18 #[.string s] w fun e w' => e = .returned (.tuple #[.agg #[.int .i64 m0, .bool m1, .int .i64 m2, .int .i64 y0, .int .i64 y1, .int .i64 y2, .bool y3, .int .i64 y4, .int .i64 y5, .bool y6, .int .i64 s0, .int .i64 s1, .int .i64 s2, .int .i64 s3, .bool s4, .int .i64 s5, .int .i64 s6], .int .i64 er]) ∧ Below w.heap.size w w' := by
  obtain ⟨i0, st1, h1⟩ : ∃ n t, wide (some s.data.toList) = (n, t) := ⟨_, _, rfl⟩
  obtain ⟨n0, st2, h2⟩ : ∃ n t, wide st1 = (n, t) := ⟨_, _, rfl⟩
  obtain ⟨n1, st3, h3⟩ : ∃ n t, rdFlag st2 = (n, t) := ⟨_, _, rfl⟩
  cases n1 with
  | true => exact rtake_asked s m0 m1 m2 y0 y1 y2 y3 y4 y5 y6 s0 s1 s2 s3 s4 s5 s6 er i0 n0 st1 st2 st3 h1 h2 h3 hx he hk w
  | false => exact rtake_told s m0 m1 m2 y0 y1 y2 y3 y4 y5 y6 s0 s1 s2 s3 s4 s5 s6 er i0 n0 st1 st2 st3 h1 h2 h3 hx he hk w
end Go.Proofs.Ytamcidlkbhanfaa.Msg
