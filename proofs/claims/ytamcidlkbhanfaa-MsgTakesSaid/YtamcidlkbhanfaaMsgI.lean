/-
  The contract of Take: any text; what was there stays as it was.
-/
import Derived.Test.YtamcidlkbhanfaaMsgProg
import Derived.Test.YtamcidlkbhanfaaMsgB
import Derived.Test.YtamcidlkbhanfaaMsgE
import Derived.Test.YtamcidlkbhanfaaMsgL
set_option linter.unusedVariables false
set_option linter.unusedSimpArgs false
set_option maxRecDepth 4000
namespace Go.Proofs.Ytamcidlkbhanfaa.Msg
open Go.RowKit MsgP
open Go.Proofs.Ytamcidlkbhanfaa.Kt

/-- 7 cells of an envelope are stored. -/
abbrev setE (w : World) (k : Nat) (y0 y1 y2 y3 y4 y5 y6 : Value) : World := ((((((w.setCell ⟨k, 3, none⟩ y0).setCell ⟨k, 4, none⟩ y1).setCell ⟨k, 5, none⟩ y2).setCell ⟨k, 6, none⟩ y3).setCell ⟨k, 7, none⟩ y4).setCell ⟨k, 8, none⟩ y5).setCell ⟨k, 9, none⟩ y6
theorem heap_setE {T : TypeId} {w : World} {k : Nat} {v0 v1 v2 v3 v4 v5 v6 v7 v8 v9 v10 v11 v12 v13 v14 v15 v16 : Value} (h : At17 T w k v0 v1 v2 v3 v4 v5 v6 v7 v8 v9 v10 v11 v12 v13 v14 v15 v16) (y0 y1 y2 y3 y4 y5 y6 : Value) : At17 T (setE w k y0 y1 y2 y3 y4 y5 y6) k v0 v1 v2 y0 y1 y2 y3 y4 y5 y6 v10 v11 v12 v13 v14 v15 v16 := by
  have h1 : (w.setCell ⟨k, 3, none⟩ y0).heap[k]? = some (.cells #[v0, v1, v2, y0, v4, v5, v6, v7, v8, v9, v10, v11, v12, v13, v14, v15, v16] T (0, 0)) := Lib.heap_setCell_same (i := 3) h y0
  have h2 : ((w.setCell ⟨k, 3, none⟩ y0).setCell ⟨k, 4, none⟩ y1).heap[k]? = some (.cells #[v0, v1, v2, y0, y1, v5, v6, v7, v8, v9, v10, v11, v12, v13, v14, v15, v16] T (0, 0)) := Lib.heap_setCell_same (i := 4) h1 y1
  have h3 : (((w.setCell ⟨k, 3, none⟩ y0).setCell ⟨k, 4, none⟩ y1).setCell ⟨k, 5, none⟩ y2).heap[k]? = some (.cells #[v0, v1, v2, y0, y1, y2, v6, v7, v8, v9, v10, v11, v12, v13, v14, v15, v16] T (0, 0)) := Lib.heap_setCell_same (i := 5) h2 y2
  have h4 : ((((w.setCell ⟨k, 3, none⟩ y0).setCell ⟨k, 4, none⟩ y1).setCell ⟨k, 5, none⟩ y2).setCell ⟨k, 6, none⟩ y3).heap[k]? = some (.cells #[v0, v1, v2, y0, y1, y2, y3, v7, v8, v9, v10, v11, v12, v13, v14, v15, v16] T (0, 0)) := Lib.heap_setCell_same (i := 6) h3 y3
  have h5 : (((((w.setCell ⟨k, 3, none⟩ y0).setCell ⟨k, 4, none⟩ y1).setCell ⟨k, 5, none⟩ y2).setCell ⟨k, 6, none⟩ y3).setCell ⟨k, 7, none⟩ y4).heap[k]? = some (.cells #[v0, v1, v2, y0, y1, y2, y3, y4, v8, v9, v10, v11, v12, v13, v14, v15, v16] T (0, 0)) := Lib.heap_setCell_same (i := 7) h4 y4
  have h6 : ((((((w.setCell ⟨k, 3, none⟩ y0).setCell ⟨k, 4, none⟩ y1).setCell ⟨k, 5, none⟩ y2).setCell ⟨k, 6, none⟩ y3).setCell ⟨k, 7, none⟩ y4).setCell ⟨k, 8, none⟩ y5).heap[k]? = some (.cells #[v0, v1, v2, y0, y1, y2, y3, y4, y5, v9, v10, v11, v12, v13, v14, v15, v16] T (0, 0)) := Lib.heap_setCell_same (i := 8) h5 y5
  have h7 : (((((((w.setCell ⟨k, 3, none⟩ y0).setCell ⟨k, 4, none⟩ y1).setCell ⟨k, 5, none⟩ y2).setCell ⟨k, 6, none⟩ y3).setCell ⟨k, 7, none⟩ y4).setCell ⟨k, 8, none⟩ y5).setCell ⟨k, 9, none⟩ y6).heap[k]? = some (.cells #[v0, v1, v2, y0, y1, y2, y3, y4, y5, y6, v10, v11, v12, v13, v14, v15, v16] T (0, 0)) := Lib.heap_setCell_same (i := 9) h6 y6
  exact h7
theorem setE_other {w : World} {k j : Nat} (y0 y1 y2 y3 y4 y5 y6 : Value) (h : j ≠ k) : (setE w k y0 y1 y2 y3 y4 y5 y6).heap[j]? = w.heap[j]? := by
  unfold setE
  rw [heap_setCell_other _ _ _ _ (by exact h), heap_setCell_other _ _ _ _ (by exact h), heap_setCell_other _ _ _ _ (by exact h), heap_setCell_other _ _ _ _ (by exact h), heap_setCell_other _ _ _ _ (by exact h), heap_setCell_other _ _ _ _ (by exact h), heap_setCell_other _ _ _ _ (by exact h)]
theorem size_setE (w : World) (k : Nat) (y0 y1 y2 y3 y4 y5 y6 : Value) : (setE w k y0 y1 y2 y3 y4 y5 y6).heap.size = w.heap.size := by simp [setE]
theorem below_setE {B : Nat} {w0 w : World} {k : Nat} (h : Below B w0 w) (hk : B ≤ k) (y0 y1 y2 y3 y4 y5 y6 : Value) : Below B w0 (setE w k y0 y1 y2 y3 y4 y5 y6) := ((((((h.setCell (p := ⟨k, 3, none⟩) hk _).setCell (p := ⟨k, 4, none⟩) hk _).setCell (p := ⟨k, 5, none⟩) hk _).setCell (p := ⟨k, 6, none⟩) hk _).setCell (p := ⟨k, 7, none⟩) hk _).setCell (p := ⟨k, 8, none⟩) hk _).setCell (p := ⟨k, 9, none⟩) hk _
/-- 7 cells of an envelope are stored. -/
abbrev setR (w : World) (k : Nat) (y0 y1 y2 y3 y4 y5 y6 : Value) : World := ((((((w.setCell ⟨k, 10, none⟩ y0).setCell ⟨k, 11, none⟩ y1).setCell ⟨k, 12, none⟩ y2).setCell ⟨k, 13, none⟩ y3).setCell ⟨k, 14, none⟩ y4).setCell ⟨k, 15, none⟩ y5).setCell ⟨k, 16, none⟩ y6
theorem heap_setR {T : TypeId} {w : World} {k : Nat} {v0 v1 v2 v3 v4 v5 v6 v7 v8 v9 v10 v11 v12 v13 v14 v15 v16 : Value} (h : At17 T w k v0 v1 v2 v3 v4 v5 v6 v7 v8 v9 v10 v11 v12 v13 v14 v15 v16) (y0 y1 y2 y3 y4 y5 y6 : Value) : At17 T (setR w k y0 y1 y2 y3 y4 y5 y6) k v0 v1 v2 v3 v4 v5 v6 v7 v8 v9 y0 y1 y2 y3 y4 y5 y6 := by
  have h1 : (w.setCell ⟨k, 10, none⟩ y0).heap[k]? = some (.cells #[v0, v1, v2, v3, v4, v5, v6, v7, v8, v9, y0, v11, v12, v13, v14, v15, v16] T (0, 0)) := Lib.heap_setCell_same (i := 10) h y0
  have h2 : ((w.setCell ⟨k, 10, none⟩ y0).setCell ⟨k, 11, none⟩ y1).heap[k]? = some (.cells #[v0, v1, v2, v3, v4, v5, v6, v7, v8, v9, y0, y1, v12, v13, v14, v15, v16] T (0, 0)) := Lib.heap_setCell_same (i := 11) h1 y1
  have h3 : (((w.setCell ⟨k, 10, none⟩ y0).setCell ⟨k, 11, none⟩ y1).setCell ⟨k, 12, none⟩ y2).heap[k]? = some (.cells #[v0, v1, v2, v3, v4, v5, v6, v7, v8, v9, y0, y1, y2, v13, v14, v15, v16] T (0, 0)) := Lib.heap_setCell_same (i := 12) h2 y2
  have h4 : ((((w.setCell ⟨k, 10, none⟩ y0).setCell ⟨k, 11, none⟩ y1).setCell ⟨k, 12, none⟩ y2).setCell ⟨k, 13, none⟩ y3).heap[k]? = some (.cells #[v0, v1, v2, v3, v4, v5, v6, v7, v8, v9, y0, y1, y2, y3, v14, v15, v16] T (0, 0)) := Lib.heap_setCell_same (i := 13) h3 y3
  have h5 : (((((w.setCell ⟨k, 10, none⟩ y0).setCell ⟨k, 11, none⟩ y1).setCell ⟨k, 12, none⟩ y2).setCell ⟨k, 13, none⟩ y3).setCell ⟨k, 14, none⟩ y4).heap[k]? = some (.cells #[v0, v1, v2, v3, v4, v5, v6, v7, v8, v9, y0, y1, y2, y3, y4, v15, v16] T (0, 0)) := Lib.heap_setCell_same (i := 14) h4 y4
  have h6 : ((((((w.setCell ⟨k, 10, none⟩ y0).setCell ⟨k, 11, none⟩ y1).setCell ⟨k, 12, none⟩ y2).setCell ⟨k, 13, none⟩ y3).setCell ⟨k, 14, none⟩ y4).setCell ⟨k, 15, none⟩ y5).heap[k]? = some (.cells #[v0, v1, v2, v3, v4, v5, v6, v7, v8, v9, y0, y1, y2, y3, y4, y5, v16] T (0, 0)) := Lib.heap_setCell_same (i := 15) h5 y5
  have h7 : (((((((w.setCell ⟨k, 10, none⟩ y0).setCell ⟨k, 11, none⟩ y1).setCell ⟨k, 12, none⟩ y2).setCell ⟨k, 13, none⟩ y3).setCell ⟨k, 14, none⟩ y4).setCell ⟨k, 15, none⟩ y5).setCell ⟨k, 16, none⟩ y6).heap[k]? = some (.cells #[v0, v1, v2, v3, v4, v5, v6, v7, v8, v9, y0, y1, y2, y3, y4, y5, y6] T (0, 0)) := Lib.heap_setCell_same (i := 16) h6 y6
  exact h7
theorem setR_other {w : World} {k j : Nat} (y0 y1 y2 y3 y4 y5 y6 : Value) (h : j ≠ k) : (setR w k y0 y1 y2 y3 y4 y5 y6).heap[j]? = w.heap[j]? := by
  unfold setR
  rw [heap_setCell_other _ _ _ _ (by exact h), heap_setCell_other _ _ _ _ (by exact h), heap_setCell_other _ _ _ _ (by exact h), heap_setCell_other _ _ _ _ (by exact h), heap_setCell_other _ _ _ _ (by exact h), heap_setCell_other _ _ _ _ (by exact h), heap_setCell_other _ _ _ _ (by exact h)]
theorem size_setR (w : World) (k : Nat) (y0 y1 y2 y3 y4 y5 y6 : Value) : (setR w k y0 y1 y2 y3 y4 y5 y6).heap.size = w.heap.size := by simp [setR]
theorem below_setR {B : Nat} {w0 w : World} {k : Nat} (h : Below B w0 w) (hk : B ≤ k) (y0 y1 y2 y3 y4 y5 y6 : Value) : Below B w0 (setR w k y0 y1 y2 y3 y4 y5 y6) := ((((((h.setCell (p := ⟨k, 10, none⟩) hk _).setCell (p := ⟨k, 11, none⟩) hk _).setCell (p := ⟨k, 12, none⟩) hk _).setCell (p := ⟨k, 13, none⟩) hk _).setCell (p := ⟨k, 14, none⟩) hk _).setCell (p := ⟨k, 15, none⟩) hk _).setCell (p := ⟨k, 16, none⟩) hk _
/-- 1 cells of an envelope are stored. -/
abbrev setS (w : World) (k : Nat) (y0 : Value) : World := w.setCell ⟨k, 2, none⟩ y0
theorem heap_setS {T : TypeId} {w : World} {k : Nat} {v0 v1 v2 v3 v4 v5 v6 v7 v8 v9 v10 v11 v12 v13 v14 v15 v16 : Value} (h : At17 T w k v0 v1 v2 v3 v4 v5 v6 v7 v8 v9 v10 v11 v12 v13 v14 v15 v16) (y0 : Value) : At17 T (setS w k y0) k v0 v1 y0 v3 v4 v5 v6 v7 v8 v9 v10 v11 v12 v13 v14 v15 v16 := by
  have h1 : (w.setCell ⟨k, 2, none⟩ y0).heap[k]? = some (.cells #[v0, v1, y0, v3, v4, v5, v6, v7, v8, v9, v10, v11, v12, v13, v14, v15, v16] T (0, 0)) := Lib.heap_setCell_same (i := 2) h y0
  exact h1
theorem setS_other {w : World} {k j : Nat} (y0 : Value) (h : j ≠ k) : (setS w k y0).heap[j]? = w.heap[j]? := by
  unfold setS
  rw [heap_setCell_other _ _ _ _ (by exact h)]
theorem size_setS (w : World) (k : Nat) (y0 : Value) : (setS w k y0).heap.size = w.heap.size := by simp [setS]
theorem below_setS {B : Nat} {w0 w : World} {k : Nat} (h : Below B w0 w) (hk : B ≤ k) (y0 : Value) : Below B w0 (setS w k y0) := h.setCell (p := ⟨k, 2, none⟩) hk _
open Wire (RdAt)
open OutP (en0 serviceV)
open WireP (rdInt rdFlag done)
theorem rd_below {w w' : World} {b B : Nat} {st0 : Rd} (h : w.grownBy w' (some b)) (h0 : RdAt w b st0) (hB : B ≤ b) : Below B w w' := Wire.below_of_grown h hB h0.lt

set_option maxHeartbeats 4000000 in
theorem take_asked (s : ByteArray) (m0 : Int) (m1 : Bool) (m2 : Int) (y0 : Int) (y1 : Int) (y2 : Int) (y3 : Bool) (y4 : Int) (y5 : Int) (y6 : Bool) (s0 : Int) (s1 : Int) (s2 : Int) (s3 : Int) (s4 : Bool) (s5 : Int) (s6 : Int) (er : Int) (i0 n0 : Int) (st1 st2 st3 : Rd) (h1 : rdInt 1 1 (some s.data.toList) = (i0, st1)) (h2 : rdInt 1 1099511627776 st1 = (n0, st2)) (h3 : rdFlag st2 = (true, st3)) (hx : gotV (progV s.data.toList) = ⟨m0, m1, m2, ⟨y0, y1, y2, y3, y4, y5, y6⟩, ⟨s0, s1, s2, s3, s4, s5, s6⟩⟩) (he : errV (progV s.data.toList) = er) (hk : s.size ≤ 4398046511104) (w : World) :
    Calls Try.prog 17 #[.string s] w fun e w' => e = .returned (.tuple #[.agg #[.int .i64 m0, .bool m1, .int .i64 m2, .int .i64 y0, .int .i64 y1, .int .i64 y2, .bool y3, .int .i64 y4, .int .i64 y5, .bool y6, .int .i64 s0, .int .i64 s1, .int .i64 s2, .int .i64 s3, .bool s4, .int .i64 s5, .int .i64 s6], .int .i64 er]) ∧ Below w.heap.size w w' := by
  have HP : Hid (pV s.data.toList = restV n0 (true, st3)) := by
    show _ = _
    unfold pV
    simp only [h1, h2, h3]
  have HX := Lib.hid hx
  have HE := Lib.hid he
  clear hx he
  have hR0 := at17_new 27 w (.int .i64 0) (.bool false) (.int .i64 0) (.int .i64 0) (.int .i64 0) (.int .i64 0) (.bool false) (.int .i64 0) (.int .i64 0) (.bool false) (.int .i64 0) (.int .i64 0) (.int .i64 0) (.int .i64 0) (.bool false) (.int .i64 0) (.int .i64 0)
  have hb0 := (Below.refl w.heap.size w).alloc (Nat.le_refl _) (.cells #[.int .i64 0, .bool false, .int .i64 0, .int .i64 0, .int .i64 0, .int .i64 0, .bool false, .int .i64 0, .int .i64 0, .bool false, .int .i64 0, .int .i64 0, .int .i64 0, .int .i64 0, .bool false, .int .i64 0, .int .i64 0] 27)
  have hsz : (w.alloc (.cells #[.int .i64 0, .bool false, .int .i64 0, .int .i64 0, .int .i64 0, .int .i64 0, .bool false, .int .i64 0, .int .i64 0, .bool false, .int .i64 0, .int .i64 0, .int .i64 0, .int .i64 0, .bool false, .int .i64 0, .int .i64 0] 27)).heap.size = w.heap.size + 1 := by rw [World.size_alloc]
  obtain ⟨u, hu⟩ : ∃ u, w.alloc (.cells #[.int .i64 0, .bool false, .int .i64 0, .int .i64 0, .int .i64 0, .int .i64 0, .bool false, .int .i64 0, .int .i64 0, .bool false, .int .i64 0, .int .i64 0, .int .i64 0, .int .i64 0, .bool false, .int .i64 0, .int .i64 0] 27) = u := ⟨_, rfl⟩
  rw [hu] at hR0 hb0 hsz
  have HR0 := Lib.hid hR0
  have HB0 := Lib.hid hb0
  have HU := Lib.hid hu
  have HSZ := Lib.hid hsz
  have CN := Lib.hid (Wire.new_any s u hk)
  have H1 := Lib.hid h1
  have H2 := Lib.hid h2
  have H3 := Lib.hid h3
  clear hR0 hb0 hsz hu h1 h2 h3
  go_enter Try.func17, Try.ntmps17
  go_wp2_with fail
  rw [show w.alloc (.cells #[.int .i64 0, .bool false, .int .i64 0, .int .i64 0, .int .i64 0, .int .i64 0, .bool false, .int .i64 0, .int .i64 0, .bool false, .int .i64 0, .int .i64 0, .int .i64 0, .int .i64 0, .bool false, .int .i64 0, .int .i64 0] 27) = u from HU.out]
  refine CN.out.mono ?_
  rintro e w1 ⟨rfl, hrd, hb⟩
  obtain ⟨q, hq⟩ : ∃ q, u.heap.size = q := ⟨_, rfl⟩
  rw [hq] at hrd
  have HQ := Lib.hid hq
  have HQS : Hid (q = w.heap.size + 1) := hq.symm.trans HSZ.out
  have HR1 := Lib.hid (HR0.out.keep hb)
  have HB1 := Lib.hid (below_keep HB0.out hb HB0.out.size)
  have C1 := Lib.hid (Wire.rdint_is q _ st1 1 1 i0 w1 hrd H1.out)
  have HRD1 := Lib.hid hrd
  clear hb hq hrd CN HR0 HB0
  go_wp2_with fail
  rw [show u.heap.size = q from HQ.out]
  refine C1.out.mono ?_
  rintro e w2 ⟨rfl, hrd, hgr⟩
  have HR2 : Hid (At17 27 w2 w.heap.size (.int .i64 0) (.bool false) (.int .i64 0) (.int .i64 0) (.int .i64 0) (.int .i64 0) (.bool false) (.int .i64 0) (.int .i64 0) (.bool false) (.int .i64 0) (.int .i64 0) (.int .i64 0) (.int .i64 0) (.bool false) (.int .i64 0) (.int .i64 0)) := (hgr.block w.heap.size (heap_lt HR1.out) (fun e => by cases e; have := HQS.out; omega)).trans HR1.out
  have HB2 := Lib.hid (HB1.out.trans (rd_below hgr HRD1.out (by have := HQS.out; omega)))
  have C2 := Lib.hid (Wire.rdint_is q _ st2 1 1099511627776 n0 w2 hrd H2.out)
  have HRD2 := Lib.hid hrd
  clear hrd hgr C1 HR1 HB1 HRD1
  go_wp2_with fail
  refine C2.out.mono ?_
  rintro e w3 ⟨rfl, hrd, hgr⟩
  have HR3 : Hid (At17 27 w3 w.heap.size (.int .i64 0) (.bool false) (.int .i64 0) (.int .i64 0) (.int .i64 0) (.int .i64 0) (.bool false) (.int .i64 0) (.int .i64 0) (.bool false) (.int .i64 0) (.int .i64 0) (.int .i64 0) (.int .i64 0) (.bool false) (.int .i64 0) (.int .i64 0)) := (hgr.block w.heap.size (heap_lt HR2.out) (fun e => by cases e; have := HQS.out; omega)).trans HR2.out
  have HB3 := Lib.hid (HB2.out.trans (rd_below hgr HRD2.out (by have := HQS.out; omega)))
  have C3 := Lib.hid (Wire.rdflag_is q _ st3 true w3 hrd H3.out)
  have HRD3 := Lib.hid hrd
  clear hrd hgr C2 HR2 HB2 HRD2
  go_wp2_with fail
  refine C3.out.mono ?_
  rintro e w4 ⟨rfl, hrd, hgr⟩
  have HR4 : Hid (At17 27 w4 w.heap.size (.int .i64 0) (.bool false) (.int .i64 0) (.int .i64 0) (.int .i64 0) (.int .i64 0) (.bool false) (.int .i64 0) (.int .i64 0) (.bool false) (.int .i64 0) (.int .i64 0) (.int .i64 0) (.int .i64 0) (.bool false) (.int .i64 0) (.int .i64 0)) := (hgr.block w.heap.size (heap_lt HR3.out) (fun e => by cases e; have := HQS.out; omega)).trans HR3.out
  have HB4 := Lib.hid (HB3.out.trans (rd_below hgr HRD3.out (by have := HQS.out; omega)))
  have HRD4 := Lib.hid hrd
  clear hrd hgr C3 HR3 HB3 HRD3
  obtain ⟨a0, a1, a2, a3, a4, a5, a6, ha⟩ : ∃ a0 a1 a2 a3 a4 a5 a6, takeE st3 = ⟨a0, a1, a2, a3, a4, a5, a6⟩ := Outbox.en_split _
  obtain ⟨st4, h4⟩ : ∃ t, (rdE st3).2 = t := ⟨_, rfl⟩
  obtain ⟨sv, hsv⟩ : ∃ s, serviceV a4 = s := ⟨_, rfl⟩
  have hp := HP.out
  unfold restV at hp
  simp only [if_true, ha, h4] at hp
  obtain ⟨d, hd⟩ : ∃ d, done st4 = d := ⟨_, rfl⟩
  obtain ⟨fv, hfv⟩ : ∃ f, fitV ⟨n0, true, sv, ⟨a0, a1, a2, a3, a4, a5, a6⟩, rp0⟩ = f := ⟨_, rfl⟩
  have HY : Hid (d = true → fv = true → (⟨n0, true, sv, ⟨a0, a1, a2, a3, a4, a5, a6⟩, rp0⟩ : Ev) = ⟨m0, m1, m2, ⟨y0, y1, y2, y3, y4, y5, y6⟩, ⟨s0, s1, s2, s3, s4, s5, s6⟩⟩ ∧ er = 0) := by
    intro e1 e2
    have hg : progV s.data.toList = some ⟨n0, true, sv, ⟨a0, a1, a2, a3, a4, a5, a6⟩, rp0⟩ := by
      unfold progV
      rw [hp]
      simp only
      rw [hsv, hd, hfv, if_pos ⟨e1, e2⟩]
    rw [← HX.out, ← HE.out, hg]
    exact ⟨rfl, rfl⟩
  have HN : Hid (d = false ∨ fv = false → (⟨m0, m1, m2, ⟨y0, y1, y2, y3, y4, y5, y6⟩, ⟨s0, s1, s2, s3, s4, s5, s6⟩⟩ : Ev) = ev0 ∧ er = 7) := by
    intro e1
    have hg : progV s.data.toList = none := by
      unfold progV
      rw [hp]
      simp only
      rw [hsv, hd, hfv, if_neg (by rintro ⟨g1, g2⟩; rcases e1 with e | e <;> simp_all)]
    rw [← HX.out, ← HE.out, hg]
    exact ⟨rfl, rfl⟩
  have HD := Lib.hid hd
  have HFV := Lib.hid hfv
  have HSV : Hid (svcV ⟨n0, true, 0, ⟨a0, a1, a2, a3, a4, a5, a6⟩, rp0⟩ = sv) := hsv
  have hX4 := at17_new 27 w4 (.int .i64 n0) (.bool true) (.int .i64 0) (.int .i64 0) (.int .i64 0) (.int .i64 0) (.bool false) (.int .i64 0) (.int .i64 0) (.bool false) (.int .i64 0) (.int .i64 0) (.int .i64 0) (.int .i64 0) (.bool false) (.int .i64 0) (.int .i64 0)
  have hR4 := HR4.out.alloc (.cells #[.int .i64 n0, .bool true, .int .i64 0, .int .i64 0, .int .i64 0, .int .i64 0, .bool false, .int .i64 0, .int .i64 0, .bool false, .int .i64 0, .int .i64 0, .int .i64 0, .int .i64 0, .bool false, .int .i64 0, .int .i64 0] 27)
  have hb4 := HB4.out.alloc HB4.out.size (.cells #[.int .i64 n0, .bool true, .int .i64 0, .int .i64 0, .int .i64 0, .int .i64 0, .bool false, .int .i64 0, .int .i64 0, .bool false, .int .i64 0, .int .i64 0, .int .i64 0, .int .i64 0, .bool false, .int .i64 0, .int .i64 0] 27)
  have hrd4 := RdAt.below HRD4.out ((Below.refl _ w4).alloc (Nat.le_refl _) (.cells #[.int .i64 n0, .bool true, .int .i64 0, .int .i64 0, .int .i64 0, .int .i64 0, .bool false, .int .i64 0, .int .i64 0, .bool false, .int .i64 0, .int .i64 0, .int .i64 0, .int .i64 0, .bool false, .int .i64 0, .int .i64 0] 27))
  obtain ⟨b, hb⟩ : ∃ b, w4.heap.size = b := ⟨_, rfl⟩
  obtain ⟨u4, hu4⟩ : ∃ u, w4.alloc (.cells #[.int .i64 n0, .bool true, .int .i64 0, .int .i64 0, .int .i64 0, .int .i64 0, .bool false, .int .i64 0, .int .i64 0, .bool false, .int .i64 0, .int .i64 0, .int .i64 0, .int .i64 0, .bool false, .int .i64 0, .int .i64 0] 27) = u := ⟨_, rfl⟩
  rw [hu4] at hX4 hR4 hb4 hrd4
  rw [hb] at hX4
  have HBQ : Hid (q < b) := by show _ < _; rw [← hb]; exact HRD4.out.lt
  have HRB : Hid (w.heap.size ≤ b) := by show _ ≤ _; have := HQS.out; have := HBQ.out; omega
  have HRX : Hid (w.heap.size ≠ b) := by show _ ≠ _; have := HQS.out; have := HBQ.out; omega
  have HX4 := Lib.hid hX4
  have HR5 := Lib.hid hR4
  have HB5 := Lib.hid hb4
  have HBN := Lib.hid hb
  have HU4 := Lib.hid hu4
  have HRD5 := Lib.hid hrd4
  have CT := Lib.hid (takee_is q st3 st4 a0 a1 a2 a3 a4 a5 a6 ha h4 u4 hrd4)
  clear hX4 hR4 hb4 hrd4 hb hu4 hd hfv hsv hp ha h4 HP HX HE
  go_wp2_with fail
  rw [show w4.alloc (.cells #[.int .i64 n0, .bool true, .int .i64 0, .int .i64 0, .int .i64 0, .int .i64 0, .bool false, .int .i64 0, .int .i64 0, .bool false, .int .i64 0, .int .i64 0, .int .i64 0, .int .i64 0, .bool false, .int .i64 0, .int .i64 0] 27) = u4 from HU4.out, show w4.heap.size = b from HBN.out]
  refine CT.out.mono ?_
  rintro e w5 ⟨rfl, hrd, hgr⟩
  have hX5 : At17 27 w5 b (.int .i64 n0) (.bool true) (.int .i64 0) (.int .i64 0) (.int .i64 0) (.int .i64 0) (.bool false) (.int .i64 0) (.int .i64 0) (.bool false) (.int .i64 0) (.int .i64 0) (.int .i64 0) (.int .i64 0) (.bool false) (.int .i64 0) (.int .i64 0) := (hgr.block b (heap_lt HX4.out) (fun e => by cases e; exact Nat.lt_irrefl _ HBQ.out)).trans HX4.out
  have HR6 : Hid (At17 27 w5 w.heap.size (.int .i64 0) (.bool false) (.int .i64 0) (.int .i64 0) (.int .i64 0) (.int .i64 0) (.bool false) (.int .i64 0) (.int .i64 0) (.bool false) (.int .i64 0) (.int .i64 0) (.int .i64 0) (.int .i64 0) (.bool false) (.int .i64 0) (.int .i64 0)) := (hgr.block w.heap.size (heap_lt HR5.out) (fun e => by cases e; have := HQS.out; omega)).trans HR5.out
  have hb5 := HB5.out.trans (rd_below hgr HRD5.out (by have := HQS.out; omega))
  obtain ⟨q0, q1, q2, q3, q4, q5, q6, q7, q8, q9, q10, q11, q12, q13, q14, q15, q16⟩ := cells17 hX5
  obtain ⟨f0, f1, f2, f3, f4, f5, f6, f7, f8, f9, f10, f11, f12, f13, f14, f15, f16⟩ := free17 hX5
  have hX6 := heap_setE hX5 (.int .i64 a0) (.int .i64 a1) (.int .i64 a2) (.bool a3) (.int .i64 a4) (.int .i64 a5) (.bool a6)
  have hR6 : At17 27 (setE w5 b (.int .i64 a0) (.int .i64 a1) (.int .i64 a2) (.bool a3) (.int .i64 a4) (.int .i64 a5) (.bool a6)) w.heap.size (.int .i64 0) (.bool false) (.int .i64 0) (.int .i64 0) (.int .i64 0) (.int .i64 0) (.bool false) (.int .i64 0) (.int .i64 0) (.bool false) (.int .i64 0) (.int .i64 0) (.int .i64 0) (.int .i64 0) (.bool false) (.int .i64 0) (.int .i64 0) := (setE_other _ _ _ _ _ _ _ HRX.out).trans HR6.out
  have hb6 := below_setE hb5 HRB.out (.int .i64 a0) (.int .i64 a1) (.int .i64 a2) (.bool a3) (.int .i64 a4) (.int .i64 a5) (.bool a6)
  have hrd6 : RdAt (setE w5 b (.int .i64 a0) (.int .i64 a1) (.int .i64 a2) (.bool a3) (.int .i64 a4) (.int .i64 a5) (.bool a6)) q st4 := RdAt.keep hrd (setE_other _ _ _ _ _ _ _ (Nat.ne_of_lt HBQ.out))
  obtain ⟨u5, hu5⟩ : ∃ u, setE w5 b (.int .i64 a0) (.int .i64 a1) (.int .i64 a2) (.bool a3) (.int .i64 a4) (.int .i64 a5) (.bool a6) = u := ⟨_, rfl⟩
  have HL6 := Lib.hid hX6
  rw [hu5] at hX6 hR6 hb6 hrd6
  have HX6 := Lib.hid hX6
  have HR7 := Lib.hid hR6
  have HB7 := Lib.hid hb6
  have HRD7 := Lib.hid hrd6
  have HU5 := Lib.hid hu5
  have CS := Lib.hid (service_is n0 true 0 a0 a1 a2 a3 a4 a5 a6 0 0 0 0 false 0 0 sv HSV.out u5)
  clear hX5 hX6 hR6 hb6 hrd6 hb5 hrd hgr hu5 CT HX4 HR5 HB5 HRD5 HR6
  go_wp2_with (refine ld17 (b := b) (v0 := .int .i64 n0) (v1 := .bool true) (v2 := .int .i64 0) (v3 := .int .i64 a0) (v4 := .int .i64 a1) (v5 := .int .i64 a2) (v6 := .bool a3) (v7 := .int .i64 a4) (v8 := .int .i64 a5) (v9 := .bool a6) (v10 := .int .i64 0) (v11 := .int .i64 0) (v12 := .int .i64 0) (v13 := .int .i64 0) (v14 := .bool false) (v15 := .int .i64 0) (v16 := .int .i64 0) ?_ (.tmp 5) (by kernel_rfl) rfl rfl ?_; · with_reducible exact HL6.out)
  rw [show (((((((w5.setCell ⟨b, 3, none⟩ (.int .i64 a0)).setCell ⟨b, 4, none⟩ (.int .i64 a1)).setCell ⟨b, 5, none⟩ (.int .i64 a2)).setCell ⟨b, 6, none⟩ (.bool a3)).setCell ⟨b, 7, none⟩ (.int .i64 a4)).setCell ⟨b, 8, none⟩ (.int .i64 a5)).setCell ⟨b, 9, none⟩ (.bool a6)) = u5 from HU5.out]
  clear HL6 q0 q1 q2 q3 q4 q5 q6 q7 q8 q9 q10 q11 q12 q13 q14 q15 q16 f0 f1 f2 f3 f4 f5 f6 f7 f8 f9 f10 f11 f12 f13 f14 f15 f16
  refine CS.out.mono ?_
  rintro e w6 ⟨rfl, hb⟩
  have hX7 := HX6.out.keep hb
  have hR7 := HR7.out.keep hb
  have hb7 := below_keep HB7.out hb HB7.out.size
  have hrd7 := RdAt.below HRD7.out hb
  obtain ⟨q0, q1, q2, q3, q4, q5, q6, q7, q8, q9, q10, q11, q12, q13, q14, q15, q16⟩ := cells17 hX7
  obtain ⟨f0, f1, f2, f3, f4, f5, f6, f7, f8, f9, f10, f11, f12, f13, f14, f15, f16⟩ := free17 hX7
  have hX8 := heap_setS hX7 (.int .i64 sv)
  have hR8 : At17 27 (setS w6 b (.int .i64 sv)) w.heap.size (.int .i64 0) (.bool false) (.int .i64 0) (.int .i64 0) (.int .i64 0) (.int .i64 0) (.bool false) (.int .i64 0) (.int .i64 0) (.bool false) (.int .i64 0) (.int .i64 0) (.int .i64 0) (.int .i64 0) (.bool false) (.int .i64 0) (.int .i64 0) := (setS_other _ HRX.out).trans hR7
  have hb8 := below_setS hb7 HRB.out (.int .i64 sv)
  have hrd8 : RdAt (setS w6 b (.int .i64 sv)) q st4 := RdAt.keep hrd7 (setS_other _ (Nat.ne_of_lt HBQ.out))
  obtain ⟨u6, hu6⟩ : ∃ u, setS w6 b (.int .i64 sv) = u := ⟨_, rfl⟩
  rw [hu6] at hX8 hR8 hb8 hrd8
  have HX8 := Lib.hid hX8
  have HR8 := Lib.hid hR8
  have HB8 := Lib.hid hb8
  have HU6 := Lib.hid hu6
  have CD := Lib.hid (Wire.rddone_is q st4 d u6 hrd8 HD.out)
  clear hX7 hR7 hb7 hrd7 hX8 hR8 hb8 hrd8 hb hu6 CS HX6 HR7 HB7 HRD7
  go_wp2_with fail
  rw [show w6.setCell ⟨b, 2, none⟩ (.int .i64 sv) = u6 from HU6.out]
  clear q0 q1 q2 q3 q4 q5 q6 q7 q8 q9 q10 q11 q12 q13 q14 q15 q16 f0 f1 f2 f3 f4 f5 f6 f7 f8 f9 f10 f11 f12 f13 f14 f15 f16
  refine CD.out.mono ?_
  rintro e w7 ⟨rfl, hb⟩
  have HX9 := Lib.hid (HX8.out.keep hb)
  have HRE := Lib.hid (HR8.out.keep hb)
  have HBE := Lib.hid (below_keep HB8.out hb HB8.out.size)
  clear hb HX8 HR8 HB8 CD
  cases d with
  | false =>
    go_simp
    rename_i K2 hK2 K1 hK1
    refine hK1 _ _ ?_
    clear hK1 K1
    iterate 2 (refine wpList_plain rfl fun K hK => ?_; go_simp; refine hK _ _ ?_; clear hK K)
    iterate 3 (refine wpList_skip (by kernel_rfl) ?_; simp only [Act.put, List.setIfInBounds_toArray, List.set_cons_succ, List.set_cons_zero])
    refine wpList_plain rfl fun K hK => ?_; go_simp; refine hK _ _ ?_; clear hK K
    refine wpList_nil ?_
    refine hK2 _ _ ?_
    clear hK2 K2
    iterate 3 go_step
    refine wpList_plain rfl fun K hK => ?_
    go_simp
    refine hK _ _ ?_
    clear hK K
    refine st17 HRE.out (.tmp 2) (.tmp 34) rfl rfl rfl rfl rfl ?_
    simp only [Act.put, List.setIfInBounds_toArray, List.set_cons_succ, List.set_cons_zero]
    go_wp2_with fail
    obtain ⟨e1, e2⟩ := HN.out (.inl (by first | rfl | trivial))
    cases e1
    cases e2
    have HZ := Lib.hid (heap_put17 HRE.out (.int .i64 0) (.bool false) (.int .i64 0) (.int .i64 0) (.int .i64 0) (.int .i64 0) (.bool false) (.int .i64 0) (.int .i64 0) (.bool false) (.int .i64 0) (.int .i64 0) (.int .i64 0) (.int .i64 0) (.bool false) (.int .i64 0) (.int .i64 0))
    have HBZ := Lib.hid (below_put17 HBE.out (Nat.le_refl _) (.int .i64 0) (.bool false) (.int .i64 0) (.int .i64 0) (.int .i64 0) (.int .i64 0) (.bool false) (.int .i64 0) (.int .i64 0) (.bool false) (.int .i64 0) (.int .i64 0) (.int .i64 0) (.int .i64 0) (.bool false) (.int .i64 0) (.int .i64 0))
    exact bodyPost_ret (results_v (j := 2) (k := 3) rfl _ _ w.heap.size _ _ _ _ _ _ _ _ _ _ _ _ _ _ _ _ _ rfl HZ.out) rfl ⟨rfl, HBZ.out⟩
  | true =>
    have CF := Lib.hid (fit_is n0 true sv a0 a1 a2 a3 a4 a5 a6 0 0 0 0 false 0 0 fv HFV.out w7)
    go_simp
    rename_i K1 hK1
    refine hK1 _ _ ?_
    clear hK1 K1
    iterate 2 (refine wpList_plain rfl fun K hK => ?_; go_simp; refine hK _ _ ?_; clear hK K)
    refine ld17 HX9.out (.tmp 5) (by kernel_rfl) rfl rfl ?_
    simp only [Act.put, List.setIfInBounds_toArray, List.set_cons_succ, List.set_cons_zero]
    go_wp2_with fail
    refine CF.out.mono ?_
    rintro e w8 ⟨rfl, hb⟩
    have HXA := Lib.hid (HX9.out.keep hb)
    have HRA := Lib.hid (HRE.out.keep hb)
    have HBA := Lib.hid (below_keep HBE.out hb HBE.out.size)
    clear hb HX9 HRE HBE CF
    have HRE := Lib.hid HRA.out
    have HBE := Lib.hid HBA.out
    clear HRA HBA
    cases fv with
    | false =>
      obtain ⟨e1, e2⟩ := HN.out (.inr (by first | rfl | trivial))
      cases e1
      cases e2
      go_wp2_with (refine wpList_plain rfl fun K hK => ?_; go_simp; refine hK _ _ ?_; clear hK K; refine st17 HRE.out (.tmp 2) (.tmp 34) rfl rfl rfl rfl rfl ?_; simp only [Act.put, List.setIfInBounds_toArray, List.set_cons_succ, List.set_cons_zero])
      have HZ := Lib.hid (heap_put17 HRE.out (.int .i64 0) (.bool false) (.int .i64 0) (.int .i64 0) (.int .i64 0) (.int .i64 0) (.bool false) (.int .i64 0) (.int .i64 0) (.bool false) (.int .i64 0) (.int .i64 0) (.int .i64 0) (.int .i64 0) (.bool false) (.int .i64 0) (.int .i64 0))
      have HBZ := Lib.hid (below_put17 HBE.out (Nat.le_refl _) (.int .i64 0) (.bool false) (.int .i64 0) (.int .i64 0) (.int .i64 0) (.int .i64 0) (.bool false) (.int .i64 0) (.int .i64 0) (.bool false) (.int .i64 0) (.int .i64 0) (.int .i64 0) (.int .i64 0) (.bool false) (.int .i64 0) (.int .i64 0))
      exact bodyPost_ret (results_v (j := 2) (k := 3) rfl _ _ w.heap.size _ _ _ _ _ _ _ _ _ _ _ _ _ _ _ _ _ rfl HZ.out) rfl ⟨rfl, HBZ.out⟩
    | true =>
      obtain ⟨e1, e2⟩ := HY.out (by first | rfl | trivial) (by first | rfl | trivial)
      cases e1
      cases e2
      go_wp2_with (refine ld17 HXA.out (.tmp 5) (by kernel_rfl) rfl rfl ?_; simp only [Act.put, List.setIfInBounds_toArray, List.set_cons_succ, List.set_cons_zero]; refine st17 HRE.out (.tmp 2) (.tmp 35) rfl rfl rfl rfl rfl ?_; simp only [Act.put, List.setIfInBounds_toArray, List.set_cons_succ, List.set_cons_zero])
      have HZ := Lib.hid (heap_put17 HRE.out (.int .i64 m0) (.bool true) (.int .i64 m2) (.int .i64 y0) (.int .i64 y1) (.int .i64 y2) (.bool y3) (.int .i64 y4) (.int .i64 y5) (.bool y6) (.int .i64 0) (.int .i64 0) (.int .i64 0) (.int .i64 0) (.bool false) (.int .i64 0) (.int .i64 0))
      have HBZ := Lib.hid (below_put17 HBE.out (Nat.le_refl _) (.int .i64 m0) (.bool true) (.int .i64 m2) (.int .i64 y0) (.int .i64 y1) (.int .i64 y2) (.bool y3) (.int .i64 y4) (.int .i64 y5) (.bool y6) (.int .i64 0) (.int .i64 0) (.int .i64 0) (.int .i64 0) (.bool false) (.int .i64 0) (.int .i64 0))
      exact bodyPost_ret (results_v (j := 2) (k := 3) rfl _ _ w.heap.size _ _ _ _ _ _ _ _ _ _ _ _ _ _ _ _ _ rfl HZ.out) rfl ⟨rfl, HBZ.out⟩
set_option maxHeartbeats 4000000 in
theorem take_told (s : ByteArray) (m0 : Int) (m1 : Bool) (m2 : Int) (y0 : Int) (y1 : Int) (y2 : Int) (y3 : Bool) (y4 : Int) (y5 : Int) (y6 : Bool) (s0 : Int) (s1 : Int) (s2 : Int) (s3 : Int) (s4 : Bool) (s5 : Int) (s6 : Int) (er : Int) (i0 n0 : Int) (st1 st2 st3 : Rd) (h1 : rdInt 1 1 (some s.data.toList) = (i0, st1)) (h2 : rdInt 1 1099511627776 st1 = (n0, st2)) (h3 : rdFlag st2 = (false, st3)) (hx : gotV (progV s.data.toList) = ⟨m0, m1, m2, ⟨y0, y1, y2, y3, y4, y5, y6⟩, ⟨s0, s1, s2, s3, s4, s5, s6⟩⟩) (he : errV (progV s.data.toList) = er) (hk : s.size ≤ 4398046511104) (w : World) :
    Calls Try.prog 17 #[.string s] w fun e w' => e = .returned (.tuple #[.agg #[.int .i64 m0, .bool m1, .int .i64 m2, .int .i64 y0, .int .i64 y1, .int .i64 y2, .bool y3, .int .i64 y4, .int .i64 y5, .bool y6, .int .i64 s0, .int .i64 s1, .int .i64 s2, .int .i64 s3, .bool s4, .int .i64 s5, .int .i64 s6], .int .i64 er]) ∧ Below w.heap.size w w' := by
  have HP : Hid (pV s.data.toList = restV n0 (false, st3)) := by
    show _ = _
    unfold pV
    simp only [h1, h2, h3]
  have HX := Lib.hid hx
  have HE := Lib.hid he
  clear hx he
  have hR0 := at17_new 27 w (.int .i64 0) (.bool false) (.int .i64 0) (.int .i64 0) (.int .i64 0) (.int .i64 0) (.bool false) (.int .i64 0) (.int .i64 0) (.bool false) (.int .i64 0) (.int .i64 0) (.int .i64 0) (.int .i64 0) (.bool false) (.int .i64 0) (.int .i64 0)
  have hb0 := (Below.refl w.heap.size w).alloc (Nat.le_refl _) (.cells #[.int .i64 0, .bool false, .int .i64 0, .int .i64 0, .int .i64 0, .int .i64 0, .bool false, .int .i64 0, .int .i64 0, .bool false, .int .i64 0, .int .i64 0, .int .i64 0, .int .i64 0, .bool false, .int .i64 0, .int .i64 0] 27)
  have hsz : (w.alloc (.cells #[.int .i64 0, .bool false, .int .i64 0, .int .i64 0, .int .i64 0, .int .i64 0, .bool false, .int .i64 0, .int .i64 0, .bool false, .int .i64 0, .int .i64 0, .int .i64 0, .int .i64 0, .bool false, .int .i64 0, .int .i64 0] 27)).heap.size = w.heap.size + 1 := by rw [World.size_alloc]
  obtain ⟨u, hu⟩ : ∃ u, w.alloc (.cells #[.int .i64 0, .bool false, .int .i64 0, .int .i64 0, .int .i64 0, .int .i64 0, .bool false, .int .i64 0, .int .i64 0, .bool false, .int .i64 0, .int .i64 0, .int .i64 0, .int .i64 0, .bool false, .int .i64 0, .int .i64 0] 27) = u := ⟨_, rfl⟩
  rw [hu] at hR0 hb0 hsz
  have HR0 := Lib.hid hR0
  have HB0 := Lib.hid hb0
  have HU := Lib.hid hu
  have HSZ := Lib.hid hsz
  have CN := Lib.hid (Wire.new_any s u hk)
  have H1 := Lib.hid h1
  have H2 := Lib.hid h2
  have H3 := Lib.hid h3
  clear hR0 hb0 hsz hu h1 h2 h3
  go_enter Try.func17, Try.ntmps17
  go_wp2_with fail
  rw [show w.alloc (.cells #[.int .i64 0, .bool false, .int .i64 0, .int .i64 0, .int .i64 0, .int .i64 0, .bool false, .int .i64 0, .int .i64 0, .bool false, .int .i64 0, .int .i64 0, .int .i64 0, .int .i64 0, .bool false, .int .i64 0, .int .i64 0] 27) = u from HU.out]
  refine CN.out.mono ?_
  rintro e w1 ⟨rfl, hrd, hb⟩
  obtain ⟨q, hq⟩ : ∃ q, u.heap.size = q := ⟨_, rfl⟩
  rw [hq] at hrd
  have HQ := Lib.hid hq
  have HQS : Hid (q = w.heap.size + 1) := hq.symm.trans HSZ.out
  have HR1 := Lib.hid (HR0.out.keep hb)
  have HB1 := Lib.hid (below_keep HB0.out hb HB0.out.size)
  have C1 := Lib.hid (Wire.rdint_is q _ st1 1 1 i0 w1 hrd H1.out)
  have HRD1 := Lib.hid hrd
  clear hb hq hrd CN HR0 HB0
  go_wp2_with fail
  rw [show u.heap.size = q from HQ.out]
  refine C1.out.mono ?_
  rintro e w2 ⟨rfl, hrd, hgr⟩
  have HR2 : Hid (At17 27 w2 w.heap.size (.int .i64 0) (.bool false) (.int .i64 0) (.int .i64 0) (.int .i64 0) (.int .i64 0) (.bool false) (.int .i64 0) (.int .i64 0) (.bool false) (.int .i64 0) (.int .i64 0) (.int .i64 0) (.int .i64 0) (.bool false) (.int .i64 0) (.int .i64 0)) := (hgr.block w.heap.size (heap_lt HR1.out) (fun e => by cases e; have := HQS.out; omega)).trans HR1.out
  have HB2 := Lib.hid (HB1.out.trans (rd_below hgr HRD1.out (by have := HQS.out; omega)))
  have C2 := Lib.hid (Wire.rdint_is q _ st2 1 1099511627776 n0 w2 hrd H2.out)
  have HRD2 := Lib.hid hrd
  clear hrd hgr C1 HR1 HB1 HRD1
  go_wp2_with fail
  refine C2.out.mono ?_
  rintro e w3 ⟨rfl, hrd, hgr⟩
  have HR3 : Hid (At17 27 w3 w.heap.size (.int .i64 0) (.bool false) (.int .i64 0) (.int .i64 0) (.int .i64 0) (.int .i64 0) (.bool false) (.int .i64 0) (.int .i64 0) (.bool false) (.int .i64 0) (.int .i64 0) (.int .i64 0) (.int .i64 0) (.bool false) (.int .i64 0) (.int .i64 0)) := (hgr.block w.heap.size (heap_lt HR2.out) (fun e => by cases e; have := HQS.out; omega)).trans HR2.out
  have HB3 := Lib.hid (HB2.out.trans (rd_below hgr HRD2.out (by have := HQS.out; omega)))
  have C3 := Lib.hid (Wire.rdflag_is q _ st3 false w3 hrd H3.out)
  have HRD3 := Lib.hid hrd
  clear hrd hgr C2 HR2 HB2 HRD2
  go_wp2_with fail
  refine C3.out.mono ?_
  rintro e w4 ⟨rfl, hrd, hgr⟩
  have HR4 : Hid (At17 27 w4 w.heap.size (.int .i64 0) (.bool false) (.int .i64 0) (.int .i64 0) (.int .i64 0) (.int .i64 0) (.bool false) (.int .i64 0) (.int .i64 0) (.bool false) (.int .i64 0) (.int .i64 0) (.int .i64 0) (.int .i64 0) (.bool false) (.int .i64 0) (.int .i64 0)) := (hgr.block w.heap.size (heap_lt HR3.out) (fun e => by cases e; have := HQS.out; omega)).trans HR3.out
  have HB4 := Lib.hid (HB3.out.trans (rd_below hgr HRD3.out (by have := HQS.out; omega)))
  have HRD4 := Lib.hid hrd
  clear hrd hgr C3 HR3 HB3 HRD3
  obtain ⟨a0, a1, a2, a3, a4, a5, a6, ha⟩ : ∃ a0 a1 a2 a3 a4 a5 a6, takeR st3 = ⟨a0, a1, a2, a3, a4, a5, a6⟩ := rp_split _
  obtain ⟨st4, h4⟩ : ∃ t, (rdR st3).2 = t := ⟨_, rfl⟩
  have hsv : a0 = a0 := rfl
  have hp := HP.out
  unfold restV at hp
  simp only [Bool.false_eq_true, if_false, ha, h4] at hp
  obtain ⟨d, hd⟩ : ∃ d, done st4 = d := ⟨_, rfl⟩
  obtain ⟨fv, hfv⟩ : ∃ f, fitV ⟨n0, false, a0, en0, ⟨a0, a1, a2, a3, a4, a5, a6⟩⟩ = f := ⟨_, rfl⟩
  have HY : Hid (d = true → fv = true → (⟨n0, false, a0, en0, ⟨a0, a1, a2, a3, a4, a5, a6⟩⟩ : Ev) = ⟨m0, m1, m2, ⟨y0, y1, y2, y3, y4, y5, y6⟩, ⟨s0, s1, s2, s3, s4, s5, s6⟩⟩ ∧ er = 0) := by
    intro e1 e2
    have hg : progV s.data.toList = some ⟨n0, false, a0, en0, ⟨a0, a1, a2, a3, a4, a5, a6⟩⟩ := by
      unfold progV
      rw [hp]
      simp only
      rw [hd, hfv, if_pos ⟨e1, e2⟩]
    rw [← HX.out, ← HE.out, hg]
    exact ⟨rfl, rfl⟩
  have HN : Hid (d = false ∨ fv = false → (⟨m0, m1, m2, ⟨y0, y1, y2, y3, y4, y5, y6⟩, ⟨s0, s1, s2, s3, s4, s5, s6⟩⟩ : Ev) = ev0 ∧ er = 7) := by
    intro e1
    have hg : progV s.data.toList = none := by
      unfold progV
      rw [hp]
      simp only
      rw [hd, hfv, if_neg (by rintro ⟨g1, g2⟩; rcases e1 with e | e <;> simp_all)]
    rw [← HX.out, ← HE.out, hg]
    exact ⟨rfl, rfl⟩
  have HD := Lib.hid hd
  have HFV := Lib.hid hfv
  have HSV : Hid (svcV ⟨n0, false, 0, en0, ⟨a0, a1, a2, a3, a4, a5, a6⟩⟩ = a0) := hsv
  have hX4 := at17_new 27 w4 (.int .i64 n0) (.bool false) (.int .i64 0) (.int .i64 0) (.int .i64 0) (.int .i64 0) (.bool false) (.int .i64 0) (.int .i64 0) (.bool false) (.int .i64 0) (.int .i64 0) (.int .i64 0) (.int .i64 0) (.bool false) (.int .i64 0) (.int .i64 0)
  have hR4 := HR4.out.alloc (.cells #[.int .i64 n0, .bool false, .int .i64 0, .int .i64 0, .int .i64 0, .int .i64 0, .bool false, .int .i64 0, .int .i64 0, .bool false, .int .i64 0, .int .i64 0, .int .i64 0, .int .i64 0, .bool false, .int .i64 0, .int .i64 0] 27)
  have hb4 := HB4.out.alloc HB4.out.size (.cells #[.int .i64 n0, .bool false, .int .i64 0, .int .i64 0, .int .i64 0, .int .i64 0, .bool false, .int .i64 0, .int .i64 0, .bool false, .int .i64 0, .int .i64 0, .int .i64 0, .int .i64 0, .bool false, .int .i64 0, .int .i64 0] 27)
  have hrd4 := RdAt.below HRD4.out ((Below.refl _ w4).alloc (Nat.le_refl _) (.cells #[.int .i64 n0, .bool false, .int .i64 0, .int .i64 0, .int .i64 0, .int .i64 0, .bool false, .int .i64 0, .int .i64 0, .bool false, .int .i64 0, .int .i64 0, .int .i64 0, .int .i64 0, .bool false, .int .i64 0, .int .i64 0] 27))
  obtain ⟨b, hb⟩ : ∃ b, w4.heap.size = b := ⟨_, rfl⟩
  obtain ⟨u4, hu4⟩ : ∃ u, w4.alloc (.cells #[.int .i64 n0, .bool false, .int .i64 0, .int .i64 0, .int .i64 0, .int .i64 0, .bool false, .int .i64 0, .int .i64 0, .bool false, .int .i64 0, .int .i64 0, .int .i64 0, .int .i64 0, .bool false, .int .i64 0, .int .i64 0] 27) = u := ⟨_, rfl⟩
  rw [hu4] at hX4 hR4 hb4 hrd4
  rw [hb] at hX4
  have HBQ : Hid (q < b) := by show _ < _; rw [← hb]; exact HRD4.out.lt
  have HRB : Hid (w.heap.size ≤ b) := by show _ ≤ _; have := HQS.out; have := HBQ.out; omega
  have HRX : Hid (w.heap.size ≠ b) := by show _ ≠ _; have := HQS.out; have := HBQ.out; omega
  have HX4 := Lib.hid hX4
  have HR5 := Lib.hid hR4
  have HB5 := Lib.hid hb4
  have HBN := Lib.hid hb
  have HU4 := Lib.hid hu4
  have HRD5 := Lib.hid hrd4
  have CT := Lib.hid (taker_is q st3 st4 a0 a1 a2 a3 a4 a5 a6 ha h4 u4 hrd4)
  clear hX4 hR4 hb4 hrd4 hb hu4 hd hfv hsv hp ha h4 HP HX HE
  go_wp2_with fail
  rw [show w4.alloc (.cells #[.int .i64 n0, .bool false, .int .i64 0, .int .i64 0, .int .i64 0, .int .i64 0, .bool false, .int .i64 0, .int .i64 0, .bool false, .int .i64 0, .int .i64 0, .int .i64 0, .int .i64 0, .bool false, .int .i64 0, .int .i64 0] 27) = u4 from HU4.out, show w4.heap.size = b from HBN.out]
  refine CT.out.mono ?_
  rintro e w5 ⟨rfl, hrd, hgr⟩
  have hX5 : At17 27 w5 b (.int .i64 n0) (.bool false) (.int .i64 0) (.int .i64 0) (.int .i64 0) (.int .i64 0) (.bool false) (.int .i64 0) (.int .i64 0) (.bool false) (.int .i64 0) (.int .i64 0) (.int .i64 0) (.int .i64 0) (.bool false) (.int .i64 0) (.int .i64 0) := (hgr.block b (heap_lt HX4.out) (fun e => by cases e; exact Nat.lt_irrefl _ HBQ.out)).trans HX4.out
  have HR6 : Hid (At17 27 w5 w.heap.size (.int .i64 0) (.bool false) (.int .i64 0) (.int .i64 0) (.int .i64 0) (.int .i64 0) (.bool false) (.int .i64 0) (.int .i64 0) (.bool false) (.int .i64 0) (.int .i64 0) (.int .i64 0) (.int .i64 0) (.bool false) (.int .i64 0) (.int .i64 0)) := (hgr.block w.heap.size (heap_lt HR5.out) (fun e => by cases e; have := HQS.out; omega)).trans HR5.out
  have hb5 := HB5.out.trans (rd_below hgr HRD5.out (by have := HQS.out; omega))
  obtain ⟨q0, q1, q2, q3, q4, q5, q6, q7, q8, q9, q10, q11, q12, q13, q14, q15, q16⟩ := cells17 hX5
  obtain ⟨f0, f1, f2, f3, f4, f5, f6, f7, f8, f9, f10, f11, f12, f13, f14, f15, f16⟩ := free17 hX5
  have hX6 := heap_setR hX5 (.int .i64 a0) (.int .i64 a1) (.int .i64 a2) (.int .i64 a3) (.bool a4) (.int .i64 a5) (.int .i64 a6)
  have hR6 : At17 27 (setR w5 b (.int .i64 a0) (.int .i64 a1) (.int .i64 a2) (.int .i64 a3) (.bool a4) (.int .i64 a5) (.int .i64 a6)) w.heap.size (.int .i64 0) (.bool false) (.int .i64 0) (.int .i64 0) (.int .i64 0) (.int .i64 0) (.bool false) (.int .i64 0) (.int .i64 0) (.bool false) (.int .i64 0) (.int .i64 0) (.int .i64 0) (.int .i64 0) (.bool false) (.int .i64 0) (.int .i64 0) := (setR_other _ _ _ _ _ _ _ HRX.out).trans HR6.out
  have hb6 := below_setR hb5 HRB.out (.int .i64 a0) (.int .i64 a1) (.int .i64 a2) (.int .i64 a3) (.bool a4) (.int .i64 a5) (.int .i64 a6)
  have hrd6 : RdAt (setR w5 b (.int .i64 a0) (.int .i64 a1) (.int .i64 a2) (.int .i64 a3) (.bool a4) (.int .i64 a5) (.int .i64 a6)) q st4 := RdAt.keep hrd (setR_other _ _ _ _ _ _ _ (Nat.ne_of_lt HBQ.out))
  obtain ⟨u5, hu5⟩ : ∃ u, setR w5 b (.int .i64 a0) (.int .i64 a1) (.int .i64 a2) (.int .i64 a3) (.bool a4) (.int .i64 a5) (.int .i64 a6) = u := ⟨_, rfl⟩
  have HL6 := Lib.hid hX6
  rw [hu5] at hX6 hR6 hb6 hrd6
  have HX6 := Lib.hid hX6
  have HR7 := Lib.hid hR6
  have HB7 := Lib.hid hb6
  have HRD7 := Lib.hid hrd6
  have HU5 := Lib.hid hu5
  have CS := Lib.hid (service_is n0 false 0 0 0 0 false 0 0 false a0 a1 a2 a3 a4 a5 a6 a0 HSV.out u5)
  clear hX5 hX6 hR6 hb6 hrd6 hb5 hrd hgr hu5 CT HX4 HR5 HB5 HRD5 HR6
  go_wp2_with (refine ld17 (b := b) (v0 := .int .i64 n0) (v1 := .bool false) (v2 := .int .i64 0) (v3 := .int .i64 0) (v4 := .int .i64 0) (v5 := .int .i64 0) (v6 := .bool false) (v7 := .int .i64 0) (v8 := .int .i64 0) (v9 := .bool false) (v10 := .int .i64 a0) (v11 := .int .i64 a1) (v12 := .int .i64 a2) (v13 := .int .i64 a3) (v14 := .bool a4) (v15 := .int .i64 a5) (v16 := .int .i64 a6) ?_ (.tmp 5) (by kernel_rfl) rfl rfl ?_; · with_reducible exact HL6.out)
  rw [show (((((((w5.setCell ⟨b, 10, none⟩ (.int .i64 a0)).setCell ⟨b, 11, none⟩ (.int .i64 a1)).setCell ⟨b, 12, none⟩ (.int .i64 a2)).setCell ⟨b, 13, none⟩ (.int .i64 a3)).setCell ⟨b, 14, none⟩ (.bool a4)).setCell ⟨b, 15, none⟩ (.int .i64 a5)).setCell ⟨b, 16, none⟩ (.int .i64 a6)) = u5 from HU5.out]
  clear HL6 q0 q1 q2 q3 q4 q5 q6 q7 q8 q9 q10 q11 q12 q13 q14 q15 q16 f0 f1 f2 f3 f4 f5 f6 f7 f8 f9 f10 f11 f12 f13 f14 f15 f16
  refine CS.out.mono ?_
  rintro e w6 ⟨rfl, hb⟩
  have hX7 := HX6.out.keep hb
  have hR7 := HR7.out.keep hb
  have hb7 := below_keep HB7.out hb HB7.out.size
  have hrd7 := RdAt.below HRD7.out hb
  obtain ⟨q0, q1, q2, q3, q4, q5, q6, q7, q8, q9, q10, q11, q12, q13, q14, q15, q16⟩ := cells17 hX7
  obtain ⟨f0, f1, f2, f3, f4, f5, f6, f7, f8, f9, f10, f11, f12, f13, f14, f15, f16⟩ := free17 hX7
  have hX8 := heap_setS hX7 (.int .i64 a0)
  have hR8 : At17 27 (setS w6 b (.int .i64 a0)) w.heap.size (.int .i64 0) (.bool false) (.int .i64 0) (.int .i64 0) (.int .i64 0) (.int .i64 0) (.bool false) (.int .i64 0) (.int .i64 0) (.bool false) (.int .i64 0) (.int .i64 0) (.int .i64 0) (.int .i64 0) (.bool false) (.int .i64 0) (.int .i64 0) := (setS_other _ HRX.out).trans hR7
  have hb8 := below_setS hb7 HRB.out (.int .i64 a0)
  have hrd8 : RdAt (setS w6 b (.int .i64 a0)) q st4 := RdAt.keep hrd7 (setS_other _ (Nat.ne_of_lt HBQ.out))
  obtain ⟨u6, hu6⟩ : ∃ u, setS w6 b (.int .i64 a0) = u := ⟨_, rfl⟩
  rw [hu6] at hX8 hR8 hb8 hrd8
  have HX8 := Lib.hid hX8
  have HR8 := Lib.hid hR8
  have HB8 := Lib.hid hb8
  have HU6 := Lib.hid hu6
  have CD := Lib.hid (Wire.rddone_is q st4 d u6 hrd8 HD.out)
  clear hX7 hR7 hb7 hrd7 hX8 hR8 hb8 hrd8 hb hu6 CS HX6 HR7 HB7 HRD7
  go_wp2_with fail
  rw [show w6.setCell ⟨b, 2, none⟩ (.int .i64 a0) = u6 from HU6.out]
  clear q0 q1 q2 q3 q4 q5 q6 q7 q8 q9 q10 q11 q12 q13 q14 q15 q16 f0 f1 f2 f3 f4 f5 f6 f7 f8 f9 f10 f11 f12 f13 f14 f15 f16
  refine CD.out.mono ?_
  rintro e w7 ⟨rfl, hb⟩
  have HX9 := Lib.hid (HX8.out.keep hb)
  have HRE := Lib.hid (HR8.out.keep hb)
  have HBE := Lib.hid (below_keep HB8.out hb HB8.out.size)
  clear hb HX8 HR8 HB8 CD
  cases d with
  | false =>
    go_simp
    rename_i K2 hK2 K1 hK1
    refine hK1 _ _ ?_
    clear hK1 K1
    iterate 2 (refine wpList_plain rfl fun K hK => ?_; go_simp; refine hK _ _ ?_; clear hK K)
    iterate 3 (refine wpList_skip (by kernel_rfl) ?_; simp only [Act.put, List.setIfInBounds_toArray, List.set_cons_succ, List.set_cons_zero])
    refine wpList_plain rfl fun K hK => ?_; go_simp; refine hK _ _ ?_; clear hK K
    refine wpList_nil ?_
    refine hK2 _ _ ?_
    clear hK2 K2
    iterate 3 go_step
    refine wpList_plain rfl fun K hK => ?_
    go_simp
    refine hK _ _ ?_
    clear hK K
    refine st17 HRE.out (.tmp 2) (.tmp 34) rfl rfl rfl rfl rfl ?_
    simp only [Act.put, List.setIfInBounds_toArray, List.set_cons_succ, List.set_cons_zero]
    go_wp2_with fail
    obtain ⟨e1, e2⟩ := HN.out (.inl (by first | rfl | trivial))
    cases e1
    cases e2
    have HZ := Lib.hid (heap_put17 HRE.out (.int .i64 0) (.bool false) (.int .i64 0) (.int .i64 0) (.int .i64 0) (.int .i64 0) (.bool false) (.int .i64 0) (.int .i64 0) (.bool false) (.int .i64 0) (.int .i64 0) (.int .i64 0) (.int .i64 0) (.bool false) (.int .i64 0) (.int .i64 0))
    have HBZ := Lib.hid (below_put17 HBE.out (Nat.le_refl _) (.int .i64 0) (.bool false) (.int .i64 0) (.int .i64 0) (.int .i64 0) (.int .i64 0) (.bool false) (.int .i64 0) (.int .i64 0) (.bool false) (.int .i64 0) (.int .i64 0) (.int .i64 0) (.int .i64 0) (.bool false) (.int .i64 0) (.int .i64 0))
    exact bodyPost_ret (results_v (j := 2) (k := 3) rfl _ _ w.heap.size _ _ _ _ _ _ _ _ _ _ _ _ _ _ _ _ _ rfl HZ.out) rfl ⟨rfl, HBZ.out⟩
  | true =>
    have CF := Lib.hid (fit_is n0 false a0 0 0 0 false 0 0 false a0 a1 a2 a3 a4 a5 a6 fv HFV.out w7)
    go_simp
    rename_i K1 hK1
    refine hK1 _ _ ?_
    clear hK1 K1
    iterate 2 (refine wpList_plain rfl fun K hK => ?_; go_simp; refine hK _ _ ?_; clear hK K)
    refine ld17 HX9.out (.tmp 5) (by kernel_rfl) rfl rfl ?_
    simp only [Act.put, List.setIfInBounds_toArray, List.set_cons_succ, List.set_cons_zero]
    go_wp2_with fail
    refine CF.out.mono ?_
    rintro e w8 ⟨rfl, hb⟩
    have HXA := Lib.hid (HX9.out.keep hb)
    have HRA := Lib.hid (HRE.out.keep hb)
    have HBA := Lib.hid (below_keep HBE.out hb HBE.out.size)
    clear hb HX9 HRE HBE CF
    have HRE := Lib.hid HRA.out
    have HBE := Lib.hid HBA.out
    clear HRA HBA
    cases fv with
    | false =>
      obtain ⟨e1, e2⟩ := HN.out (.inr (by first | rfl | trivial))
      cases e1
      cases e2
      go_wp2_with (refine wpList_plain rfl fun K hK => ?_; go_simp; refine hK _ _ ?_; clear hK K; refine st17 HRE.out (.tmp 2) (.tmp 34) rfl rfl rfl rfl rfl ?_; simp only [Act.put, List.setIfInBounds_toArray, List.set_cons_succ, List.set_cons_zero])
      have HZ := Lib.hid (heap_put17 HRE.out (.int .i64 0) (.bool false) (.int .i64 0) (.int .i64 0) (.int .i64 0) (.int .i64 0) (.bool false) (.int .i64 0) (.int .i64 0) (.bool false) (.int .i64 0) (.int .i64 0) (.int .i64 0) (.int .i64 0) (.bool false) (.int .i64 0) (.int .i64 0))
      have HBZ := Lib.hid (below_put17 HBE.out (Nat.le_refl _) (.int .i64 0) (.bool false) (.int .i64 0) (.int .i64 0) (.int .i64 0) (.int .i64 0) (.bool false) (.int .i64 0) (.int .i64 0) (.bool false) (.int .i64 0) (.int .i64 0) (.int .i64 0) (.int .i64 0) (.bool false) (.int .i64 0) (.int .i64 0))
      exact bodyPost_ret (results_v (j := 2) (k := 3) rfl _ _ w.heap.size _ _ _ _ _ _ _ _ _ _ _ _ _ _ _ _ _ rfl HZ.out) rfl ⟨rfl, HBZ.out⟩
    | true =>
      obtain ⟨e1, e2⟩ := HY.out (by first | rfl | trivial) (by first | rfl | trivial)
      cases e1
      cases e2
      go_wp2_with (refine ld17 HXA.out (.tmp 5) (by kernel_rfl) rfl rfl ?_; simp only [Act.put, List.setIfInBounds_toArray, List.set_cons_succ, List.set_cons_zero]; refine st17 HRE.out (.tmp 2) (.tmp 35) rfl rfl rfl rfl rfl ?_; simp only [Act.put, List.setIfInBounds_toArray, List.set_cons_succ, List.set_cons_zero])
      have HZ := Lib.hid (heap_put17 HRE.out (.int .i64 m0) (.bool false) (.int .i64 m2) (.int .i64 0) (.int .i64 0) (.int .i64 0) (.bool false) (.int .i64 0) (.int .i64 0) (.bool false) (.int .i64 m2) (.int .i64 s1) (.int .i64 s2) (.int .i64 s3) (.bool s4) (.int .i64 s5) (.int .i64 s6))
      have HBZ := Lib.hid (below_put17 HBE.out (Nat.le_refl _) (.int .i64 m0) (.bool false) (.int .i64 m2) (.int .i64 0) (.int .i64 0) (.int .i64 0) (.bool false) (.int .i64 0) (.int .i64 0) (.bool false) (.int .i64 m2) (.int .i64 s1) (.int .i64 s2) (.int .i64 s3) (.bool s4) (.int .i64 s5) (.int .i64 s6))
      exact bodyPost_ret (results_v (j := 2) (k := 3) rfl _ _ w.heap.size _ _ _ _ _ _ _ _ _ _ _ _ _ _ _ _ _ rfl HZ.out) rfl ⟨rfl, HBZ.out⟩
theorem take_is (s : ByteArray) (m0 : Int) (m1 : Bool) (m2 : Int) (y0 : Int) (y1 : Int) (y2 : Int) (y3 : Bool) (y4 : Int) (y5 : Int) (y6 : Bool) (s0 : Int) (s1 : Int) (s2 : Int) (s3 : Int) (s4 : Bool) (s5 : Int) (s6 : Int) (er : Int) (hx : gotV (takeV s.data.toList) = ⟨m0, m1, m2, ⟨y0, y1, y2, y3, y4, y5, y6⟩, ⟨s0, s1, s2, s3, s4, s5, s6⟩⟩) (he : errV (takeV s.data.toList) = er) (hk : s.size ≤ 4398046511104) (w : World) :
    Calls Try.prog 17 #[.string s] w fun e w' => e = .returned (.tuple #[.agg #[.int .i64 m0, .bool m1, .int .i64 m2, .int .i64 y0, .int .i64 y1, .int .i64 y2, .bool y3, .int .i64 y4, .int .i64 y5, .bool y6, .int .i64 s0, .int .i64 s1, .int .i64 s2, .int .i64 s3, .bool s4, .int .i64 s5, .int .i64 s6], .int .i64 er]) ∧ Below w.heap.size w w' := by
  rw [← progV_eq] at hx he
  obtain ⟨i0, st1, h1⟩ : ∃ n t, rdInt 1 1 (some s.data.toList) = (n, t) := ⟨_, _, rfl⟩
  obtain ⟨n0, st2, h2⟩ : ∃ n t, rdInt 1 1099511627776 st1 = (n, t) := ⟨_, _, rfl⟩
  obtain ⟨n1, st3, h3⟩ : ∃ n t, rdFlag st2 = (n, t) := ⟨_, _, rfl⟩
  cases n1 with
  | true => exact take_asked s m0 m1 m2 y0 y1 y2 y3 y4 y5 y6 s0 s1 s2 s3 s4 s5 s6 er i0 n0 st1 st2 st3 h1 h2 h3 hx he hk w
  | false => exact take_told s m0 m1 m2 y0 y1 y2 y3 y4 y5 y6 s0 s1 s2 s3 s4 s5 s6 er i0 n0 st1 st2 st3 h1 h2 h3 hx he hk w
end Go.Proofs.Ytamcidlkbhanfaa.Msg
