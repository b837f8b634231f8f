/-
  How holds stand in memory; the contracts of possible and of the document's One: any hold; what was there stays as it was.
-/
import Derived.Test.YtjclkiabgemfpaaGreatPdHoldsPlain
import Derived.Test.YtjclkiabgemfpaaGreatPdLinesA
import Derived.Test.YtjclkiabgemfpaaGreatPdLinesC
import Derived.Test.YtjclkiabgemfpaaGreatPdNumA
set_option linter.unusedVariables false
set_option maxRecDepth 4000
set_option maxRecDepth 4000
namespace Go.Proofs.YtjclkiabgemfpaaGreat.Holds
open Go.RowKit LinesP HoldsP
open Go.Proofs.YtjclkiabgemfpaaGreat.Lines (LsAt Sz SzM ret_bool ret_int below_keep below_drewN)

abbrev Hz := Hd × Option Addr × Nat
def hz0 : Hz := (hd0, none, 0)
def hs (zs : List Hz) : List Hd := zs.map (·.1)
theorem hs_len (zs : List Hz) : (hs zs).length = zs.length := by simp [hs]
theorem hs_get {zs : List Hz} {k : Nat} (hk : k < zs.length) : (hs zs).getD k hd0 = (zs.getD k hz0).1 := by
  simp [hs, List.getD, hk]
theorem hs_append (a b : List Hz) : hs (a ++ b) = hs a ++ hs b := by simp [hs]
def HzAt (w : World) (a : Option Addr) (len : Nat) (zs : List Hz) : Prop :=
  zs.length = len ∧ len ≤ 9223372036854775807 ∧ (∀ z ∈ zs, LsAt w z.2.1 z.1.ls.length z.1.ls) ∧
  (len = 0 ∨ ∃ b off, a = some ⟨b, off, none⟩ ∧ b < w.heap.size ∧ ∀ i, i < len →
    w.cell? ⟨b, off + i * 3, none⟩ = some (.int .i64 (zs.getD i hz0).1.saga) ∧
    w.cell? ⟨b, off + i * 3 + 1, none⟩ = some (.slice (zs.getD i hz0).2.1 (zs.getD i hz0).1.ls.length (zs.getD i hz0).2.2) ∧
    w.cell? ⟨b, off + i * 3 + 2, none⟩ = some (.int .i64 (zs.getD i hz0).1.til))
theorem HzAt.keep {w w' : World} {a : Option Addr} {len : Nat} {zs : List Hz} (h : HzAt w a len zs) (hb : Below w.heap.size w w') : HzAt w' a len zs :=
  ⟨h.1, h.2.1, fun z hz => (h.2.2.1 z hz).keep hb, h.2.2.2.imp id (fun ⟨b, off, e, hlt, hc⟩ => ⟨b, off, e, by have := hb.size; omega, fun i hi =>
    ⟨(hb.cell (p := ⟨b, off + i * 3, none⟩) hlt).trans (hc i hi).1, (hb.cell (p := ⟨b, off + i * 3 + 1, none⟩) hlt).trans (hc i hi).2.1, (hb.cell (p := ⟨b, off + i * 3 + 2, none⟩) hlt).trans (hc i hi).2.2⟩⟩)⟩
def HsAt (w : World) (a : Option Addr) (len : Nat) (l : List Hd) : Prop := ∃ zs, hs zs = l ∧ HzAt w a len zs
theorem HsAt.keep {w w' : World} {a : Option Addr} {len : Nat} {l : List Hd} (h : HsAt w a len l) (hb : Below w.heap.size w w') : HsAt w' a len l :=
  h.imp fun _ ⟨e, k⟩ => ⟨e, k.keep hb⟩
theorem HsAt.len {w : World} {a : Option Addr} {len : Nat} {l : List Hd} (h : HsAt w a len l) : l.length = len := by
  obtain ⟨zs, rfl, k⟩ := h
  rw [hs_len]; exact k.1
theorem HsAt.le {w : World} {a : Option Addr} {len : Nat} {l : List Hd} (h : HsAt w a len l) : len ≤ 9223372036854775807 := by
  obtain ⟨zs, rfl, k⟩ := h
  exact k.2.1
theorem HsAt.nil (w : World) (a : Option Addr) : HsAt w a 0 [] := ⟨[], rfl, rfl, by omega, fun z hz => (by cases hz), .inl rfl⟩
theorem HsAt.at {w : World} {a : Option Addr} {len : Nat} {l : List Hd} (h : HsAt w a len l) {k : Nat} (hk : k < len) :
    ∃ b off g la lc ls t, a = some ⟨b, off, none⟩ ∧ b < w.heap.size ∧ l.getD k hd0 = ⟨g, ls, t⟩ ∧ ∀ w', Below w.heap.size w w' →
      w'.cell? ⟨b, off + k * 3, none⟩ = some (.int .i64 g) ∧ w'.cell? ⟨b, off + k * 3 + 1, none⟩ = some (.slice la ls.length lc) ∧
      w'.cell? ⟨b, off + k * 3 + 2, none⟩ = some (.int .i64 t) ∧ LsAt w' la ls.length ls := by
  obtain ⟨zs, rfl, k1, k2, k3, k4⟩ := h
  rcases k4 with h0 | ⟨b, off, rfl, hlt, hc⟩
  · omega
  have hkz : k < zs.length := by omega
  have hm : zs.getD k hz0 ∈ zs := by
    rw [show zs.getD k hz0 = zs[k] by simp [List.getD, hkz]]; exact List.getElem_mem hkz
  have hl := k3 _ hm
  have hc1 := hc k hk
  rw [hs_get hkz]
  obtain ⟨⟨⟨g, ls, t⟩, la, lc⟩, hz⟩ : ∃ z, zs.getD k hz0 = z := ⟨_, rfl⟩
  rw [hz] at hl hc1 ⊢
  exact ⟨b, off, g, la, lc, ls, t, rfl, hlt, rfl, fun w' hb => ⟨(hb.cell (p := ⟨b, off + k * 3, none⟩) hlt).trans hc1.1, (hb.cell (p := ⟨b, off + k * 3 + 1, none⟩) hlt).trans hc1.2.1, (hb.cell (p := ⟨b, off + k * 3 + 2, none⟩) hlt).trans hc1.2.2, hl.keep hb⟩⟩
def SzH (l : List Hd) : Prop := ∀ x ∈ l, Sz x.ls
theorem SzH.at {l : List Hd} (h : SzH l) {k : Nat} (hk : k < l.length) {x : Hd} (hx : l.getD k hd0 = x) : Sz x.ls := by
  rw [← hx, show l.getD k hd0 = l[k] by simp [List.getD, hk]]; exact h _ (List.getElem_mem hk)
def box (w : World) (g : Int) (la : Option Addr) (n lc : Nat) (t : Int) : World := w.alloc (.cells #[.int .i64 g, .slice la n lc, .int .i64 t] 69)
theorem box_size (w : World) (g : Int) (la : Option Addr) (n lc : Nat) (t : Int) : (box w g la n lc t).heap.size = w.heap.size + 1 := by simp [box]
theorem box_below (w : World) (g : Int) (la : Option Addr) (n lc : Nat) (t : Int) : Below w.heap.size w (box w g la n lc t) := (Below.refl _ w).alloc (Nat.le_refl _) _
theorem box_cells (w : World) (g : Int) (la : Option Addr) (n lc : Nat) (t : Int) {w' : World} (hb : Below (box w g la n lc t).heap.size (box w g la n lc t) w') :
    w'.cell? ⟨w.heap.size, 0, none⟩ = some (.int .i64 g) ∧ w'.cell? ⟨w.heap.size, 1, none⟩ = some (.slice la n lc) ∧ w'.cell? ⟨w.heap.size, 2, none⟩ = some (.int .i64 t) := by
  have hlt : w.heap.size < (box w g la n lc t).heap.size := by rw [box_size]; omega
  refine ⟨(hb.cell (p := ⟨w.heap.size, 0, none⟩) hlt).trans ?_, (hb.cell (p := ⟨w.heap.size, 1, none⟩) hlt).trans ?_, (hb.cell (p := ⟨w.heap.size, 2, none⟩) hlt).trans ?_⟩ <;>
  · unfold box; rw [World.cell?_alloc_new]; rfl
theorem amtH_eq (n : Int) : amtH n = NumP.amt n := rfl
theorem numfit (n : Int) (b : Bool) (h : NumP.amt n = b) (w : World) : Calls Tryz.prog 107 #[.int .i64 n] w fun e w' => e = .returned (.bool b) ∧ w = w' := by
  have := Num.fit_any n w
  rw [h] at this
  exact this
theorem rnumfit (n : Int) (b : Bool) (h : NumP.amt n = b) (w : World) : Calls Tryz.prog 76 #[.int .i64 n] w fun e w' => e = .returned (.bool b) ∧ w = w' := by
  have := Num.rfit_any n w
  rw [h] at this
  exact this
theorem one_no1 {g t : Int} {ls : List Ln} (h : ¬ 1 ≤ g) : oneH ⟨g, ls, t⟩ = false := by unfold oneH; simp [h]
theorem one_no2 {g t : Int} {ls : List Ln} (h : ¬ g ≤ 1099511627776) : oneH ⟨g, ls, t⟩ = false := by unfold oneH; simp [h]
theorem one_no3 {g t : Int} {ls : List Ln} (h : ¬ 0 < ls.length) : oneH ⟨g, ls, t⟩ = false := by unfold oneH; simp only [decide_eq_false h]; simp
theorem one_no4 {g t : Int} {ls : List Ln} (h : fitL ls = false) : oneH ⟨g, ls, t⟩ = false := by unfold oneH; simp [h]
theorem one_last {g t : Int} {ls : List Ln} (h1 : 1 ≤ g) (h2 : g ≤ 1099511627776) (h3 : 0 < ls.length) (h4 : fitL ls = true) : oneH ⟨g, ls, t⟩ = NumP.amt t := by
  unfold oneH; simp only [decide_eq_true h1, decide_eq_true h2, decide_eq_true h3, h4, Bool.and_self, Bool.true_and, amtH_eq]
theorem amt_split {g : Int} (h1 : 1 ≤ g) : NumP.amt g = decide (g ≤ 1099511627776) := by
  rw [← amtH_eq]; unfold amtH; rw [decide_eq_true (by omega : 0 ≤ g), Bool.true_and]
set_option maxHeartbeats 1000000 in
theorem possible_any (g t : Int) (la : Option Addr) (lc : Nat) (ls : List Ln) (w : World) (h : LsAt w la ls.length ls) (hz : Sz ls) :
    Calls Tryz.prog 72 #[.agg #[.int .i64 g, .slice la ls.length lc, .int .i64 t]] w fun e w' => e = .returned (.bool (oneH ⟨g, ls, t⟩)) ∧ Below w.heap.size w w' := by
  obtain ⟨v, hv⟩ : ∃ v, oneH ⟨g, ls, t⟩ = v := ⟨_, rfl⟩
  rw [hv]
  have HB := Lib.hid (box_below w g la ls.length lc t)
  have HC := Lib.hid (fun w' hb => box_cells w g la ls.length lc t (w' := w') hb)
  have HF := Lib.hid (Lines.fit_any la ls.length lc ls (box w g la ls.length lc t) (h.keep (box_below w g la ls.length lc t)) hz)
  obtain ⟨n, hn⟩ : ∃ n, ls.length = n := ⟨_, rfl⟩
  rw [hn] at HB HC HF ⊢
  have HS := Lib.hid (box_size w g la n lc t)
  have c0 := HC.out _ (Below.refl _ _)
  obtain ⟨W, hW⟩ : ∃ W, box w g la n lc t = W := ⟨_, rfl⟩
  have hW2 : w.alloc (.cells #[.int .i64 g, .slice la n lc, .int .i64 t] 69) = W := hW
  rw [hW] at HB HC HF HS c0
  obtain ⟨d1, d2, d3⟩ := c0
  have HW := Lib.hid hW2
  clear hW h hz hW2
  by_cases h1 : 1 ≤ g
  · by_cases h2 : g ≤ 1099511627776
    · have C1 := Lib.hid (numfit g true (by rw [amt_split h1]; exact decide_eq_true h2) W)
      by_cases h3 : 0 < n
      · cases h4 : fitL ls with
        | false =>
          have HV : Hid (v = false) := by show v = false; rw [← hv]; exact one_no4 h4
          rw [h4] at HF
          clear hv hn h4
          go_enter Tryz.func72, Tryz.ntmps72
          go_wp2_with fail
          rw [show w.alloc (.cells #[.int .i64 g, .slice la n lc, .int .i64 t] 69) = W from HW.out]
          go_wp2_with fail
          refine C1.out.mono ?_
          rintro e w1 ⟨rfl, rfl⟩
          go_wp2_with fail
          refine HF.out.mono ?_
          rintro e w2 ⟨rfl, hb⟩
          have HB2 := Lib.hid (below_keep HB.out hb HB.out.size)
          go_wp2_with fail
          go_ret
          exact ⟨ret_bool HV.out, HB2.out⟩
        | true =>
          have HV : Hid (NumP.amt t = v) := by show NumP.amt t = v; rw [← hv]; exact (one_last h1 h2 (by rw [hn]; exact h3) h4).symm
          have C3 := Lib.hid (fun w' => numfit t v HV.out w')
          rw [h4] at HF
          clear hv hn h4
          go_enter Tryz.func72, Tryz.ntmps72
          go_wp2_with fail
          rw [show w.alloc (.cells #[.int .i64 g, .slice la n lc, .int .i64 t] 69) = W from HW.out]
          go_wp2_with fail
          refine C1.out.mono ?_
          rintro e w1 ⟨rfl, rfl⟩
          go_wp2_with fail
          refine HF.out.mono ?_
          rintro e w2 ⟨rfl, hb⟩
          have HB2 := Lib.hid (below_keep HB.out hb HB.out.size)
          have e3 := (HC.out w2 hb).2.2
          go_wp2_with fail
          refine (C3.out w2).mono ?_
          rintro e w1 ⟨rfl, rfl⟩
          go_wp2_with fail
          go_ret
          exact ⟨rfl, HB2.out⟩
      · have HV : Hid (v = false) := by show v = false; rw [← hv]; exact one_no3 (by rw [hn]; exact h3)
        clear hv hn HF
        go_enter Tryz.func72, Tryz.ntmps72
        go_wp2_with fail
        rw [show w.alloc (.cells #[.int .i64 g, .slice la n lc, .int .i64 t] 69) = W from HW.out]
        go_wp2_with fail
        refine C1.out.mono ?_
        rintro e w1 ⟨rfl, rfl⟩
        go_wp2_with fail
        go_ret
        exact ⟨ret_bool HV.out, HB.out⟩
    · have C1 := Lib.hid (numfit g false (by rw [amt_split h1]; exact decide_eq_false h2) W)
      have HV : Hid (v = false) := by show v = false; rw [← hv]; exact one_no2 h2
      clear hv hn HF
      go_enter Tryz.func72, Tryz.ntmps72
      go_wp2_with fail
      rw [show w.alloc (.cells #[.int .i64 g, .slice la n lc, .int .i64 t] 69) = W from HW.out]
      go_wp2_with fail
      refine C1.out.mono ?_
      rintro e w1 ⟨rfl, rfl⟩
      go_wp2_with fail
      go_ret
      exact ⟨ret_bool HV.out, HB.out⟩
  · have HV : Hid (v = false) := by show v = false; rw [← hv]; exact one_no1 h1
    clear hv hn HF
    go_enter Tryz.func72, Tryz.ntmps72
    go_wp2_with fail
    rw [show w.alloc (.cells #[.int .i64 g, .slice la n lc, .int .i64 t] 69) = W from HW.out]
    go_ret
    exact ⟨ret_bool HV.out, HB.out⟩
end Go.Proofs.YtjclkiabgemfpaaGreat.Holds

/-
  The contract of the document's One: any hold; what was there stays as it was.
-/
set_option linter.unusedVariables false
set_option maxRecDepth 4000
set_option maxRecDepth 4000
namespace Go.Proofs.YtjclkiabgemfpaaGreat.Holds
open Go.RowKit LinesP HoldsP
open Go.Proofs.YtjclkiabgemfpaaGreat.Lines (LsAt Sz SzM ret_bool ret_int below_keep below_drewN)

set_option maxHeartbeats 1000000 in
theorem rone_any (g t : Int) (la : Option Addr) (lc : Nat) (ls : List Ln) (w : World) (h : LsAt w la ls.length ls) (hz : Sz ls) :
    Calls Tryz.prog 75 #[.agg #[.int .i64 g, .slice la ls.length lc, .int .i64 t]] w fun e w' => e = .returned (.bool (oneH ⟨g, ls, t⟩)) ∧ Below w.heap.size w w' := by
  obtain ⟨v, hv⟩ : ∃ v, oneH ⟨g, ls, t⟩ = v := ⟨_, rfl⟩
  rw [hv]
  have HB := Lib.hid (box_below w g la ls.length lc t)
  have HC := Lib.hid (fun w' hb => box_cells w g la ls.length lc t (w' := w') hb)
  have HF := Lib.hid (Lines.rfit_any la ls.length lc ls (box w g la ls.length lc t) (h.keep (box_below w g la ls.length lc t)) hz)
  obtain ⟨n, hn⟩ : ∃ n, ls.length = n := ⟨_, rfl⟩
  rw [hn] at HB HC HF ⊢
  have HS := Lib.hid (box_size w g la n lc t)
  have c0 := HC.out _ (Below.refl _ _)
  obtain ⟨W, hW⟩ : ∃ W, box w g la n lc t = W := ⟨_, rfl⟩
  have hW2 : w.alloc (.cells #[.int .i64 g, .slice la n lc, .int .i64 t] 69) = W := hW
  rw [hW] at HB HC HF HS c0
  obtain ⟨d1, d2, d3⟩ := c0
  have HW := Lib.hid hW2
  clear hW h hz hW2
  by_cases h1 : 1 ≤ g
  · by_cases h2 : g ≤ 1099511627776
    · cases h4 : fitL ls with
      | false =>
        have HV : Hid (v = false) := by show v = false; rw [← hv]; exact one_no4 h4
        rw [h4] at HF
        clear hv hn h4
        go_enter Tryz.func75, Tryz.ntmps75
        go_wp2_with fail
        rw [show w.alloc (.cells #[.int .i64 g, .slice la n lc, .int .i64 t] 69) = W from HW.out]
        go_wp2_with fail
        refine HF.out.mono ?_
        rintro e w2 ⟨rfl, hb⟩
        have HB2 := Lib.hid (below_keep HB.out hb HB.out.size)
        have e1 := (HC.out w2 hb).1
        have e2 := (HC.out w2 hb).2.1
        have e3 := (HC.out w2 hb).2.2
        go_wp2_with fail
        go_ret
        exact ⟨ret_bool HV.out, HB2.out⟩
      | true =>
        rw [h4] at HF
        by_cases h3 : 0 < n
        · have HV : Hid (NumP.amt t = v) := by show NumP.amt t = v; rw [← hv]; exact (one_last h1 h2 (by rw [hn]; exact h3) h4).symm
          have C3 := Lib.hid (fun w' => rnumfit t v HV.out w')
          clear hv hn h4
          go_enter Tryz.func75, Tryz.ntmps75
          go_wp2_with fail
          rw [show w.alloc (.cells #[.int .i64 g, .slice la n lc, .int .i64 t] 69) = W from HW.out]
          go_wp2_with fail
          refine HF.out.mono ?_
          rintro e w2 ⟨rfl, hb⟩
          have HB2 := Lib.hid (below_keep HB.out hb HB.out.size)
          have e1 := (HC.out w2 hb).1
          have e2 := (HC.out w2 hb).2.1
          have e3 := (HC.out w2 hb).2.2
          go_wp2_with fail
          refine (C3.out w2).mono ?_
          rintro e w1 ⟨rfl, rfl⟩
          go_wp2_with fail
          go_ret
          exact ⟨rfl, HB2.out⟩
        · have HV : Hid (v = false) := by show v = false; rw [← hv]; exact one_no3 (by rw [hn]; exact h3)
          clear hv hn h4
          go_enter Tryz.func75, Tryz.ntmps75
          go_wp2_with fail
          rw [show w.alloc (.cells #[.int .i64 g, .slice la n lc, .int .i64 t] 69) = W from HW.out]
          go_wp2_with fail
          refine HF.out.mono ?_
          rintro e w2 ⟨rfl, hb⟩
          have HB2 := Lib.hid (below_keep HB.out hb HB.out.size)
          have e1 := (HC.out w2 hb).1
          have e2 := (HC.out w2 hb).2.1
          have e3 := (HC.out w2 hb).2.2
          go_wp2_with fail
          go_ret
          exact ⟨ret_bool HV.out, HB2.out⟩
    · have HV : Hid (v = false) := by show v = false; rw [← hv]; exact one_no2 h2
      clear hv hn HF
      go_enter Tryz.func75, Tryz.ntmps75
      go_wp2_with fail
      rw [show w.alloc (.cells #[.int .i64 g, .slice la n lc, .int .i64 t] 69) = W from HW.out]
      go_wp2_with fail
      go_ret
      exact ⟨ret_bool HV.out, HB.out⟩
  · have HV : Hid (v = false) := by show v = false; rw [← hv]; exact one_no1 h1
    clear hv hn HF
    go_enter Tryz.func75, Tryz.ntmps75
    go_wp2_with fail
    rw [show w.alloc (.cells #[.int .i64 g, .slice la n lc, .int .i64 t] 69) = W from HW.out]
    go_ret
    exact ⟨ret_bool HV.out, HB.out⟩
end Go.Proofs.YtjclkiabgemfpaaGreat.Holds
