/-
  The contract of the document's One: any hold; what was there stays as it was.
-/
import Derived.Test.YtleopanfggmenaaHoldsA
set_option linter.unusedVariables false
set_option maxRecDepth 4000
namespace Go.Proofs.Ytleopanfggmenaa.Holds
open Go.RowKit LinesP HoldsP
open Go.Proofs.Ytleopanfggmenaa.Lines (LsAt Sz SzM ret_bool ret_int below_keep below_drewN)

set_option maxHeartbeats 1000000 in
theorem rone_any (g t : Int) (la : Option Addr) (lc : Nat) (ls : List Ln) (w : World) (h : LsAt w la ls.length ls) (hz : Sz ls) :
    Calls Try.prog 29 #[.agg #[.int .i64 g, .slice la ls.length lc, .int .i64 t]] w fun e w' => e = .returned (.bool (oneH ⟨g, ls, t⟩)) ∧ Below w.heap.size w w' := by
  obtain ⟨v, hv⟩ : ∃ v, oneH ⟨g, ls, t⟩ = v := ⟨_, rfl⟩
  rw [hv]
  have HB := Lib.hid (box_below w g la ls.length lc t)
  have HC := Lib.hid (fun w' hb => box_cells w g la ls.length lc t (w' := w') hb)
  have HF := Lib.hid (Lines.rfit_any la ls.length lc ls (box w g la ls.length lc t) (h.keep (box_below w g la ls.length lc t)) hz)
  obtain ⟨n, hn⟩ : ∃ n, ls.length = n := ⟨_, rfl⟩
  rw [hn] at HB HC HF ⊢
  have HS := Lib.hid (box_size w g la n lc t)
  have c0 := HC.out _ (Below.refl _ _)
  obtain ⟨W, hW⟩ : ∃ W, box w g la n lc t = W := ⟨_, rfl⟩
  have hW2 : w.alloc (.cells #[.int .i64 g, .slice la n lc, .int .i64 t] 27) = W := hW
  rw [hW] at HB HC HF HS c0
  obtain ⟨d1, d2, d3⟩ := c0
  have HW := Lib.hid hW2
  clear hW h hz hW2
  by_cases h1 : 1 ≤ g
  · by_cases h2 : g ≤ 1099511627776
    · cases h4 : fitL ls with
      | false =>
        have HV : Hid (v = false) := by show v = false; rw [← hv]; exact one_no4 h4
        rw [h4] at HF
        clear hv hn h4
        go_enter Try.func29, Try.ntmps29
        go_wp2_with fail
        rw [show w.alloc (.cells #[.int .i64 g, .slice la n lc, .int .i64 t] 27) = W from HW.out]
        go_wp2_with fail
        refine HF.out.mono ?_
        rintro e w2 ⟨rfl, hb⟩
        have HB2 := Lib.hid (below_keep HB.out hb HB.out.size)
        have e1 := (HC.out w2 hb).1
        have e2 := (HC.out w2 hb).2.1
        have e3 := (HC.out w2 hb).2.2
        go_wp2_with fail
        go_ret
        exact ⟨ret_bool HV.out, HB2.out⟩
      | true =>
        rw [h4] at HF
        by_cases h3 : 0 < n
        · have HV : Hid (NumP.amt t = v) := by show NumP.amt t = v; rw [← hv]; exact (one_last h1 h2 (by rw [hn]; exact h3) h4).symm
          have C3 := Lib.hid (fun w' => rnumfit t v HV.out w')
          clear hv hn h4
          go_enter Try.func29, Try.ntmps29
          go_wp2_with fail
          rw [show w.alloc (.cells #[.int .i64 g, .slice la n lc, .int .i64 t] 27) = W from HW.out]
          go_wp2_with fail
          refine HF.out.mono ?_
          rintro e w2 ⟨rfl, hb⟩
          have HB2 := Lib.hid (below_keep HB.out hb HB.out.size)
          have e1 := (HC.out w2 hb).1
          have e2 := (HC.out w2 hb).2.1
          have e3 := (HC.out w2 hb).2.2
          go_wp2_with fail
          refine (C3.out w2).mono ?_
          rintro e w1 ⟨rfl, rfl⟩
          go_wp2_with fail
          go_ret
          exact ⟨rfl, HB2.out⟩
        · have HV : Hid (v = false) := by show v = false; rw [← hv]; exact one_no3 (by rw [hn]; exact h3)
          clear hv hn h4
          go_enter Try.func29, Try.ntmps29
          go_wp2_with fail
          rw [show w.alloc (.cells #[.int .i64 g, .slice la n lc, .int .i64 t] 27) = W from HW.out]
          go_wp2_with fail
          refine HF.out.mono ?_
          rintro e w2 ⟨rfl, hb⟩
          have HB2 := Lib.hid (below_keep HB.out hb HB.out.size)
          have e1 := (HC.out w2 hb).1
          have e2 := (HC.out w2 hb).2.1
          have e3 := (HC.out w2 hb).2.2
          go_wp2_with fail
          go_ret
          exact ⟨ret_bool HV.out, HB2.out⟩
    · have HV : Hid (v = false) := by show v = false; rw [← hv]; exact one_no2 h2
      clear hv hn HF
      go_enter Try.func29, Try.ntmps29
      go_wp2_with fail
      rw [show w.alloc (.cells #[.int .i64 g, .slice la n lc, .int .i64 t] 27) = W from HW.out]
      go_wp2_with fail
      go_ret
      exact ⟨ret_bool HV.out, HB.out⟩
  · have HV : Hid (v = false) := by show v = false; rw [← hv]; exact one_no1 h1
    clear hv hn HF
    go_enter Try.func29, Try.ntmps29
    go_wp2_with fail
    rw [show w.alloc (.cells #[.int .i64 g, .slice la n lc, .int .i64 t] 27) = W from HW.out]
    go_ret
    exact ⟨ret_bool HV.out, HB.out⟩
end Go.Proofs.Ytleopanfggmenaa.Holds
