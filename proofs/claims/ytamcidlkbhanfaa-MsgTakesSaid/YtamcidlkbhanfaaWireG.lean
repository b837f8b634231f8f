/-
  The contracts of wire.Reader's Flag and Done, and of the methods of the document's Reader: a reader that stands anywhere, a bad one; any bounds.
-/
import Derived.Test.YtamcidlkbhanfaaWireF
set_option linter.unusedVariables false
set_option maxRecDepth 4000
namespace Go.Proofs.Ytamcidlkbhanfaa.Wire
open Go.RowKit WireP

theorem below_drewN {B : Nat} {a w : World} (h : Below B a w) (n : Nat) : Below B a (w.drewN n) := h.trans ⟨rfl, rfl, rfl, Nat.le_refl _, fun _ _ => rfl⟩
theorem grown_drewN (w : World) (n : Nat) (row : Option Nat) : w.grownBy (w.drewN n) row := ⟨rfl, rfl, rfl, Nat.le_refl _, fun _ _ _ => rfl⟩
theorem RqAt.drewN {w : World} {b : Nat} {st : St} (h : RqAt w b st) (n : Nat) : RqAt (w.drewN n) b st := h
theorem rfails_any (b : Nat) (st : St) (w : World) (h : RqAt w b st) :
    Calls Try.prog 59 #[.pointer (some ⟨b, 0, none⟩)] w fun e w' => e = .returned (.tuple #[]) ∧ RqAt w' b none ∧ w.grownBy w' (some b) := by
  obtain ⟨z, hz, hl, hs⟩ := h
  have h0 : w.cell? ⟨b, 0, none⟩ = some (.string z) := cell_of_heap hz
  have h1 : w.cell? ⟨b, 1, none⟩ = some (.bool st.isNone) := cell_of_heap hz
  have f0 : w.frozen? ⟨b, 0, none⟩ = false := frozen_of_heap hz
  have f1 : w.frozen? ⟨b, 1, none⟩ = false := frozen_of_heap hz
  have HZ := Lib.hid hz
  clear hz hl
  go_enter Try.func59, Try.ntmps59
  go_wp2
  go_end0
  refine ⟨rfl, ⟨⟨#[]⟩, ?_, rfl, by decide⟩, ?_⟩
  · exact Lib.heap_setCell_same (i := 0) (Lib.heap_setCell_same (i := 1) HZ.out _) _
  · exact (Lib.grownBy_setCell w b 1 _).trans (Lib.grownBy_setCell _ b 0 _)
theorem end_tuple {e : Ending} (h : e = .returned (.tuple #[])) : e = .returned (.tuple #[]) := h
/-- The document's Int fails at once: what is asked of the octets. -/
theorem rqint_fail (b : Nat) (st : St) (lo hi : Int) (w : World) (h : RqAt w b st) (hc : ok (st.getD []) = false) :
    Calls Try.prog 58 #[.pointer (some ⟨b, 0, none⟩), .int .i64 lo, .int .i64 hi] w fun e w' => e = .returned (.int .i64 0) ∧ RqAt w' b none ∧ w.grownBy w' (some b) := by
  have HR := Lib.hid h
  obtain ⟨z, hz, hl, hs⟩ := h
  have h0 : w.cell? ⟨b, 0, none⟩ = some (.string z) := cell_of_heap hz
  have h1 : w.cell? ⟨b, 1, none⟩ = some (.bool st.isNone) := cell_of_heap hz
  have HL := Lib.hid hl
  have hcase : (st.isNone = true) ∨ (st.isNone = false ∧ z.size = 0) ∨ (∃ (c : Nat) (h : 0 < z.size), st.isNone = false ∧ z[0].toNat = c ∧ 8 < c) ∨ (∃ (c : Nat) (h : 0 < z.size), st.isNone = false ∧ z[0].toNat = c ∧ c ≤ 8 ∧ (z.size : Int) < 1 + (c : Int)) ∨ (∃ (c : Nat) (h : 1 < z.size), st.isNone = false ∧ z[0].toNat = c ∧ c ≤ 8 ∧ 1 + (c : Int) ≤ (z.size : Int) ∧ 0 < c ∧ z[1].toNat = 0) := by
    by_cases c0 : st.isNone = true
    · exact .inl c0
    have c0' : st.isNone = false := by
      cases hx : st.isNone with
      | false => rfl
      | true => exact absurd hx c0
    right
    by_cases c1 : z.size = 0
    · exact .inl ⟨c0', c1⟩
    right
    have c1' : 0 < z.size := by omega
    have hnl : nl z.data.toList = z[0].toNat := by unfold nl; rw [headD_at z c1']
    by_cases c2 : 8 < z[0].toNat
    · exact .inl ⟨_, c1', c0', rfl, c2⟩
    right
    by_cases c3 : (z.size : Int) < 1 + ((z[0].toNat : Nat) : Int)
    · exact .inl ⟨_, c1', c0', rfl, by omega, c3⟩
    right
    have hno : ¬ ((nb z.data.toList).headD 1 ≠ 0) := fun h => by
      have := ok_iff.2 ⟨by intro e; have := len_list z; rw [e] at this; simp at this; omega, by omega, by rw [len_list]; omega, h⟩
      rw [hl, hc] at this
      cases this
    by_cases c4 : z[0].toNat = 0
    · exact absurd (by rw [nb_zero (by omega)]; decide) hno
    have c5 : 1 < z.size := by omega
    refine ⟨_, c5, c0', rfl, by omega, by omega, by omega, ?_⟩
    have h6 : (nb z.data.toList).headD 1 = 0 := Classical.byContradiction hno
    rw [nb_head (by omega) (by rw [len_list]; exact c5), at_getD z 1 c5] at h6
    rw [h6]; rfl
  clear hz hl hc
  rcases hcase with c0 | ⟨c0, c1⟩ | ⟨c, g, c0, c1, c2⟩ | ⟨c, g, c0, c1, c2, c3⟩ | ⟨c, g, c0, c1, c2, c3, c4, c5⟩
  · rw [c0] at h1
    go_enter Try.func58, Try.ntmps58
    go_wp2
    go_quiet (fail)
    go_wp2_with fail
    refine (rfails_any b st (w.drewN nq) (HR.out.drewN nq)).mono ?_
    rintro e w2 ⟨rfl, hr, hg⟩
    have HG := Lib.hid ((grown_drewN w _ (some b)).trans hg)
    have HR2 := Lib.hid hr
    clear hg hr
    go_wp2_with fail
    go_ret
    exact ⟨rfl, HR2.out, HG.out⟩
  · rw [c0] at h1
    have t0 : ((z.size : Int) == 0) = true := beq_iff_eq.2 (by omega)
    clear c1
    go_enter Try.func58, Try.ntmps58
    go_wp2
    go_quiet (fail)
    go_wp2_with fail
    refine (rfails_any b st (w.drewN nq) (HR.out.drewN nq)).mono ?_
    rintro e w2 ⟨rfl, hr, hg⟩
    have HG := Lib.hid ((grown_drewN w _ (some b)).trans hg)
    have HR2 := Lib.hid hr
    clear hg hr
    go_wp2_with fail
    go_ret
    exact ⟨rfl, HR2.out, HG.out⟩
  · rw [c0] at h1
    have t0 : ((z.size : Int) == 0) = false := beq_eq_false_iff_ne.2 (by omega)
    have t5 : (0 : Int) < (z.size : Int) := by omega
    have t1 : decide (8 < (c : Int)) = true := decide_eq_true (by omega)
    go_enter Try.func58, Try.ntmps58
    go_wp2
    go_quiet (fail)
    go_wp2_with fail
    refine (rfails_any b st (w.drewN nq) (HR.out.drewN nq)).mono ?_
    rintro e w2 ⟨rfl, hr, hg⟩
    have HG := Lib.hid ((grown_drewN w _ (some b)).trans hg)
    have HR2 := Lib.hid hr
    clear hg hr
    go_wp2_with fail
    go_ret
    exact ⟨rfl, HR2.out, HG.out⟩
  · rw [c0] at h1
    have t0 : ((z.size : Int) == 0) = false := beq_eq_false_iff_ne.2 (by omega)
    have t5 : (0 : Int) < (z.size : Int) := by omega
    have t1 : decide (8 < (c : Int)) = false := decide_eq_false (by omega)
    have t2 : decide ((z.size : Int) < 1 + (c : Int)) = true := decide_eq_true (by omega)
    go_enter Try.func58, Try.ntmps58
    go_wp2
    go_quiet (fail)
    go_wp2_with fail
    refine (rfails_any b st (w.drewN nq) (HR.out.drewN nq)).mono ?_
    rintro e w2 ⟨rfl, hr, hg⟩
    have HG := Lib.hid ((grown_drewN w _ (some b)).trans hg)
    have HR2 := Lib.hid hr
    clear hg hr
    go_wp2_with fail
    go_ret
    exact ⟨rfl, HR2.out, HG.out⟩
  · rw [c0] at h1
    have t0 : ((z.size : Int) == 0) = false := beq_eq_false_iff_ne.2 (by omega)
    have t5 : (0 : Int) < (z.size : Int) := by omega
    have t6 : (1 : Int) < (z.size : Int) := by omega
    have t1 : decide (8 < (c : Int)) = false := decide_eq_false (by omega)
    have t2 : decide ((z.size : Int) < 1 + (c : Int)) = false := decide_eq_false (by omega)
    have t3 : decide (0 < (c : Int)) = true := decide_eq_true (by omega)
    have t4 : ((z[1].toNat : Int) == 0) = true := beq_iff_eq.2 (by omega)
    go_enter Try.func58, Try.ntmps58
    go_wp2
    go_quiet (fail)
    go_wp2_with fail
    refine (rfails_any b st (w.drewN nq) (HR.out.drewN nq)).mono ?_
    rintro e w2 ⟨rfl, hr, hg⟩
    have HG := Lib.hid ((grown_drewN w _ (some b)).trans hg)
    have HR2 := Lib.hid hr
    clear hg hr
    go_wp2_with fail
    go_ret
    exact ⟨rfl, HR2.out, HG.out⟩
end Go.Proofs.Ytamcidlkbhanfaa.Wire
