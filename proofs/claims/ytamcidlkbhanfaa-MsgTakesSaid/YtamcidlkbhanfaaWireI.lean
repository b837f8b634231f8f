/-
  The contracts of wire.Reader's Flag and Done and of the document's Flag, Text, List, Left, Done: a reader that stands anywhere, a bad one; any bounds.
-/
import Derived.Test.YtamcidlkbhanfaaWireH
set_option linter.unusedVariables false
set_option maxRecDepth 4000
namespace Go.Proofs.Ytamcidlkbhanfaa.Wire
open Go.RowKit WireP

theorem rdFlag_no {st : St} (h : st = none ∨ ∃ l, st = some l ∧ (l = [] ∨ 1 < (l.headD 0).toNat)) : rdFlag st = (false, none) := by
  rcases h with rfl | ⟨l, rfl, h⟩
  · rfl
  · show ite _ _ _ = _
    rw [if_neg]
    rintro ⟨h1, h2⟩
    rcases h with h | h
    · exact h1 h
    · omega
theorem rdFlag_yes {l : List UInt8} {c : Nat} (h : l ≠ []) (hc : (l.headD 0).toNat = c) (h1 : c ≤ 1) : rdFlag (some l) = (decide (c = 1), some (l.drop 1)) := by
  show ite _ _ _ = _
  rw [if_pos ⟨h, by omega⟩, hc]
theorem flag_cases (st : St) (z : ByteArray) (hz : z.data.toList = st.getD []) :
    (z.size = 0 ∧ rdFlag st = (false, none)) ∨ (∃ (h : 0 < z.size) (c : Nat), z[0].toNat = c ∧ 1 < c ∧ rdFlag st = (false, none) ∧ st.isNone = false) ∨ ∃ (h : 0 < z.size) (l : List UInt8) (c : Nat), z[0].toNat = c ∧ c ≤ 1 ∧ st = some l ∧ rdFlag st = (decide (c = 1), some (l.drop 1)) := by
  cases st with
  | none =>
    left
    have : z.data.toList = [] := hz
    exact ⟨by rw [← len_list, this]; rfl, rfl⟩
  | some l =>
    have hz2 : z.data.toList = l := hz
    by_cases h0 : z.size = 0
    · left
      exact ⟨h0, rdFlag_no (.inr ⟨l, rfl, .inl (List.eq_nil_of_length_eq_zero (by rw [← hz2, len_list]; exact h0))⟩)⟩
    right
    have h : 0 < z.size := by omega
    have hh : (l.headD 0).toNat = z[0].toNat := by rw [← hz2, headD_at z h]
    have hne : l ≠ [] := by intro e; have := len_list z; rw [hz2, e] at this; simp at this; omega
    by_cases h1 : 1 < z[0].toNat
    · exact .inl ⟨h, _, rfl, h1, rdFlag_no (.inr ⟨l, rfl, .inr (by omega)⟩), rfl⟩
    · exact .inr ⟨h, l, _, rfl, by omega, rfl, rdFlag_yes hne hh (by omega)⟩
theorem rdflag_any (b : Nat) (st : St) (w : World) (h : RdAt w b st) :
    Calls Try.prog 42 #[.pointer (some ⟨b, 0, none⟩)] w fun e w' => e = .returned (.bool (rdFlag st).1) ∧ RdAt w' b (rdFlag st).2 ∧ w.grownBy w' (some b) := by
  obtain ⟨z, hz, hzs⟩ := h.text
  have HA := Lib.hid (ahead_is b st z w h hz)
  have HR := Lib.hid h
  have hcase := flag_cases st z hz
  clear h hz
  rcases hcase with ⟨h0, hf⟩ | ⟨h, c, h1, h2, hf, _⟩ | ⟨h, l, c, h1, h2, rfl, hf⟩
  · rw [hf]
    have t0 := empty_yes z h0
    clear h0 hf
    go_enter Try.func42, Try.ntmps42
    go_wp2_with fail
    refine HA.out.mono ?_
    rintro e w' ⟨rfl, rfl⟩
    go_wp2_with fail
    refine (pass_no b 1 st w HR.out).mono ?_
    rintro e w2 ⟨rfl, hr, hg⟩
    have HG := Lib.hid hg; have HR2 := Lib.hid hr
    clear hg hr
    go_wp2_with fail
    go_ret
    exact ⟨rfl, HR2.out, HG.out⟩
  · rw [hf]
    have t0 := empty_no z h
    have t1 : decide ((c : Int) ≤ 1) = false := decide_eq_false (by omega)
    have t5 : (0 : Int) < (z.size : Int) := by omega
    clear hf
    go_enter Try.func42, Try.ntmps42
    go_wp2_with fail
    refine HA.out.mono ?_
    rintro e w' ⟨rfl, rfl⟩
    go_wp2_with fail
    refine (pass_no b 1 st w HR.out).mono ?_
    rintro e w2 ⟨rfl, hr, hg⟩
    have HG := Lib.hid hg; have HR2 := Lib.hid hr
    clear hg hr
    go_wp2_with fail
    go_ret
    exact ⟨rfl, HR2.out, HG.out⟩
  · rw [hf]
    have t0 := empty_no z h
    have t5 : (0 : Int) < (z.size : Int) := by omega
    have hll : (1 : Int) ≤ ((l.length : Nat) : Int) := by
      obtain ⟨z2, q1, q2, q3⟩ := HR.out
      have hne : l ≠ [] := by
        intro e
        subst e
        have : rdFlag (some []) = (false, none) := rdFlag_no (.inr ⟨[], rfl, .inl rfl⟩)
        rw [this] at hf
        simp at hf
      have := List.length_pos_iff.2 hne
      omega
    have HP := Lib.hid hll
    clear hf hll
    obtain rfl | rfl : c = 0 ∨ c = 1 := by omega
    all_goals
      go_enter Try.func42, Try.ntmps42
      go_wp2_with fail
      refine HA.out.mono ?_
      rintro e w' ⟨rfl, rfl⟩
      go_wp2_with fail
      refine (pass_on b 1 l w HR.out (by omega) HP.out).mono ?_
      rintro e w2 ⟨rfl, hr, hg⟩
      have HG := Lib.hid hg; have HR2 := Lib.hid hr
      clear hg hr
      go_wp2_with fail
      go_ret
      exact ⟨rfl, HR2.out, HG.out⟩
theorem rdflag_nil (w : World) :
    Calls Try.prog 42 #[.pointer none] w fun e w' => e = .returned (.bool false) ∧ Below w.heap.size w w' := by
  have t0 : (⟨#[]⟩ : ByteArray).toList.isEmpty = true := empty_yes _ rfl
  go_enter Try.func42, Try.ntmps42
  go_wp2_with fail
  refine (ahead_nil w).mono ?_
  rintro e w' ⟨rfl, rfl⟩
  go_wp2_with fail
  refine (pass_nil _ _ w).mono ?_
  rintro e w2 ⟨rfl, rfl⟩
  go_wp2_with fail
  go_ret
  exact ⟨rfl, Below.refl _ _⟩
theorem done_cases (st : St) (z : ByteArray) (hz : z.data.toList = st.getD []) : (st.isSome = false ∧ st.isNone = true ∧ done st = false) ∨ (st.isSome = true ∧ st.isNone = false ∧ z.size = 0 ∧ done st = true) ∨ (st.isSome = true ∧ st.isNone = false ∧ 0 < z.size ∧ done st = false) := by
  cases st with
  | none => exact .inl ⟨rfl, rfl, rfl⟩
  | some l =>
    have hz2 : z.data.toList = l := hz
    right
    by_cases h0 : z.size = 0
    · left
      have : l = [] := List.eq_nil_of_length_eq_zero (by rw [← hz2, len_list]; exact h0)
      subst this
      exact ⟨rfl, rfl, h0, rfl⟩
    · right
      refine ⟨rfl, rfl, by omega, decide_eq_false ?_⟩
      intro e
      cases e
      have := len_list z
      rw [hz2] at this
      simp at this
      omega
theorem rddone_any (b : Nat) (st : St) (w : World) (h : RdAt w b st) :
    Calls Try.prog 24 #[.pointer (some ⟨b, 0, none⟩)] w fun e w' => e = .returned (.bool (done st)) ∧ Below w.heap.size w w' := by
  obtain ⟨z, hz, hl, hs⟩ := h
  have h0 : w.cell? ⟨b, 0, none⟩ = some (.bool st.isSome) := cell_of_heap hz
  have h1 : w.cell? ⟨b, 1, none⟩ = some (.string z) := cell_of_heap hz
  have hcase := done_cases st z hl
  clear hz hl
  rcases hcase with ⟨c1, c2, c3⟩ | ⟨c1, c2, c3, c4⟩ | ⟨c1, c2, c3, c4⟩
  · rw [c3]
    rw [c1] at h0
    clear c1 c2 c3
    go_enter Try.func24, Try.ntmps24
    go_wp2
    go_ret
    exact ⟨rfl, Below.refl _ _⟩
  · rw [c4]
    rw [c1] at h0
    have t0 := empty_yes z c3
    clear c1 c2 c3 c4
    go_enter Try.func24, Try.ntmps24
    go_wp2
    go_ret
    exact ⟨rfl, Below.refl _ _⟩
  · rw [c4]
    rw [c1] at h0
    have t0 := empty_no z c3
    clear c1 c2 c3 c4
    go_enter Try.func24, Try.ntmps24
    go_wp2
    go_ret
    exact ⟨rfl, Below.refl _ _⟩
theorem rddone_nil (w : World) :
    Calls Try.prog 24 #[.pointer none] w fun e w' => e = .returned (.bool false) ∧ Below w.heap.size w w' := by
  go_enter Try.func24, Try.ntmps24
  go_wp2
  go_ret
  exact ⟨rfl, Below.refl _ _⟩
end Go.Proofs.Ytamcidlkbhanfaa.Wire
