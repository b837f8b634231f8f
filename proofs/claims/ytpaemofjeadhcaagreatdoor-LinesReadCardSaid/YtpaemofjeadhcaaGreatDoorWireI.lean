/-
  The contracts of wire.Reader's Flag and Done and of the document's Flag, Text, List, Left, Done: a reader that stands anywhere, a bad one; any bounds.
-/
import Derived.Test.YtpaemofjeadhcaaGreatDoorWireH
set_option linter.unusedVariables false
set_option maxRecDepth 4000
namespace Go.Proofs.YtpaemofjeadhcaaGreatDoor.Wire
open Go.RowKit WireP

theorem rdFlag_no {st : St} (h : st = none ∨ ∃ l, st = some l ∧ (l = [] ∨ 1 < (l.headD 0).toNat)) : rdFlag st = (false, none) := by
  rcases h with rfl | ⟨l, rfl, h⟩
  · rfl
  · show ite _ _ _ = _
    rw [if_neg]
    rintro ⟨h1, h2⟩
    rcases h with h | h
    · exact h1 h
    · omega
theorem rdFlag_yes {l : List UInt8} {c : Nat} (h : l ≠ []) (hc : (l.headD 0).toNat = c) (h1 : c ≤ 1) : rdFlag (some l) = (decide (c = 1), some (l.drop 1)) := by
  show ite _ _ _ = _
  rw [if_pos ⟨h, by omega⟩, hc]
theorem flag_cases (st : St) (z : ByteArray) (hz : z.data.toList = st.getD []) :
    (z.size = 0 ∧ rdFlag st = (false, none)) ∨ (∃ (h : 0 < z.size) (c : Nat), z[0].toNat = c ∧ 1 < c ∧ rdFlag st = (false, none) ∧ st.isNone = false) ∨ ∃ (h : 0 < z.size) (l : List UInt8) (c : Nat), z[0].toNat = c ∧ c ≤ 1 ∧ st = some l ∧ rdFlag st = (decide (c = 1), some (l.drop 1)) := by
  cases st with
  | none =>
    left
    have : z.data.toList = [] := hz
    exact ⟨by rw [← len_list, this]; rfl, rfl⟩
  | some l =>
    have hz2 : z.data.toList = l := hz
    by_cases h0 : z.size = 0
    · left
      exact ⟨h0, rdFlag_no (.inr ⟨l, rfl, .inl (List.eq_nil_of_length_eq_zero (by rw [← hz2, len_list]; exact h0))⟩)⟩
    right
    have h : 0 < z.size := by omega
    have hh : (l.headD 0).toNat = z[0].toNat := by rw [← hz2, headD_at z h]
    have hne : l ≠ [] := by intro e; have := len_list z; rw [hz2, e] at this; simp at this; omega
    by_cases h1 : 1 < z[0].toNat
    · exact .inl ⟨h, _, rfl, h1, rdFlag_no (.inr ⟨l, rfl, .inr (by omega)⟩), rfl⟩
    · exact .inr ⟨h, l, _, rfl, by omega, rfl, rdFlag_yes hne hh (by omega)⟩
theorem done_cases (st : St) (z : ByteArray) (hz : z.data.toList = st.getD []) : (st.isSome = false ∧ st.isNone = true ∧ done st = false) ∨ (st.isSome = true ∧ st.isNone = false ∧ z.size = 0 ∧ done st = true) ∨ (st.isSome = true ∧ st.isNone = false ∧ 0 < z.size ∧ done st = false) := by
  cases st with
  | none => exact .inl ⟨rfl, rfl, rfl⟩
  | some l =>
    have hz2 : z.data.toList = l := hz
    right
    by_cases h0 : z.size = 0
    · left
      have : l = [] := List.eq_nil_of_length_eq_zero (by rw [← hz2, len_list]; exact h0)
      subst this
      exact ⟨rfl, rfl, h0, rfl⟩
    · right
      refine ⟨rfl, rfl, by omega, decide_eq_false ?_⟩
      intro e
      cases e
      have := len_list z
      rw [hz2] at this
      simp at this
      omega
theorem rddone_any (b : Nat) (st : St) (w : World) (h : RdAt w b st) :
    Calls Tryz.prog 27 #[.pointer (some ⟨b, 0, none⟩)] w fun e w' => e = .returned (.bool (done st)) ∧ Below w.heap.size w w' := by
  obtain ⟨z, hz, hl, hs⟩ := h
  have h0 : w.cell? ⟨b, 0, none⟩ = some (.bool st.isSome) := cell_of_heap hz
  have h1 : w.cell? ⟨b, 1, none⟩ = some (.string z) := cell_of_heap hz
  have hcase := done_cases st z hl
  clear hz hl
  rcases hcase with ⟨c1, c2, c3⟩ | ⟨c1, c2, c3, c4⟩ | ⟨c1, c2, c3, c4⟩
  · rw [c3]
    rw [c1] at h0
    clear c1 c2 c3
    go_enter Tryz.func27, Tryz.ntmps27
    go_wp2
    go_ret
    exact ⟨rfl, Below.refl _ _⟩
  · rw [c4]
    rw [c1] at h0
    have t0 := empty_yes z c3
    clear c1 c2 c3 c4
    go_enter Tryz.func27, Tryz.ntmps27
    go_wp2
    go_ret
    exact ⟨rfl, Below.refl _ _⟩
  · rw [c4]
    rw [c1] at h0
    have t0 := empty_no z c3
    clear c1 c2 c3 c4
    go_enter Tryz.func27, Tryz.ntmps27
    go_wp2
    go_ret
    exact ⟨rfl, Below.refl _ _⟩
theorem rddone_nil (w : World) :
    Calls Tryz.prog 27 #[.pointer none] w fun e w' => e = .returned (.bool false) ∧ Below w.heap.size w w' := by
  go_enter Tryz.func27, Tryz.ntmps27
  go_wp2
  go_ret
  exact ⟨rfl, Below.refl _ _⟩
end Go.Proofs.YtpaemofjeadhcaaGreatDoor.Wire
