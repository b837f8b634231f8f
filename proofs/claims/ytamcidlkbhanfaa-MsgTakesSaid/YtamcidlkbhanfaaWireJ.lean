/-
  The contracts of the document's Reader: Flag, Text, List, Left, Done: a reader that stands anywhere, a bad one; any bounds.
-/
import Derived.Test.YtamcidlkbhanfaaWireI
set_option linter.unusedVariables false
set_option maxRecDepth 4000
namespace Go.Proofs.Ytamcidlkbhanfaa.Wire
open Go.RowKit WireP

/-- What a text and a list are behind their number. -/
theorem rdInt_none' (lo hi : Int) : rdInt lo hi none = (0, none) := rfl
theorem rdText_of (most : Int) (st : St) : rdText most st = if (rdInt 0 most st).1 ≤ (left (rdInt 0 most st).2 : Nat) then (((rdInt 0 most st).2.getD []).take (rdInt 0 most st).1.toNat, (rdInt 0 most st).2.map (·.drop (rdInt 0 most st).1.toNat)) else ([], none) := by
  cases st with
  | none => rw [rdInt_none', if_pos (by decide)]; rfl
  | some l =>
    show ite _ _ _ = _
    by_cases h : ok l = true ∧ 0 ≤ num l ∧ num l ≤ most
    · rw [rdInt_yes h]
      by_cases h2 : num l ≤ ((l.length - (1 + nl l) : Nat) : Int)
      · rw [if_pos ⟨h.1, h.2.1, h.2.2, h2⟩, if_pos (by show num l ≤ ((l.drop (1 + nl l)).length : Int); rw [List.length_drop]; exact h2)]
        simp [List.drop_drop]
      · rw [if_neg (fun h3 => h2 h3.2.2.2), if_neg (by show ¬ num l ≤ ((l.drop (1 + nl l)).length : Int); rw [List.length_drop]; exact h2)]
    · rw [rdInt_no h, if_neg (fun h3 => h ⟨h3.1, h3.2.1, h3.2.2.1⟩), if_pos (by decide)]
      rfl
theorem rdList_of (most : Int) (st : St) : rdList most st = if (rdInt 0 most st).1 ≤ (left (rdInt 0 most st).2 : Nat) then rdInt 0 most st else (0, none) := by
  cases st with
  | none => rw [rdInt_none', if_pos (by decide)]; rfl
  | some l =>
    show ite _ _ _ = _
    by_cases h : ok l = true ∧ 0 ≤ num l ∧ num l ≤ most
    · rw [rdInt_yes h]
      by_cases h2 : num l ≤ ((l.length - (1 + nl l) : Nat) : Int)
      · rw [if_pos ⟨h.1, h.2.1, h.2.2, h2⟩, if_pos (by show num l ≤ ((l.drop (1 + nl l)).length : Int); rw [List.length_drop]; exact h2)]
      · rw [if_neg (fun h3 => h2 h3.2.2.2), if_neg (by show ¬ num l ≤ ((l.drop (1 + nl l)).length : Int); rw [List.length_drop]; exact h2)]
    · rw [rdInt_no h, if_neg (fun h3 => h ⟨h3.1, h3.2.1, h3.2.2.1⟩), if_pos (by decide)]
theorem rdInt_zero_le (most : Int) (st : St) : 0 ≤ (rdInt 0 most st).1 := by
  cases st with
  | none => exact Int.le_refl 0
  | some l =>
    by_cases h : ok l = true ∧ 0 ≤ num l ∧ num l ≤ most
    · rw [rdInt_yes h]; exact h.2.1
    · rw [rdInt_no h]; decide
theorem rdInt_bounds (lo hi : Int) (st : St) : -9223372036854775808 ≤ (rdInt lo hi st).1 ∧ (rdInt lo hi st).1 ≤ 9223372036854775807 := by
  cases st with
  | none => rw [rdInt_none']; exact ⟨by decide, by decide⟩
  | some l =>
    by_cases h : ok l = true ∧ lo ≤ num l ∧ num l ≤ hi
    · rw [rdInt_yes h]; exact num_bounds h.1
    · rw [rdInt_no h]; exact ⟨by decide, by decide⟩
theorem rqflag_any (b : Nat) (st : St) (w : World) (h : RqAt w b st) :
    Calls Try.prog 44 #[.pointer (some ⟨b, 0, none⟩)] w fun e w' => e = .returned (.bool (rdFlag st).1) ∧ RqAt w' b (rdFlag st).2 ∧ w.grownBy w' (some b) := by
  have HR := Lib.hid h
  obtain ⟨z, hz, hl, hs⟩ := h
  have h0 : w.cell? ⟨b, 0, none⟩ = some (.string z) := cell_of_heap hz
  have h1 : w.cell? ⟨b, 1, none⟩ = some (.bool st.isNone) := cell_of_heap hz
  have f0 : w.frozen? ⟨b, 0, none⟩ = false := frozen_of_heap hz
  have hcase := flag_cases st z hl
  have HZ := Lib.hid hz; have HL := Lib.hid hl
  clear hz hl
  rcases hcase with ⟨c0, hf⟩ | ⟨h, c, c1, c2, hf, c3⟩ | ⟨h, l, c, c1, c2, rfl, hf⟩
  · rw [hf]
    have t0 : ((z.size : Int) == 0) = true := beq_iff_eq.2 (by omega)
    clear c0 hf
    cases hn : st.isNone with
    | true =>
      rw [hn] at h1
      clear hn
      go_enter Try.func44, Try.ntmps44
      go_wp2_with fail
      refine (rfails_any b st w HR.out).mono ?_
      rintro e w2 ⟨rfl, hr, hg⟩
      have HG := Lib.hid hg; have HR2 := Lib.hid hr
      clear hg hr
      go_wp2_with fail
      go_ret
      exact ⟨rfl, HR2.out, HG.out⟩
    | false =>
      rw [hn] at h1
      clear hn
      go_enter Try.func44, Try.ntmps44
      go_wp2_with fail
      refine (rfails_any b st w HR.out).mono ?_
      rintro e w2 ⟨rfl, hr, hg⟩
      have HG := Lib.hid hg; have HR2 := Lib.hid hr
      clear hg hr
      go_wp2_with fail
      go_ret
      exact ⟨rfl, HR2.out, HG.out⟩
  · rw [hf]
    rw [c3] at h1
    have t0 : ((z.size : Int) == 0) = false := beq_eq_false_iff_ne.2 (by omega)
    have t1 : decide (1 < (c : Int)) = true := decide_eq_true (by omega)
    have t5 : (0 : Int) < (z.size : Int) := by omega
    clear hf c3
    go_enter Try.func44, Try.ntmps44
    go_wp2_with fail
    refine (rfails_any b st w HR.out).mono ?_
    rintro e w2 ⟨rfl, hr, hg⟩
    have HG := Lib.hid hg; have HR2 := Lib.hid hr
    clear hg hr
    go_wp2_with fail
    go_ret
    exact ⟨rfl, HR2.out, HG.out⟩
  · rw [hf]
    have h1' : w.cell? ⟨b, 1, none⟩ = some (.bool false) := h1
    have t0 : ((z.size : Int) == 0) = false := beq_eq_false_iff_ne.2 (by omega)
    have t5 : (0 : Int) < (z.size : Int) := by omega
    have t6 : (1 : Int) ≤ (z.size : Int) := by omega
    have hex : ∃ y : ByteArray, y = z.extract 1 z.size ∧ y.data.toList = l.drop 1 ∧ y.size ≤ 4398046511104 := by
      refine ⟨_, rfl, ?_, by rw [ByteArray.size_extract]; omega⟩
      have hl2 : z.data.toList = l := HL.out
      rw [extract_list, hl2, ← len_list z, hl2]
      exact List.take_of_length_le (by simp)
    have HEX := Lib.hid hex
    clear hf h1 hex
    obtain rfl | rfl : c = 0 ∨ c = 1 := by omega
    all_goals
      go_enter Try.func44, Try.ntmps44
      go_wp2
      go_ret
      obtain ⟨y, rfl, hy2, hy3⟩ := HEX.out
      exact ⟨rfl, ⟨_, Lib.heap_setCell_same (i := 0) HZ.out _, hy2, hy3⟩, Lib.grownBy_setCell w b 0 _⟩
theorem rqleft_any (b : Nat) (st : St) (w : World) (h : RqAt w b st) :
    Calls Try.prog 23 #[.pointer (some ⟨b, 0, none⟩)] w fun e w' => e = .returned (.int .i64 (left st : Nat)) ∧ w = w' := by
  obtain ⟨z, hz, hl, hs⟩ := h
  have h0 : w.cell? ⟨b, 0, none⟩ = some (.string z) := cell_of_heap hz
  have hzl : left st = z.size := by unfold left; rw [← hl, len_list]
  rw [hzl]
  clear hz hl hzl
  go_enter Try.func23, Try.ntmps23
  go_wp2
  go_ret
  exact ⟨rfl, rfl⟩
theorem rqdone_any (b : Nat) (st : St) (w : World) (h : RqAt w b st) :
    Calls Try.prog 25 #[.pointer (some ⟨b, 0, none⟩)] w fun e w' => e = .returned (.bool (done st)) ∧ Below w.heap.size w w' := by
  obtain ⟨z, hz, hl, hs⟩ := h
  have h0 : w.cell? ⟨b, 0, none⟩ = some (.string z) := cell_of_heap hz
  have h1 : w.cell? ⟨b, 1, none⟩ = some (.bool st.isNone) := cell_of_heap hz
  have hcase := done_cases st z hl
  clear hz hl
  rcases hcase with ⟨c1, c2, c3⟩ | ⟨c1, c2, c3, c4⟩ | ⟨c1, c2, c3, c4⟩
  · rw [c3]
    rw [c2] at h1
    clear c1 c2 c3
    go_enter Try.func25, Try.ntmps25
    go_wp2
    go_ret
    exact ⟨rfl, Below.refl _ _⟩
  · rw [c4]
    rw [c2] at h1
    have t0 : ((z.size : Int) == 0) = true := beq_iff_eq.2 (by omega)
    clear c1 c2 c3 c4
    go_enter Try.func25, Try.ntmps25
    go_wp2
    go_ret
    exact ⟨rfl, Below.refl _ _⟩
  · rw [c4]
    rw [c2] at h1
    have t0 : ((z.size : Int) == 0) = false := beq_eq_false_iff_ne.2 (by omega)
    clear c1 c2 c3 c4
    go_enter Try.func25, Try.ntmps25
    go_wp2
    go_ret
    exact ⟨rfl, Below.refl _ _⟩
theorem RqAt.open {w : World} {b : Nat} {st : St} (h : RqAt w b st) : ∃ z : ByteArray, w.cell? ⟨b, 0, none⟩ = some (.string z) ∧ w.cell? ⟨b, 1, none⟩ = some (.bool st.isNone) ∧ w.frozen? ⟨b, 0, none⟩ = false ∧ z.size = left st ∧ z.size ≤ 4398046511104 ∧ z.data.toList = st.getD [] ∧ w.heap[b]? = some (.cells #[.string z, .bool st.isNone] 43 (0, 0)) := by
  obtain ⟨z, hz, hl, hs⟩ := h
  exact ⟨z, cell_of_heap hz, cell_of_heap hz, frozen_of_heap hz, by unfold left; rw [← hl, len_list], hs, hl, hz⟩
end Go.Proofs.Ytamcidlkbhanfaa.Wire
