/-
  The contracts of the document's Reader: Flag, Text, List, Left, Done: a reader that stands anywhere, a bad one; any bounds.
-/
import Derived.Test.YtpaemofjeadhcaaGreatDoorWireI
set_option linter.unusedVariables false
set_option maxRecDepth 4000
namespace Go.Proofs.YtpaemofjeadhcaaGreatDoor.Wire
open Go.RowKit WireP

/-- What a text and a list are behind their number. -/
theorem rdInt_none' (lo hi : Int) : rdInt lo hi none = (0, none) := rfl
theorem rdText_of (most : Int) (st : St) : rdText most st = if (rdInt 0 most st).1 ≤ (left (rdInt 0 most st).2 : Nat) then (((rdInt 0 most st).2.getD []).take (rdInt 0 most st).1.toNat, (rdInt 0 most st).2.map (·.drop (rdInt 0 most st).1.toNat)) else ([], none) := by
  cases st with
  | none => rw [rdInt_none', if_pos (by decide)]; rfl
  | some l =>
    show ite _ _ _ = _
    by_cases h : ok l = true ∧ 0 ≤ num l ∧ num l ≤ most
    · rw [rdInt_yes h]
      by_cases h2 : num l ≤ ((l.length - (1 + nl l) : Nat) : Int)
      · rw [if_pos ⟨h.1, h.2.1, h.2.2, h2⟩, if_pos (by show num l ≤ ((l.drop (1 + nl l)).length : Int); rw [List.length_drop]; exact h2)]
        simp [List.drop_drop]
      · rw [if_neg (fun h3 => h2 h3.2.2.2), if_neg (by show ¬ num l ≤ ((l.drop (1 + nl l)).length : Int); rw [List.length_drop]; exact h2)]
    · rw [rdInt_no h, if_neg (fun h3 => h ⟨h3.1, h3.2.1, h3.2.2.1⟩), if_pos (by decide)]
      rfl
theorem rdList_of (most : Int) (st : St) : rdList most st = if (rdInt 0 most st).1 ≤ (left (rdInt 0 most st).2 : Nat) then rdInt 0 most st else (0, none) := by
  cases st with
  | none => rw [rdInt_none', if_pos (by decide)]; rfl
  | some l =>
    show ite _ _ _ = _
    by_cases h : ok l = true ∧ 0 ≤ num l ∧ num l ≤ most
    · rw [rdInt_yes h]
      by_cases h2 : num l ≤ ((l.length - (1 + nl l) : Nat) : Int)
      · rw [if_pos ⟨h.1, h.2.1, h.2.2, h2⟩, if_pos (by show num l ≤ ((l.drop (1 + nl l)).length : Int); rw [List.length_drop]; exact h2)]
      · rw [if_neg (fun h3 => h2 h3.2.2.2), if_neg (by show ¬ num l ≤ ((l.drop (1 + nl l)).length : Int); rw [List.length_drop]; exact h2)]
    · rw [rdInt_no h, if_neg (fun h3 => h ⟨h3.1, h3.2.1, h3.2.2.1⟩), if_pos (by decide)]
theorem rdInt_zero_le (most : Int) (st : St) : 0 ≤ (rdInt 0 most st).1 := by
  cases st with
  | none => exact Int.le_refl 0
  | some l =>
    by_cases h : ok l = true ∧ 0 ≤ num l ∧ num l ≤ most
    · rw [rdInt_yes h]; exact h.2.1
    · rw [rdInt_no h]; decide
theorem rdInt_bounds (lo hi : Int) (st : St) : -9223372036854775808 ≤ (rdInt lo hi st).1 ∧ (rdInt lo hi st).1 ≤ 9223372036854775807 := by
  cases st with
  | none => rw [rdInt_none']; exact ⟨by decide, by decide⟩
  | some l =>
    by_cases h : ok l = true ∧ lo ≤ num l ∧ num l ≤ hi
    · rw [rdInt_yes h]; exact num_bounds h.1
    · rw [rdInt_no h]; exact ⟨by decide, by decide⟩
theorem rqleft_any (b : Nat) (st : St) (w : World) (h : RqAt w b st) :
    Calls Tryz.prog 26 #[.pointer (some ⟨b, 0, none⟩)] w fun e w' => e = .returned (.int .i64 (left st : Nat)) ∧ w = w' := by
  obtain ⟨z, hz, hl, hs⟩ := h
  have h0 : w.cell? ⟨b, 0, none⟩ = some (.string z) := cell_of_heap hz
  have hzl : left st = z.size := by unfold left; rw [← hl, len_list]
  rw [hzl]
  clear hz hl hzl
  go_enter Tryz.func26, Tryz.ntmps26
  go_wp2
  go_ret
  exact ⟨rfl, rfl⟩
theorem rqdone_any (b : Nat) (st : St) (w : World) (h : RqAt w b st) :
    Calls Tryz.prog 28 #[.pointer (some ⟨b, 0, none⟩)] w fun e w' => e = .returned (.bool (done st)) ∧ Below w.heap.size w w' := by
  obtain ⟨z, hz, hl, hs⟩ := h
  have h0 : w.cell? ⟨b, 0, none⟩ = some (.string z) := cell_of_heap hz
  have h1 : w.cell? ⟨b, 1, none⟩ = some (.bool st.isNone) := cell_of_heap hz
  have hcase := done_cases st z hl
  clear hz hl
  rcases hcase with ⟨c1, c2, c3⟩ | ⟨c1, c2, c3, c4⟩ | ⟨c1, c2, c3, c4⟩
  · rw [c3]
    rw [c2] at h1
    clear c1 c2 c3
    go_enter Tryz.func28, Tryz.ntmps28
    go_wp2
    go_ret
    exact ⟨rfl, Below.refl _ _⟩
  · rw [c4]
    rw [c2] at h1
    have t0 : ((z.size : Int) == 0) = true := beq_iff_eq.2 (by omega)
    clear c1 c2 c3 c4
    go_enter Tryz.func28, Tryz.ntmps28
    go_wp2
    go_ret
    exact ⟨rfl, Below.refl _ _⟩
  · rw [c4]
    rw [c2] at h1
    have t0 : ((z.size : Int) == 0) = false := beq_eq_false_iff_ne.2 (by omega)
    clear c1 c2 c3 c4
    go_enter Tryz.func28, Tryz.ntmps28
    go_wp2
    go_ret
    exact ⟨rfl, Below.refl _ _⟩
theorem RqAt.open {w : World} {b : Nat} {st : St} (h : RqAt w b st) : ∃ z : ByteArray, w.cell? ⟨b, 0, none⟩ = some (.string z) ∧ w.cell? ⟨b, 1, none⟩ = some (.bool st.isNone) ∧ w.frozen? ⟨b, 0, none⟩ = false ∧ z.size = left st ∧ z.size ≤ 4398046511104 ∧ z.data.toList = st.getD [] ∧ w.heap[b]? = some (.cells #[.string z, .bool st.isNone] 37 (0, 0)) := by
  obtain ⟨z, hz, hl, hs⟩ := h
  exact ⟨z, cell_of_heap hz, cell_of_heap hz, frozen_of_heap hz, by unfold left; rw [← hl, len_list], hs, hl, hz⟩
theorem rqlist_any (b : Nat) (st : St) (most : Int) (w : World) (h : RqAt w b st) :
    Calls Tryz.prog 53 #[.pointer (some ⟨b, 0, none⟩), .int .i64 most] w fun e w' => e = .returned (.int .i64 (rdList most st).1) ∧ RqAt w' b (rdList most st).2 ∧ w.grownBy w' (some b) := by
  have hin := rqint_any b st 0 most w h
  rw [rdList_of]
  have hn0 := rdInt_zero_le most st
  have hbd := rdInt_bounds 0 most st
  obtain ⟨n, st1, hres⟩ : ∃ n st1, rdInt 0 most st = (n, st1) := ⟨_, _, rfl⟩
  rw [hres] at hin hn0 hbd ⊢
  have hn1 : 0 ≤ n := hn0
  have hb1 : n ≤ 9223372036854775807 := hbd.2
  have HIN := Lib.hid hin
  clear hin hn0 hbd hres
  by_cases hle : n ≤ (left st1 : Nat)
  · rw [if_pos hle]
    go_enter Tryz.func53, Tryz.ntmps53
    go_wp2_with fail
    refine HIN.out.mono ?_
    rintro e w1 ⟨rfl, hr1, hg1⟩
    have HR1 := Lib.hid hr1; have HG1 := Lib.hid hg1
    obtain ⟨z1, c0, _, _, hsz, hs1, _, _⟩ := hr1.open
    have hle2 : n ≤ (z1.size : Int) := by omega
    clear hg1 hsz
    go_wp2_with fail
    go_ret
    exact ⟨rfl, HR1.out, HG1.out⟩
  · rw [if_neg hle]
    go_enter Tryz.func53, Tryz.ntmps53
    go_wp2_with fail
    refine HIN.out.mono ?_
    rintro e w1 ⟨rfl, hr1, hg1⟩
    have HR1 := Lib.hid hr1; have HG1 := Lib.hid hg1
    obtain ⟨z1, c0, _, _, hsz, hs1, _, _⟩ := hr1.open
    have hle2 : (z1.size : Int) < n := by omega
    clear hg1 hsz
    go_wp2_with fail
    refine (rfails_any b st1 w1 HR1.out).mono ?_
    rintro e w2 ⟨rfl, hr2, hg2⟩
    have HR2 := Lib.hid hr2; have HG2 := Lib.hid (HG1.out.trans hg2)
    clear hr2 hg2
    go_wp2_with fail
    go_ret
    exact ⟨rfl, HR2.out, HG2.out⟩
theorem rqtext_any (b : Nat) (st : St) (most : Int) (w : World) (h : RqAt w b st) :
    Calls Tryz.prog 54 #[.pointer (some ⟨b, 0, none⟩), .int .i64 most] w fun e w' => e = .returned (.string ⟨(rdText most st).1.toArray⟩) ∧ RqAt w' b (rdText most st).2 ∧ w.grownBy w' (some b) := by
  have hin := rqint_any b st 0 most w h
  rw [rdText_of]
  have hn0 := rdInt_zero_le most st
  have hbd := rdInt_bounds 0 most st
  obtain ⟨n, st1, hres⟩ : ∃ n st1, rdInt 0 most st = (n, st1) := ⟨_, _, rfl⟩
  rw [hres] at hin hn0 hbd ⊢
  have hn1 : 0 ≤ n := hn0
  have hb1 : n ≤ 9223372036854775807 := hbd.2
  obtain ⟨m, rfl⟩ : ∃ m : Nat, n = m := ⟨n.toNat, by omega⟩
  have HIN := Lib.hid hin
  clear hin hn0 hbd hres
  by_cases hle : (m : Int) ≤ (left st1 : Nat)
  · rw [if_pos hle]
    simp only [Int.toNat_natCast]
    obtain ⟨S, hS⟩ : ∃ S : ByteArray, (⟨((st1.getD []).take m).toArray⟩ : ByteArray) = S := ⟨_, rfl⟩
    obtain ⟨T, hT⟩ : ∃ T : St, st1.map (·.drop m) = T := ⟨_, rfl⟩
    rw [hS, hT]
    have HS := Lib.hid hS; have HT := Lib.hid hT
    clear hS hT
    go_enter Tryz.func54, Tryz.ntmps54
    go_wp2_with fail
    refine HIN.out.mono ?_
    rintro e w1 ⟨rfl, hr1, hg1⟩
    have HG1 := Lib.hid hg1
    obtain ⟨z1, c0, c1, f0, hsz, hs1, hl1, hh1⟩ := hr1.open
    have hle2 : (m : Int) ≤ (z1.size : Int) := by omega
    have hle3 : m ≤ z1.size := by omega
    have hfin : z1.extract 0 m = S := by rw [← HS.out]; exact str_eq (by rw [extract_list, hl1]; rfl)
    have HF := Lib.hid hfin; have HH := Lib.hid hh1; have HL := Lib.hid hl1
    have HN : Hid (T.isNone = st1.isNone ∧ T.getD [] = (st1.getD []).drop m) := by
      show _ ∧ _
      rw [← HT.out]
      cases st1 with
      | none => exact ⟨rfl, by simp⟩
      | some q => exact ⟨rfl, rfl⟩
    clear hg1 hsz hfin hh1 hl1
    go_wp2_with fail
    go_ret
    refine ⟨?_, ?_, HG1.out.trans (Lib.grownBy_setCell w1 b 0 _)⟩
    · rw [← HF.out]; rfl
    · refine ⟨z1.extract m z1.size, ?_, ?_, by rw [ByteArray.size_extract]; omega⟩
      · rw [HN.out.1]
        exact Lib.heap_setCell_same (i := 0) HH.out _
      · rw [HN.out.2, extract_list, ← len_list z1, HL.out]
        exact List.take_of_length_le (by simp)
  · rw [if_neg hle]
    go_enter Tryz.func54, Tryz.ntmps54
    go_wp2_with fail
    refine HIN.out.mono ?_
    rintro e w1 ⟨rfl, hr1, hg1⟩
    have HR1 := Lib.hid hr1; have HG1 := Lib.hid hg1
    obtain ⟨z1, c0, _, _, hsz, hs1, _, _⟩ := hr1.open
    have hle2 : (z1.size : Int) < (m : Int) := by omega
    clear hg1 hsz
    go_wp2_with fail
    refine (rfails_any b st1 w1 HR1.out).mono ?_
    rintro e w2 ⟨rfl, hr2, hg2⟩
    have HR2 := Lib.hid hr2; have HG2 := Lib.hid (HG1.out.trans hg2)
    clear hr2 hg2
    go_wp2_with fail
    go_ret
    exact ⟨rfl, HR2.out, HG2.out⟩
end Go.Proofs.YtpaemofjeadhcaaGreatDoor.Wire
