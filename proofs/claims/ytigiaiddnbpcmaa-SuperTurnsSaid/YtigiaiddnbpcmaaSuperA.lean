/-
  Superblocks in memory; the contracts of Few, both Slots, what compares lists and superblocks, and whether a list has a number.
-/
import Derived.Test.YtigiaiddnbpcmaaSuperPlain
import Derived.Test.YtigiaiddnbpcmaaWireK
import Derived.Test.YtigiaiddnbpcmaaStampH
import Derived.BigRegion
set_option linter.unusedVariables false
set_option maxRecDepth 4000
namespace Go.Proofs.Ytigiaiddnbpcmaa
open Go.RowKit SuperP
open Wire (IntsAt getD_mem take_snoc)

/-- A superblock as a value: its lists are the slices p and q. -/
def supV (x : Sup) (p q : Value) : Value := .agg #[.int .i64 x.gen, .int .i64 x.base, .int .i64 x.size, .int .i64 x.cg, p, q]
/-- The slices of a superblock lie in memory so. -/
structure SupAt (w : World) (x : Sup) (a1 : Option Addr) (l1 : Nat) (a2 : Option Addr) (l2 : Nat) : Prop where
  chk : IntsAt w a1 l1 x.chk
  log : IntsAt w a2 l2 x.log
  big1 : l1 ≤ 9223372036854775807
  big2 : l2 ≤ 9223372036854775807
theorem SupAt.keep {w w' : World} {x : Sup} {a1 a2 : Option Addr} {l1 l2 : Nat} (h : SupAt w x a1 l1 a2 l2) (hb : Below w.heap.size w w') : SupAt w' x a1 l1 a2 l2 := ⟨h.chk.keep hb, h.log.keep hb, h.big1, h.big2⟩
theorem six_cells {w : World} {v0 v1 v2 v3 v4 v5 : Value} {b : Nat} (h : w.heap[b]? = some (.cells #[v0, v1, v2, v3, v4, v5] 24 (0, 0))) :
    w.cell? ⟨b, 0, none⟩ = some v0 ∧ w.cell? ⟨b, 1, none⟩ = some v1 ∧ w.cell? ⟨b, 2, none⟩ = some v2 ∧ w.cell? ⟨b, 3, none⟩ = some v3 ∧ w.cell? ⟨b, 4, none⟩ = some v4 ∧ w.cell? ⟨b, 5, none⟩ = some v5 := by
  refine ⟨?_, ?_, ?_, ?_, ?_, ?_⟩ <;> (rw [Wire.cell_of_heap h]; rfl)

theorem few_any (x : Sup) (a1 a2 : Option Addr) (l1 c1 l2 c2 : Nat) (w : World) (h : SupAt w x a1 l1 a2 l2) :
    Calls Try.prog 7 #[supV x (.slice a1 l1 c1) (.slice a2 l2 c2)] w fun e w' => e = .returned (.bool (decide (x.chk.length ≤ 80) && decide (x.log.length ≤ 80))) ∧ Below w.heap.size w w' := by
  have e1 := h.chk.1
  have e2 := h.log.1
  have hb1 := h.big1
  have hb2 := h.big2
  rw [e1, e2]
  unfold supV
  clear e1 e2 h
  by_cases g1 : l1 ≤ 80 <;> by_cases g2 : l2 ≤ 80 <;> simp only [g1, g2, decide_true, decide_false, Bool.and_true, Bool.and_false]
  all_goals
    first
      | have i1 : decide ((l1 : Int) ≤ 80) = true := by simp; omega
      | have i1 : decide ((l1 : Int) ≤ 80) = false := by simp; omega
    first
      | have i2 : decide ((l2 : Int) ≤ 80) = true := by simp; omega
      | have i2 : decide ((l2 : Int) ≤ 80) = false := by simp; omega
    go_enter Try.func7, Try.ntmps7
    go_wp2
    go_ret
    exact ⟨rfl, (Below.refl _ w).alloc (Nat.le_refl _) _⟩

def slot (n : Int) : Int := if n % 2 = 0 then 0 else 1
theorem slot_any (n : Int) (w : World) (h0 : -9223372036854775808 ≤ n) (h1 : n ≤ 9223372036854775807) :
    Calls Try.prog 16 #[.int .i64 n] w fun e w' => e = .returned (.int .i64 (slot n)) ∧ w = w' := by
  unfold slot
  have ht : n.tmod 2 = 0 ↔ n % 2 = 0 := Int.dvd_iff_tmod_eq_zero.symm.trans Int.dvd_iff_emod_eq_zero
  by_cases h : n % 2 = 0
  · rw [if_pos h]
    have h2 : (n.tmod 2 == 0) = true := by simpa using ht.2 h
    go_enter Try.func16, Try.ntmps16
    go_wp2
    go_ret
    exact ⟨rfl, rfl⟩
  · rw [if_neg h]
    have h2 : (n.tmod 2 == 0) = false := by simpa using fun e => h (ht.1 e)
    go_enter Try.func16, Try.ntmps16
    go_wp2
    go_ret
    exact ⟨rfl, rfl⟩
theorem rslot_any (n : Int) (w : World) (h0 : -9223372036854775808 ≤ n) (h1 : n ≤ 9223372036854775807) :
    Calls Try.prog 17 #[.int .i64 n] w fun e w' => e = .returned (.int .i64 (slot n)) ∧ w = w' := by
  unfold slot
  have ht : n.tmod 2 = 0 ↔ n % 2 = 0 := Int.dvd_iff_tmod_eq_zero.symm.trans Int.dvd_iff_emod_eq_zero
  by_cases h : n % 2 = 0
  · rw [if_pos h]
    have h2 : (n.tmod 2 == 0) = true := by simpa using ht.2 h
    go_enter Try.func17, Try.ntmps17
    go_wp2
    go_ret
    exact ⟨rfl, rfl⟩
  · rw [if_neg h]
    have h2 : (n.tmod 2 == 0) = false := by simpa using fun e => h (ht.1 e)
    go_enter Try.func17, Try.ntmps17
    go_wp2
    go_ret
    exact ⟨rfl, rfl⟩

theorem take_same {xs ys : List Int} {k : Nat} (h : xs.take k = ys.take k) (h1 : k < xs.length) (h2 : k < ys.length) (e : xs.getD k 0 = ys.getD k 0) : xs.take (k + 1) = ys.take (k + 1) := by
  rw [take_snoc xs k h1, take_snoc ys k h2, h, e]
theorem same_end {xs ys : List Int} {k : Nat} (h : xs.take k = ys.take k) (h1 : xs.length ≤ k) (h2 : ys.length ≤ k) : xs = ys := by
  rw [List.take_of_length_le h1, List.take_of_length_le h2] at h; exact h
theorem same_not {xs ys : List Int} {k : Nat} (e : ¬ xs.getD k 0 = ys.getD k 0) : ¬ xs = ys := fun h => e (by rw [h])
theorem len_not {xs ys : List Int} {n m : Nat} (h1 : xs.length = n) (h2 : ys.length = m) (e : ¬ n = m) : ¬ xs = ys := fun h => e (by rw [← h1, ← h2, h])
set_option maxHeartbeats 1000000 in
theorem rsame_any (a c : Option Addr) (la ca lc cc : Nat) (xs ys : List Int) (w : World) (h1 : IntsAt w a la xs) (h2 : IntsAt w c lc ys) (hl1 : la ≤ 9223372036854775807) (hl2 : lc ≤ 9223372036854775807) :
    Calls Try.prog 37 #[.slice a la ca, .slice c lc cc] w fun e w' => e = .returned (.bool (decide (xs = ys))) ∧ Below w.heap.size w w' := by
  obtain ⟨R, hR⟩ : ∃ R, decide (xs = ys) = R := ⟨_, rfl⟩
  rw [hR]
  by_cases hl : la = lc
  · subst hl
    have HL1 := Lib.hid h1.1; have HL2 := Lib.hid h2.1; have HR := Lib.hid hR
    have hc1 := h1.2.2
    have hc2 := h2.2.2
    clear h1 h2 hR
    have HC1 := Lib.hid hc1; have HC2 := Lib.hid hc2
    clear hc1 hc2
    go_enter Try.func37, Try.ntmps37
    go_wp2_with fail
    go_loopw [5] (fun i wr => ∃ j : Nat, j ≤ la ∧ i = .int .i64 (j : Int) ∧ Hid (Below w.heap.size w wr) ∧ Hid (xs.take j = ys.take j)) (fun i _ => la - (intOf i).toNat)
    case atStart => exact ⟨0, Nat.zero_le _, rfl, Below.refl _ w, rfl⟩
    case round =>
      obtain ⟨j, hj, rfl, hB, hT⟩ := hrel
      by_cases hlt : j < la
      · obtain ⟨b1, o1, rfl, hb1, hd1⟩ := HC1.out.resolve_left (by omega)
        obtain ⟨b2, o2, rfl, hb2, hd2⟩ := HC2.out.resolve_left (by omega)
        have d1 := (hB.out.cell (p := ⟨b1, o1 + j, none⟩) hb1).trans (hd1 j hlt)
        have d2 := (hB.out.cell (p := ⟨b2, o2 + j, none⟩) hb2).trans (hd2 j hlt)
        have HB := Lib.hid (fun n => below_drewN' hB.out n)
        have hy := fun e => take_same hT.out (k := j) (by rw [HL1.out]; exact hlt) (by rw [HL2.out]; exact hlt) e
        have hn := fun e => same_not (xs := xs) (ys := ys) (k := j) e
        clear hB hd1 hd2 hT HC1 HC2
        generalize xs.getD j 0 = u1 at *
        generalize ys.getD j 0 = u2 at *
        have HY := Lib.hid hy; have HN := Lib.hid hn
        clear hy hn
        by_cases he : u1 = u2
        · have HYE := Lib.hid (HY.out he)
          subst he
          go_wp2_with fail
          go_quiet (fail)
          go_wp2_with fail
          go_roundw
          case rel => exact ⟨j + 1, by omega, by go_num, HB.out _, HYE.out⟩
          case measure => simp [intOf]; omega
        · have hne : (u1 != u2) = true := by simpa using he
          go_wp2_with fail
          go_quiet (fail)
          go_wp2_with fail
          go_ret
          exact ⟨by rw [← HR.out, decide_eq_false (HN.out he)]; rfl, HB.out _⟩
      · have hend := same_end hT.out (by rw [HL1.out]; omega) (by rw [HL2.out]; omega)
        have HE := Lib.hid hend
        clear hend hT
        go_wp2_with fail
        go_ret
        exact ⟨by rw [← HR.out, decide_eq_true HE.out]; rfl, hB.out⟩
  · have hn := len_not h1.1 h2.1 hl
    rw [decide_eq_false hn] at hR
    subst hR
    have hne : ((la : Int) != (lc : Int)) = true := by simp; omega
    clear h1 h2 hn
    go_enter Try.func37, Try.ntmps37
    go_wp2_with fail
    go_ret
    exact ⟨rfl, Below.refl _ w⟩
set_option maxHeartbeats 1000000 in
theorem equal_any (a c : Option Addr) (la ca lc cc : Nat) (xs ys : List Int) (w : World) (h1 : IntsAt w a la xs) (h2 : IntsAt w c lc ys) (hl1 : la ≤ 9223372036854775807) (hl2 : lc ≤ 9223372036854775807) :
    Calls Try.prog 41 #[.slice a la ca, .slice c lc cc] w fun e w' => e = .returned (.bool (decide (xs = ys))) ∧ Below w.heap.size w w' := by
  obtain ⟨R, hR⟩ : ∃ R, decide (xs = ys) = R := ⟨_, rfl⟩
  rw [hR]
  by_cases hl : la = lc
  · subst hl
    have HL1 := Lib.hid h1.1; have HL2 := Lib.hid h2.1; have HR := Lib.hid hR
    have hc1 := h1.2.2
    have hc2 := h2.2.2
    clear h1 h2 hR
    have HC1 := Lib.hid hc1; have HC2 := Lib.hid hc2
    clear hc1 hc2
    go_enter Try.func41, Try.ntmps41
    go_wp2_with fail
    go_loopw [13] (fun i wr => ∃ j : Nat, j ≤ la ∧ i = .int .i64 (j : Int) ∧ Hid (Below w.heap.size w wr) ∧ Hid (xs.take j = ys.take j)) (fun i _ => la - (intOf i).toNat)
    case atStart => exact ⟨0, Nat.zero_le _, rfl, Below.refl _ w, rfl⟩
    case round =>
      obtain ⟨j, hj, rfl, hB, hT⟩ := hrel
      by_cases hlt : j < la
      · obtain ⟨b1, o1, rfl, hb1, hd1⟩ := HC1.out.resolve_left (by omega)
        obtain ⟨b2, o2, rfl, hb2, hd2⟩ := HC2.out.resolve_left (by omega)
        have d1 := (hB.out.cell (p := ⟨b1, o1 + j, none⟩) hb1).trans (hd1 j hlt)
        have d2 := (hB.out.cell (p := ⟨b2, o2 + j, none⟩) hb2).trans (hd2 j hlt)
        have HB := Lib.hid (fun n => below_drewN' hB.out n)
        have hy := fun e => take_same hT.out (k := j) (by rw [HL1.out]; exact hlt) (by rw [HL2.out]; exact hlt) e
        have hn := fun e => same_not (xs := xs) (ys := ys) (k := j) e
        clear hB hd1 hd2 hT HC1 HC2
        generalize xs.getD j 0 = u1 at *
        generalize ys.getD j 0 = u2 at *
        have HY := Lib.hid hy; have HN := Lib.hid hn
        clear hy hn
        by_cases he : u1 = u2
        · have HYE := Lib.hid (HY.out he)
          subst he
          go_wp2_with fail
          go_quiet (fail)
          go_wp2_with fail
          go_roundw
          case rel => exact ⟨j + 1, by omega, by go_num, HB.out _, HYE.out⟩
          case measure => simp [intOf]; omega
        · have hne : (u1 != u2) = true := by simpa using he
          go_wp2_with fail
          go_quiet (fail)
          go_wp2_with fail
          go_ret
          exact ⟨by rw [← HR.out, decide_eq_false (HN.out he)]; rfl, HB.out _⟩
      · have hend := same_end hT.out (by rw [HL1.out]; omega) (by rw [HL2.out]; omega)
        have HE := Lib.hid hend
        clear hend hT
        go_wp2_with fail
        go_ret
        exact ⟨by rw [← HR.out, decide_eq_true HE.out]; rfl, hB.out⟩
  · have hn := len_not h1.1 h2.1 hl
    rw [decide_eq_false hn] at hR
    subst hR
    have hne : ((la : Int) != (lc : Int)) = true := by simp; omega
    clear h1 h2 hn
    go_enter Try.func41, Try.ntmps41
    go_wp2_with fail
    go_ret
    exact ⟨rfl, Below.refl _ w⟩
theorem has_end {xs : List Int} {n : Int} {k : Nat} (h : ¬ n ∈ xs.take k) (h1 : xs.length ≤ k) : ¬ n ∈ xs := by
  rw [List.take_of_length_le h1] at h; exact h
theorem has_step {xs : List Int} {n : Int} {k : Nat} (h : ¬ n ∈ xs.take k) (h1 : k < xs.length) (e : ¬ xs.getD k 0 = n) : ¬ n ∈ xs.take (k + 1) := by
  rw [take_snoc xs k h1]
  simp only [List.mem_append, List.mem_singleton, not_or]
  exact ⟨h, fun g => e g.symm⟩
theorem has_any (a : Option Addr) (len cap : Nat) (n : Int) (xs : List Int) (w : World) (h : IntsAt w a len xs) (hl : len ≤ 9223372036854775807) :
    Calls Try.prog 62 #[.slice a len cap, .int .i64 n] w fun e w' => e = .returned (.bool (decide (n ∈ xs))) ∧ w = w' := by
  obtain ⟨R, hR⟩ : ∃ R, decide (n ∈ xs) = R := ⟨_, rfl⟩
  rw [hR]
  have HL := Lib.hid h.1; have HC := Lib.hid h.2.2; have HR := Lib.hid hR
  clear h hR
  go_enter Try.func62, Try.ntmps62
  go_wp2_with fail
  go_loopw [5] (fun i wr => ∃ j : Nat, j ≤ len ∧ i = .int .i64 (j : Int) ∧ w = wr ∧ Hid (¬ n ∈ xs.take j)) (fun i _ => len - (intOf i).toNat)
  case atStart => exact ⟨0, Nat.zero_le _, rfl, rfl, by show ¬ n ∈ List.take 0 xs; simp⟩
  case round =>
    obtain ⟨j, hj, rfl, rfl, hT⟩ := hrel
    by_cases hlt : j < len
    · obtain ⟨b1, o1, rfl, hb1, hd1⟩ := HC.out.resolve_left (by omega)
      have d1 := hd1 j hlt
      have hy := fun e => has_step hT.out (k := j) (by rw [HL.out]; exact hlt) e
      have hn : xs.getD j 0 = n → n ∈ xs := fun e => e ▸ getD_mem (by rw [HL.out]; exact hlt)
      clear hd1 hT HC
      generalize xs.getD j 0 = u1 at *
      have HY := Lib.hid hy; have HN := Lib.hid hn
      clear hy hn
      by_cases he : u1 = n
      · have HNE := Lib.hid (decide_eq_true (HN.out he))
        subst he
        go_wp2
        go_ret
        exact ⟨by rw [← HR.out, HNE.out]; rfl, rfl⟩
      · have hne : (u1 == n) = false := by simpa using he
        go_wp2
        go_roundw
        case rel => exact ⟨j + 1, by omega, by go_num, by trivial, HY.out he⟩
        case measure => simp [intOf]; omega
    · have hend := has_end hT.out (by rw [HL.out]; omega)
      have HE := Lib.hid hend
      clear hend hT
      go_wp2
      go_ret
      exact ⟨by rw [← HR.out, decide_eq_false HE.out]; rfl, rfl⟩
end Go.Proofs.Ytigiaiddnbpcmaa
