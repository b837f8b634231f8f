/-
  The contracts of the words' add, of num's Digits and of words joined: any words, where the table of the powers of ten stands; what was there stays as it was.
-/
import Derived.Test.YtekndioohjlmcaaDoorLetterF
import Derived.Test.YtekndioohjlmcaaDoorRwName
import Derived.Test.YtekndioohjlmcaaDoorNumH
import Derived.Test.YtekndioohjlmcaaDoorShelf
import Derived.Lib.ItoaLen
set_option linter.unusedVariables false
set_option linter.unusedSimpArgs false
set_option maxRecDepth 4000
namespace Go.Proofs.YtekndioohjlmcaaDoor.Letter
open Go.RowKit LeP
open Go.Proofs.YtekndioohjlmcaaDoor.Kt

/-- Words so far: a cell that holds a row of them, in blocks behind it. -/
def Wd (w : World) (b : Nat) (xs : List ByteArray) : Prop := ∃ v, w.heap[b]? = some (.cells #[v] 40 (0, 0)) ∧ w.ownsRow (b + 1) 9 1 v xs.length (Rw.cells Rw.strS xs)
theorem Wd.keep {w w' : World} {b : Nat} {xs : List ByteArray} (h : Wd w b xs) (hb : Below w.heap.size w w') : Wd w' b xs := by
  obtain ⟨v, h1, h2⟩ := h
  exact ⟨v, (hb.block b (heap_lt h1)).trans h1, Rw.owns_below h2 hb⟩
theorem wd_new (w : World) : Wd (w.alloc (.cells #[.slice none 0 0] 40)) w.heap.size [] := ⟨_, heap_alloc_new w _, World.ownsRow_nil _ _ _ _⟩
theorem wd_lt {w : World} {b : Nat} {xs : List ByteArray} (h : Wd w b xs) : b + 1 ≤ w.heap.size := by
  obtain ⟨v, h1, _⟩ := h
  exact heap_lt h1
theorem add_any (b bk m c : Nat) (xs ys : List ByteArray) (hm : ys.length = m) (hxs : xs.length ≤ 1000) (hm9 : m ≤ 1000) (w : World) (h : Wd w b xs) (hc : ∀ j u, (Rw.cells Rw.strS ys)[j]? = some u → w.cell? ⟨bk, 0 + j, none⟩ = some u) :
    Calls Tryd.prog 22 #[.pointer (some ⟨b, 0, none⟩), .slice (some ⟨bk, 0, none⟩) m c] w fun e w' => e = .returned (.tuple #[]) ∧ Wd w' b (xs ++ ys) ∧ Below b w w' := by
  have hlt := wd_lt h
  obtain ⟨v, h1, h2⟩ := h
  obtain ⟨n, hn⟩ : ∃ n, xs.length = n := ⟨_, rfl⟩
  rw [hn] at h2 hxs
  obtain ⟨a0, c0, rfl, hc0⟩ := Rw.owns_slice h2
  have d0 := cell_of_heap (i := 0) h1
  have HO := Lib.hid h2
  have HC := Lib.hid hc
  have H1 := Lib.hid h1
  have HN := Lib.hid hn
  simp only [List.getElem?_toArray, List.getElem?_cons_zero] at d0
  clear h1 h2 hc hn
  go_enter Tryd.func22, Tryd.ntmps22
  go_wp2_with (at_builtin; refine Rw.append_moreN Rw.strS rfl (.tmp 7) (.tmp 8) 40 39 Tryd.underlying40 Tryd.underlying39 rfl (b + 1) (.slice a0 n c0) n xs ys bk 0 m c rfl HO.out rfl hm HC.out (by omega) hlt ?_)
  intro v1 w1 hO1 hg1
  have hne : ∀ g, (Value.slice a0 n c0).ownBlock = some g → g ≠ b := fun g hg => by have := (World.ownsRow.lt HO.out g hg).1; omega
  have hb1 : w1.heap[b]? = some (.cells #[.slice a0 n c0] 40 (0, 0)) := (hg1.block b (heap_lt H1.out) (fun e => hne b e.symm rfl)).trans H1.out
  have hbel : Below b w w1 := ⟨hg1.os, hg1.tape, hg1.output, hg1.size, fun k hk => hg1.block k (by have := heap_lt H1.out; omega) (fun e => by have := (World.ownsRow.lt HO.out k e.symm).1; omega)⟩
  have e0 := cell_of_heap (i := 0) hb1
  simp only [List.getElem?_toArray, List.getElem?_cons_zero] at e0
  have f0 : w1.frozen? ⟨b, 0, none⟩ = false := frozen_of_heap hb1
  have hs := Lib.heap_setCell_same (i := 0) hb1 v1
  have hO2 : (w1.setCell ⟨b, 0, none⟩ v1).ownsRow (b + 1) 9 1 v1 (n + m) (Rw.cells Rw.strS (xs ++ ys)) := by
    refine Rw.owns_heap hO1 fun g hg => ?_
    have := (World.ownsRow.lt hO1 g hg).1
    exact heap_setCell_other _ _ _ _ (by show g ≠ b; omega)
  have HW : Hid (Wd (w1.setCell ⟨b, 0, none⟩ v1) b (xs ++ ys)) := by
    refine ⟨v1, ?_, ?_⟩
    · rw [hs]; rfl
    · rw [List.length_append, HN.out, hm]; exact hO2
  have HB : Hid (Below b w (w1.setCell ⟨b, 0, none⟩ v1)) := hbel.setCell (p := ⟨b, 0, none⟩) (Nat.le_refl _) _
  obtain ⟨a1, c1, rfl, _⟩ := Rw.owns_slice hO1
  clear hO1 hg1 hne hb1 hbel hs hO2 d0
  go_wp2_with fail
  first | go_end0 | go_ret
  exact ⟨rfl, HW.out, HB.out⟩
theorem djoin {G : Prop} {F P : World → Nat → Prop} (main : (∀ w p, F w p → P w p) → G) (pf : ∀ w p, F w p → P w p) : G := main pf
theorem belk {b : Nat} {W u v : World} (h : Below b W u) (k : Below u.heap.size u v) (hb : b ≤ W.heap.size) : Below b W v := below_keep h k (Nat.le_trans hb h.size)
theorem digits_is (n : Int) (h0 : 0 ≤ n) (h1 : n ≤ 1099511627776) (w : World) (ht : Num.Tab w) : Calls Tryd.prog 23 #[.int .i64 n] w fun e w' => e = .returned (.string (bs (Lib.itoa n))) ∧ Below w.heap.size w w' :=
  Num.digits_is n (bs (Lib.itoa n)) w (by omega) (by omega) ht rfl
theorem join_small (xs : List ByteArray) (h : ∀ x ∈ xs, x.size ≤ 21) (hl : xs.length ≤ 8) : (Lib.join (xs.map (·.data.toList)) [32]).length ≤ 1000 := by
  cases xs with
  | nil => simp [Lib.join_nil]
  | cons x r =>
    rw [List.map_cons, Lib.join_length]
    have hs : ∀ l : List ByteArray, (∀ x ∈ l, x.size ≤ 21) → Lib.lens (l.map (·.data.toList)) ≤ 21 * l.length := by
      intro l hl
      induction l with
      | nil => simp [Lib.lens]
      | cons y q ih =>
        have h1 := ih fun z hz => hl z (List.mem_cons_of_mem _ hz)
        have h2 := hl y List.mem_cons_self
        have h3 : y.data.toList.length = y.size := Array.length_toList
        simp only [Lib.lens, List.map_cons, List.sum_cons, List.length_cons] at h1 ⊢
        omega
    have := hs (x :: r) h
    simp only [List.map_cons, List.length_cons, List.length_map, List.length_nil] at this hl ⊢
    omega
theorem itoa_len {n : Int} (h0 : 0 ≤ n) (h1 : n ≤ 1099511627776) : (bs (Lib.itoa n)).size ≤ 21 := by
  show (Lib.itoa n).toArray.size ≤ 21
  rw [List.size_toArray]
  exact Lib.itoa_length_le n (by omega) (by omega)
theorem str_eq {s t : ByteArray} (h : s.data.toList = t.data.toList) : s = t := by
  cases s with | mk a => cases t with | mk b => simp at h; rw [h]
/-- The words joined. -/
theorem join_any (b : Nat) (xs : List ByteArray) (s : ByteArray) (hs : Lib.join (xs.map (·.data.toList)) [32] = s.data.toList) (hx : ∀ x ∈ xs, x.size ≤ 21) (h0 : 0 < xs.length) (hl : xs.length ≤ 8) (w : World) (h : Wd w b xs) :
    ∃ v, w.cell? ⟨b, 0, none⟩ = some v ∧ Calls Tryd.prog 25 #[v, .string ⟨#[32]⟩] w fun e w' => e = .returned (.string s) ∧ Below w.heap.size w w' := by
  obtain ⟨v, h1, h2⟩ := h
  refine ⟨v, by rw [cell_of_heap h1]; rfl, ?_⟩
  rcases Rw.owns_form h2 with ⟨rfl, h3⟩ | ⟨g, cap, rfl, _, hlt⟩
  · omega
  have hj := Tryd.strings_Join g 0 cap xs ⟨#[32]⟩ w (fun j x hx => by rw [Nat.zero_add]; exact Rw.owns_cell h2 rfl (Rw.str_get hx)) hlt (by omega) (Rw.owns_room h2) (by have := join_small xs hx hl; exact Nat.le_trans this (by omega))
  rw [show (⟨#[32]⟩ : ByteArray).data.toList = [32] from rfl, hs, show (⟨s.data.toList.toArray⟩ : ByteArray) = s from str_eq rfl] at hj
  exact hj

end Go.Proofs.YtekndioohjlmcaaDoor.Letter
