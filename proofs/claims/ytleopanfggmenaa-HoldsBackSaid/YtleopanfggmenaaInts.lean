/-
  Rows of integers of 64 bits: how they stand in memory, how a call appends to one of its own, what compares them and looks for a number in them; an array of bools that marks numbers below 63; what the frame tells of a slice of integers that came in.
-/
import Derived.Test.YtleopanfggmenaaRows
import Derived.Test.YtleopanfggmenaaChecked
import Derived.WalkKit
import Derived.Lib.Hide
import Derived.Below
import Derived.Lib.BufferWrite
import Derived.WalkLawsBesides
import Derived.WalkSpells
import Derived.BigQuiet
import Derived.Deep.QuietTactic
import Derived.RegionTactic
import Derived.Laws.AppendOwn
import Derived.Laws.AppendOwnNone
import Derived.OwnWalk
import Derived.LoopTactic
import Derived.OpenShut
set_option linter.unusedVariables false
set_option maxRecDepth 4000
set_option maxRecDepth 4000
namespace Go.Proofs.Ytleopanfggmenaa
open Go.RowKit

/-- What the walk is told of a slice of integers that came in: it is nil, or it leads to its cells. -/
def IsRow (k : IntKind) (w : World) (a : Option Addr) (len cap : Nat) (zs : List Int) : Prop :=
  (a = none ∧ len = 0 ∧ cap = 0 ∧ zs = []) ∨
  ∃ x, a = some x ∧ len ≤ cap ∧ cap ≤ maxLen ∧ zs.length = cap ∧ (∀ i, i < zs.length → w.cell? (x.add i) = some (.int k (zs.getD i 0))) ∧ ∀ n ∈ zs, (Lit.int k n).wf = true
namespace Ints
theorem cell_of_heap {w : World} {b i : Nat} {cs : Array Value} {t : TypeId} {fr : Nat × Nat} (h : w.heap[b]? = some (.cells cs t fr)) : w.cell? ⟨b, i, none⟩ = cs[i]? := by simp [World.cell?, h]
theorem frozen_of_heap {w : World} {b i : Nat} {cs : Array Value} {t : TypeId} (h : w.heap[b]? = some (.cells cs t (0, 0))) : w.frozen? ⟨b, i, none⟩ = false := by simp [World.frozen?, h]
theorem add_at (g j i : Nat) : (⟨g, j, none⟩ : Addr).add i = ⟨g, j + i, none⟩ := by unfold Addr.add; split <;> simp_all
theorem below_drewN' {B : Nat} {a w : World} (h : Below B a w) (n : Nat) : Below B a (w.drewN n) := h.trans ⟨rfl, rfl, rfl, Nat.le_refl _, fun _ _ => rfl⟩
theorem owns_slice' {w : World} {base n : Nat} {e : TypeId} {v : Value} {xs : List Value} (h : w.ownsRow base e 1 v n xs) : ∃ a cap, v = .slice a n cap := by
  rcases h.2 with ⟨rfl, rfl⟩ | ⟨g, cap, cur, rfl, _⟩
  · exact ⟨none, 0, rfl⟩
  · exact ⟨_, cap, rfl⟩
theorem owns_mono {w : World} {B C n : Nat} {e : TypeId} {v : Value} {xs : List Value} (h : w.ownsRow B e 1 v n xs) (hc : C ≤ B) : w.ownsRow C e 1 v n xs :=
  ⟨h.1, h.2.imp id (fun ⟨g, cap, cur, h1, h2, h3⟩ => ⟨g, cap, cur, h1, Nat.le_trans hc h2, h3⟩)⟩
theorem owns_cast {w : World} {B n m : Nat} {e : TypeId} {v : Value} {xs ys : List Value} (h : w.ownsRow B e 1 v n xs) (hn : n = m) (hx : xs = ys) : w.ownsRow B e 1 v m ys := by rw [← hn, ← hx]; exact h
theorem cell_one_new (w : World) (v : Value) (t : TypeId) : ∀ j u, [v][j]? = some u → (w.alloc (.cells #[v] t)).cell? ((⟨w.heap.size, 0, none⟩ : Addr).add j) = some u := fun j u h => by
  have hj : j = 0 := by
    have := (List.getElem?_eq_some_iff.1 h).1
    simp at this; omega
  subst hj
  rw [add_at, Nat.zero_add, World.cell?_alloc_new]
  exact h

/-- A slice of integers of 64 bits that lies in memory, told of its first 'len' cells. -/
def IntsAt (w : World) (a : Option Addr) (len : Nat) (xs : List Int) : Prop :=
  xs.length = len ∧ (∀ x ∈ xs, -9223372036854775808 ≤ x ∧ x ≤ 9223372036854775807) ∧ (len = 0 ∨ ∃ b off, a = some ⟨b, off, none⟩ ∧ b < w.heap.size ∧ ∀ i, i < len → w.cell? ⟨b, off + i, none⟩ = some (.int .i64 (xs.getD i 0)))
theorem IntsAt.keep {w w' : World} {a : Option Addr} {len : Nat} {xs : List Int} (h : IntsAt w a len xs) (hb : Below w.heap.size w w') : IntsAt w' a len xs := by
  refine ⟨h.1, h.2.1, ?_⟩
  rcases h.2.2 with h0 | ⟨b, off, rfl, hlt, hc⟩
  · exact .inl h0
  · exact .inr ⟨b, off, rfl, by have := hb.size; omega, fun i hi => (hb.cell (p := ⟨b, off + i, none⟩) hlt).trans (hc i hi)⟩
theorem IntsAt.nil (w : World) (a : Option Addr) : IntsAt w a 0 [] := ⟨rfl, by simp, .inl rfl⟩
theorem take_snoc (xs : List Int) (k : Nat) (h : k < xs.length) : xs.take (k + 1) = xs.take k ++ [xs.getD k 0] := by
  rw [List.take_succ_eq_append_getElem h]; simp [List.getD, h]
theorem getD_mem {xs : List Int} {k : Nat} (hk : k < xs.length) : xs.getD k 0 ∈ xs := by
  rw [List.getD_eq_getElem?_getD, List.getElem?_eq_getElem hk]; simp
theorem isRow_at {w : World} {a : Option Addr} {len cap : Nat} {zs : List Int} (h : IsRow .i64 w a len cap zs) : IntsAt w a len (zs.take len) ∧ len ≤ 9223372036854775807 := by
  rcases h with ⟨rfl, rfl, _, rfl⟩ | ⟨x, rfl, hl, hm, hz, hc, hw⟩
  · exact ⟨⟨rfl, by simp, .inl rfl⟩, by omega⟩
  · unfold maxLen at hm
    refine ⟨⟨by rw [List.length_take]; omega, fun n hn => bounds_i64 (hw n (List.mem_of_mem_take hn)), ?_⟩, by omega⟩
    by_cases h0 : len = 0
    · exact .inl h0
    · right
      obtain ⟨b, off, rfl, hcell⟩ := ints_at hc (by omega)
      have h00 := hcell 0 (by omega)
      have hlt := World.block_lt_of_cell? w _ h00
      exact ⟨b, off, rfl, hlt, fun i hi => by rw [hcell i (by omega)]; simp [List.getD, hi]⟩

theorem info_int : (Try.prog.info? 3).map (fun i => (i.zero, i.size, i.bytes)) = some (some (.int .i64 0), 1, 8) := by kernel_rfl
def cellsI (l : List Int) : List Value := l.map fun c => Value.int .i64 c
theorem cellsI_len (l : List Int) : (cellsI l).length = l.length := by simp [cellsI]
theorem cellsI_app (l r : List Int) : cellsI (l ++ r) = cellsI l ++ cellsI r := by simp [cellsI]
theorem cellsI_one (l : List Int) : ∀ u ∈ cellsI l, u.oneCell' = true := by
  intro u hu
  obtain ⟨c, _, rfl⟩ := List.mem_map.1 hu
  rfl
/-- A row of a call's own is told of its numbers, and has room for them. -/
theorem ints_of_owns {w : World} {base n cap : Nat} {a : Option Addr} {xs : List Int} (h : w.ownsRow base 3 1 (.slice a n cap) n (cellsI xs)) (hn : n = xs.length) (hr : ∀ x ∈ xs, -9223372036854775808 ≤ x ∧ x ≤ 9223372036854775807) : IntsAt w a n xs ∧ n ≤ cap ∧ (a = none → cap = 0) := by
  subst hn
  have hlt := h.lt
  rcases h.2 with ⟨h0, h1⟩ | ⟨g, cap2, cur, hv, hb, hg, hc, _⟩
  · simp only [Value.slice.injEq] at h0
    obtain ⟨rfl, h2, rfl⟩ := h0
    exact ⟨⟨rfl, hr, .inl h1⟩, by omega, fun _ => rfl⟩
  · simp only [Value.slice.injEq] at hv
    obtain ⟨rfl, _, rfl⟩ := hv
    refine ⟨⟨rfl, hr, ?_⟩, hc, fun e => by cases e⟩
    by_cases h0 : xs.length = 0
    · exact .inl h0
    refine .inr ⟨g, 0, rfl, (hlt g rfl).2, fun i hi => ?_⟩
    have := h.cells (g := g) rfl i (.int .i64 (xs.getD i 0)) (by simp [cellsI, List.getD, hi])
    rw [add_at] at this
    exact this
theorem ints_cells {w : World} {b off len : Nat} {xs : List Int} (h : IntsAt w (some ⟨b, off, none⟩) len xs) : ∀ i u, (cellsI xs)[i]? = some u → w.cell? ((⟨b, off, none⟩ : Addr).add i) = some u := by
  intro i u hu
  rw [add_at]
  have hi : i < len := by
    have := (List.getElem?_eq_some_iff.1 hu).1
    rw [cellsI_len, h.1] at this
    exact this
  rcases h.2.2 with h0 | ⟨b2, o2, e, _, hc⟩
  · omega
  simp only [Option.some.injEq, Addr.mk.injEq, and_true] at e
  obtain ⟨rfl, rfl⟩ := e
  rw [hc i hi, ← hu]
  have hx := h.1
  simp [cellsI, List.getD, hx, hi]
/-- One number more behind a row of the call's own. -/
theorem append_int {ops : Array Oper} {rest : List Oper} {o : Oper} {a : Act} {Q : Exit → Act → World → Prop} (hgd : o.guard = none) (s x : Operand)
    (ho : o.op = .call { callee := .builtin .append, args := #[s, x], argTypes := #[33, 33] }) (base : Nat) (w : World) (c : Int)
    (v : Value) (n : Nat) (xs : List Int) (hs : a.eval s = v) (hown : w.ownsRow base 3 1 v n (cellsI xs)) (hx : a.eval x = .slice (some ⟨w.heap.size, 0, none⟩) 1 1)
    (hn : n ≤ 4000000) (hbase : base ≤ w.heap.size)
    (h : ∀ v' w', w'.ownsRow base 3 1 v' (n + 1) (cellsI (xs ++ [c])) → (w.alloc (.cells #[.int .i64 c] 3)).grownBy w' v.ownBlock → wpList Try.prog ops Q rest (a.put o.dst v') w') :
    wpList Try.prog ops Q (o :: rest) a (w.alloc (.cells #[.int .i64 c] 3)) := by
  obtain ⟨i0, hi, hz0, hz1, hz2⟩ := info_parts info_int
  refine wpList_append_own _ hgd s x 33 ho base 3 i0 (.int .i64 0) 1 8 Try.underlying33 hi hz0 hz1 hz2 rfl (by decide) v n (cellsI xs) hs (hown.alloc _) ⟨w.heap.size, 0, none⟩ 1 1 [.int .i64 c] hx rfl (cell_one_new _ _ _) (by simp [Value.oneCell']) ?_ ?_ ?_ fun v' w' h1 h2 _ => h v' w' (by rw [cellsI_app]; exact h1) h2
  · unfold maxLen; omega
  · omega
  · simp; omega
/-- A slice of numbers more, behind a row of the call's own. -/
theorem append_ints {ops : Array Oper} {rest : List Oper} {o : Oper} {a : Act} {Q : Exit → Act → World → Prop} (hgd : o.guard = none) (s x : Operand)
    (ho : o.op = .call { callee := .builtin .append, args := #[s, x], argTypes := #[33, 33] }) (base : Nat) (w : World)
    (v : Value) (n : Nat) (xs ys : List Int) (a1 : Option Addr) (l1 c1 : Nat) (hs : a.eval s = v) (hown : w.ownsRow base 3 1 v n (cellsI xs)) (hx : a.eval x = .slice a1 l1 c1)
    (hI : IntsAt w a1 l1 ys) (hnil : a1 = none → c1 = 0)
    (hn : n + l1 ≤ 4000000) (hbase : base ≤ w.heap.size)
    (h : ∀ v' w', w'.ownsRow base 3 1 v' (n + l1) (cellsI (xs ++ ys)) → w.grownBy w' v.ownBlock → wpList Try.prog ops Q rest (a.put o.dst v') w') :
    wpList Try.prog ops Q (o :: rest) a w := by
  obtain ⟨i0, hi, hz0, hz1, hz2⟩ := info_parts info_int
  cases a1 with
  | none =>
    have hl0 : l1 = 0 := by
      rcases hI.2.2 with h0 | ⟨b, o, e, _⟩
      · exact h0
      · cases e
    obtain rfl := hnil rfl
    subst hl0
    have hy : ys = [] := List.eq_nil_of_length_eq_zero hI.1
    subst hy
    refine wpList_append_own_none hgd s x 33 ho base 3 i0 1 Try.underlying33 hi v n (cellsI xs) hs hown hx (h v w ?_ ⟨rfl, rfl, rfl, Nat.le_refl _, fun _ _ _ => rfl⟩)
    rw [List.append_nil]
    exact hown
  | some ad =>
    have hcl : ∀ j u, (cellsI ys)[j]? = some u → w.cell? (ad.add j) = some u := by
      intro j u hu
      rcases hI.2.2 with h0 | ⟨b2, o2, e, _, hc⟩
      · have h1 := hI.1
        rw [h0] at h1
        rw [List.eq_nil_of_length_eq_zero h1] at hu
        cases hu
      · cases e
        exact ints_cells hI j u hu
    refine wpList_append_own _ hgd s x 33 ho base 3 i0 (.int .i64 0) 1 8 Try.underlying33 hi hz0 hz1 hz2 rfl (by decide) v n (cellsI xs) hs hown ad l1 c1 (cellsI ys) hx (by rw [cellsI_len, hI.1]; omega) hcl (cellsI_one ys) ?_ ?_ hbase fun v' w' h1 h2 _ => h v' w' (by rw [cellsI_app]; exact h1) h2
    · unfold maxLen; omega
    · omega

theorem take_same {xs ys : List Int} {k : Nat} (h : xs.take k = ys.take k) (h1 : k < xs.length) (h2 : k < ys.length) (e : xs.getD k 0 = ys.getD k 0) : xs.take (k + 1) = ys.take (k + 1) := by
  rw [take_snoc xs k h1, take_snoc ys k h2, h, e]
theorem same_end {xs ys : List Int} {k : Nat} (h : xs.take k = ys.take k) (h1 : xs.length ≤ k) (h2 : ys.length ≤ k) : xs = ys := by
  rw [List.take_of_length_le h1, List.take_of_length_le h2] at h; exact h
theorem same_not {xs ys : List Int} {k : Nat} (e : ¬ xs.getD k 0 = ys.getD k 0) : ¬ xs = ys := fun h => e (by rw [h])
theorem len_not {xs ys : List Int} {n m : Nat} (h1 : xs.length = n) (h2 : ys.length = m) (e : ¬ n = m) : ¬ xs = ys := fun h => e (by rw [← h1, ← h2, h])
set_option maxHeartbeats 1000000 in
theorem rsame_any (a c : Option Addr) (la ca lc cc : Nat) (xs ys : List Int) (w : World) (h1 : IntsAt w a la xs) (h2 : IntsAt w c lc ys) (hl1 : la ≤ 9223372036854775807) (hl2 : lc ≤ 9223372036854775807) :
    Calls Try.prog 15 #[.slice a la ca, .slice c lc cc] w fun e w' => e = .returned (.bool (decide (xs = ys))) ∧ Below w.heap.size w w' := by
  obtain ⟨R, hR⟩ : ∃ R, decide (xs = ys) = R := ⟨_, rfl⟩
  rw [hR]
  by_cases hl : la = lc
  · subst hl
    have HL1 := Lib.hid h1.1; have HL2 := Lib.hid h2.1; have HR := Lib.hid hR
    have hc1 := h1.2.2
    have hc2 := h2.2.2
    clear h1 h2 hR
    have HC1 := Lib.hid hc1; have HC2 := Lib.hid hc2
    clear hc1 hc2
    go_enter Try.func15, Try.ntmps15
    go_wp2_with fail
    go_loopw [5] (fun i wr => ∃ j : Nat, j ≤ la ∧ i = .int .i64 (j : Int) ∧ Hid (Below w.heap.size w wr) ∧ Hid (xs.take j = ys.take j)) (fun i _ => la - (intOf i).toNat)
    case atStart => exact ⟨0, Nat.zero_le _, rfl, Below.refl _ w, rfl⟩
    case round =>
      obtain ⟨j, hj, rfl, hB, hT⟩ := hrel
      by_cases hlt : j < la
      · obtain ⟨b1, o1, rfl, hb1, hd1⟩ := HC1.out.resolve_left (by omega)
        obtain ⟨b2, o2, rfl, hb2, hd2⟩ := HC2.out.resolve_left (by omega)
        have d1 := (hB.out.cell (p := ⟨b1, o1 + j, none⟩) hb1).trans (hd1 j hlt)
        have d2 := (hB.out.cell (p := ⟨b2, o2 + j, none⟩) hb2).trans (hd2 j hlt)
        have HB := Lib.hid (fun n => below_drewN' hB.out n)
        have hy := fun e => take_same hT.out (k := j) (by rw [HL1.out]; exact hlt) (by rw [HL2.out]; exact hlt) e
        have hn := fun e => same_not (xs := xs) (ys := ys) (k := j) e
        clear hB hd1 hd2 hT HC1 HC2
        generalize xs.getD j 0 = u1 at *
        generalize ys.getD j 0 = u2 at *
        have HY := Lib.hid hy; have HN := Lib.hid hn
        clear hy hn
        by_cases he : u1 = u2
        · have HYE := Lib.hid (HY.out he)
          subst he
          go_wp2_with fail
          go_quiet (fail)
          go_wp2_with fail
          go_roundw
          case rel => exact ⟨j + 1, by omega, by go_num, HB.out _, HYE.out⟩
          case measure => simp [intOf]; omega
        · have hne : (u1 != u2) = true := by simpa using he
          go_wp2_with fail
          go_quiet (fail)
          go_wp2_with fail
          go_ret
          exact ⟨by rw [← HR.out, decide_eq_false (HN.out he)]; rfl, HB.out _⟩
      · have hend := same_end hT.out (by rw [HL1.out]; omega) (by rw [HL2.out]; omega)
        have HE := Lib.hid hend
        clear hend hT
        go_wp2_with fail
        go_ret
        exact ⟨by rw [← HR.out, decide_eq_true HE.out]; rfl, hB.out⟩
  · have hn := len_not h1.1 h2.1 hl
    rw [decide_eq_false hn] at hR
    subst hR
    have hne : ((la : Int) != (lc : Int)) = true := by simp; omega
    clear h1 h2 hn
    go_enter Try.func15, Try.ntmps15
    go_wp2_with fail
    go_ret
    exact ⟨rfl, Below.refl _ w⟩
theorem has_end {xs : List Int} {n : Int} {k : Nat} (h : ¬ n ∈ xs.take k) (h1 : xs.length ≤ k) : ¬ n ∈ xs := by
  rw [List.take_of_length_le h1] at h; exact h
theorem has_step {xs : List Int} {n : Int} {k : Nat} (h : ¬ n ∈ xs.take k) (h1 : k < xs.length) (e : ¬ xs.getD k 0 = n) : ¬ n ∈ xs.take (k + 1) := by
  rw [take_snoc xs k h1]
  simp only [List.mem_append, List.mem_singleton, not_or]
  exact ⟨h, fun g => e g.symm⟩
def seen0 : Array Value := Array.replicate 63 (.bool false)
end Ints
end Go.Proofs.Ytleopanfggmenaa
