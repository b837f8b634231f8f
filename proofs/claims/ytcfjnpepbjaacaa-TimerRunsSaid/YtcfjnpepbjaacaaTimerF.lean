/-
  The contract of slices.Insert: one timer into a row of timers of the call's own: at its end, ahead of others, where there is room and where there is none.
-/
import Derived.Test.YtcfjnpepbjaacaaTimerC
import Derived.Lib.Overlaps
import Derived.Lib.AppendZerosOnto
import Derived.Laws.CopyRow
import Derived.Laws.NewBlocks
import Derived.Shelf.RegionOpenPlain
set_option linter.unusedVariables false
set_option linter.unusedSimpArgs false
set_option maxRecDepth 4000
namespace Go.Proofs.Ytcfjnpepbjaacaa.Timer
open Go.RowKit TimerP
open Go.Proofs.Ytcfjnpepbjaacaa.Kt
open Go.Proofs.Ytcfjnpepbjaacaa.Rw (owns_form owns_cell owns_below add_at)

/-! ### rows, as lists -/
def splice {α : Type} (cur : List α) (o : Nat) (vs : List α) : List α := cur.take o ++ vs ++ cur.drop (o + vs.length)
theorem splice_len {α : Type} {cur vs : List α} {o : Nat} (h : o + vs.length ≤ cur.length) : (splice cur o vs).length = cur.length := by
  unfold splice; simp; omega
theorem splice_get {α : Type} {cur vs : List α} {o : Nat} (h : o + vs.length ≤ cur.length) (j : Nat) : (splice cur o vs)[j]? = if j < o then cur[j]? else if j < o + vs.length then vs[j - o]? else cur[j]? := by
  unfold splice
  rw [List.append_assoc, List.getElem?_append]
  have hl : (cur.take o).length = o := by rw [List.length_take]; omega
  rw [hl]
  by_cases h1 : j < o
  · rw [if_pos h1, if_pos h1, List.getElem?_take, if_pos h1]
  · rw [if_neg h1, if_neg h1, List.getElem?_append]
    by_cases h2 : j < o + vs.length
    · rw [if_pos (by omega), if_pos h2]
    · rw [if_neg (by omega), if_neg h2, List.getElem?_drop]
      congr 1; omega
/-- An item put into a list. -/
def insA (i : Nat) (x : Tm) (l : List Tm) : List Tm := l.take i ++ x :: l.drop i
theorem elt_len (l : List Tm) : (Rw.cells tmS l).length = l.length * 3 := Rw.cells_len tmS l
theorem info_elt : (Try.prog.info? 25).map (fun i => (i.zero, i.size, i.bytes)) = some (some (.agg #[.int .i64 0, .int .i64 0, .int .i64 0]), 3, 24) := by kernel_rfl
theorem insA_len {i : Nat} {x : Tm} {l : List Tm} (h : i ≤ l.length) : (insA i x l).length = l.length + 1 := by unfold insA; simp; omega
theorem cell_len (x : Tm) : (tcell x).length = 3 := rfl
theorem insA_get {i : Nat} {x : Tm} {l : List Tm} (h : i ≤ l.length) (j : Nat) (hj : j < (l.length + 1) * 3) :
    (Rw.cells tmS (insA i x l))[j]? = if j < i * 3 then (Rw.cells tmS l)[j]? else if j < i * 3 + 3 then (tcell x)[j - i * 3]? else (Rw.cells tmS (l.drop i))[j - (i + 1) * 3]? := by
  unfold insA
  rw [show Rw.cells tmS (l.take i ++ x :: l.drop i) = Rw.cells tmS (l.take i) ++ (tcell x ++ Rw.cells tmS (l.drop i)) by rw [Rw.cells_append]; rfl, List.getElem?_append]
  have h1 : (Rw.cells tmS (l.take i)).length = i * 3 := by rw [elt_len, List.length_take]; congr 1; omega
  rw [h1]
  by_cases k1 : j < i * 3
  · rw [if_pos k1, if_pos k1]
    have : Rw.cells tmS l = Rw.cells tmS (l.take i) ++ Rw.cells tmS (l.drop i) := by rw [← Rw.cells_append, List.take_append_drop]
    rw [this, List.getElem?_append, h1, if_pos k1]
  · rw [if_neg k1, if_neg k1, List.getElem?_append, cell_len]
    by_cases k2 : j < i * 3 + 3
    · rw [if_pos (by omega), if_pos k2]
    · rw [if_neg (by omega), if_neg k2]
      congr 1; omega
theorem ins_room {l : List Tm} {i : Nat} {x : Tm} {cur : List Value} (hi : i ≤ l.length) (h : cur.take (l.length * 3) = Rw.cells tmS l) (hl : (l.length + 1) * 3 ≤ cur.length) :
    (splice (splice cur ((i + 1) * 3) (Rw.cells tmS (l.drop i))) (i * 3) (tcell x)).take ((l.length + 1) * 3) = Rw.cells tmS (insA i x l) := by
  have hd : (Rw.cells tmS (l.drop i)).length = (l.length - i) * 3 := by rw [elt_len, List.length_drop]
  have e1 : (i + 1) * 3 + (Rw.cells tmS (l.drop i)).length ≤ cur.length := by rw [hd]; omega
  have e2 : i * 3 + (tcell x).length ≤ (splice cur ((i + 1) * 3) (Rw.cells tmS (l.drop i))).length := by rw [splice_len e1, cell_len]; omega
  apply List.ext_getElem?
  intro j
  rw [List.getElem?_take]
  by_cases hj : j < (l.length + 1) * 3
  · rw [if_pos hj, splice_get e2, splice_get e1, insA_get hi j hj, cell_len, hd]
    by_cases k1 : j < i * 3
    · rw [if_pos k1, if_pos (by omega), if_pos k1, ← h, List.getElem?_take, if_pos (by omega)]
    · rw [if_neg k1, if_neg k1]
      by_cases k2 : j < i * 3 + 3
      · rw [if_pos k2, if_pos k2]
      · rw [if_neg k2, if_neg k2, if_neg (by omega), if_pos (by omega)]
  · rw [if_neg hj, List.getElem?_eq_none (by rw [elt_len, insA_len hi]; omega)]
theorem ins_new {l : List Tm} {i : Nat} {x : Tm} {cur : List Value} (hi : i ≤ l.length) (h : cur.take (i * 3) = Rw.cells tmS (l.take i)) (hl : (l.length + 1) * 3 ≤ cur.length) :
    (splice (splice cur (i * 3) (tcell x)) ((i + 1) * 3) (Rw.cells tmS (l.drop i))).take ((l.length + 1) * 3) = Rw.cells tmS (insA i x l) := by
  have hd : (Rw.cells tmS (l.drop i)).length = (l.length - i) * 3 := by rw [elt_len, List.length_drop]
  have e2 : i * 3 + (tcell x).length ≤ cur.length := by rw [cell_len]; omega
  have e1 : (i + 1) * 3 + (Rw.cells tmS (l.drop i)).length ≤ (splice cur (i * 3) (tcell x)).length := by rw [splice_len e2, hd]; omega
  have h1 : (Rw.cells tmS (l.take i)).length = i * 3 := by rw [elt_len, List.length_take]; congr 1; omega
  apply List.ext_getElem?
  intro j
  rw [List.getElem?_take]
  by_cases hj : j < (l.length + 1) * 3
  · rw [if_pos hj, splice_get e1, splice_get e2, insA_get hi j hj, cell_len, hd]
    by_cases k1 : j < i * 3
    · rw [if_pos (by omega), if_pos k1, if_pos k1]
      have : Rw.cells tmS l = Rw.cells tmS (l.take i) ++ Rw.cells tmS (l.drop i) := by rw [← Rw.cells_append, List.take_append_drop]
      rw [this, List.getElem?_append, h1, if_pos k1, ← h, List.getElem?_take, if_pos k1]
    · by_cases k2 : j < i * 3 + 3
      · have k3 : j < (i + 1) * 3 := by omega
        simp only [k1, k2, k3, if_true, if_false]
      · have k3 : ¬ j < (i + 1) * 3 := by omega
        have k4 : j < (i + 1) * 3 + (l.length - i) * 3 := by omega
        simp only [k1, k2, k3, k4, if_true, if_false]
  · rw [if_neg hj, List.getElem?_eq_none (by rw [elt_len, insA_len hi]; omega)]
/-! ### copies from row to row -/
/-- All is read before anything is written: items of six cells. -/
theorem run_copy6 (w : World) (ty : TypeId) (g o dLen dCap : Nat) (a : Addr) (sLen sCap : Nat) (cur : Array Value) (t : TypeId) (cs : List Value)
    (hg : w.heap[g]? = some (.cells cur t (0, 0))) (m : Nat) (hm : Nat.min sLen dLen = m) (hn : cs.length = m * 3)
    (hsrc : ∀ j v, cs[j]? = some v → w.cell? (a.add j) = some v) (hfit : o + cs.length ≤ cur.size) (h1 : ∀ v ∈ cs, v.oneCell' = true) :
    (Builtin.copy_ #[22, 22] ty #[.slice (some ⟨g, o, none⟩) dLen dCap, .slice (some a) sLen sCap]).run Try.prog w =
      .ok (goInt m) (w.setRow g (splice cur.toList o cs).toArray) := by
  have hl := run_loadCells_list (P := Try.prog) w a cs hsrc
  have hst := run_storeCells_at Try.prog g o t cs 0 cur w hg (by simpa using hfit) h1
  obtain ⟨i0, hq, hz0, hz1, hz2⟩ := info_parts info_elt
  rw [Nat.add_zero] at hst
  unfold splice
  simp [Builtin.copy_, run_underlying Try.underlying22, Builtin.lenOf, Builtin.firstCells, sizeOf, typeInfo, hq, hz1, hm, ← hn, hl, hst]
theorem wpList_copy6 {ops : Array Oper} {rest : List Oper} {o : Oper} {ac : Act} {Q : Exit → Act → World → Prop} {w : World} (hgd : o.guard = none) (d x : Operand)
    (hop : o.op = .call { callee := .builtin .copy, args := #[d, x], argTypes := #[22, 22] }) (v u : Value) (hd : ac.eval d = v) (hx : ac.eval x = u) (v' : Value) (w' : World)
    (hr : ∀ ty, (Builtin.copy_ #[22, 22] ty #[v, u]).run Try.prog w = .ok v' w') (h : wpList Try.prog ops Q rest (ac.put o.dst v') w') : wpList Try.prog ops Q (o :: rest) ac w := by
  refine wpList_plain hgd fun K hK => ?_
  unfold Oper.wp execOp
  simp only [hop, resolve, invoke, builtin, Sem.run_bind, Sem.run_pure, Result.andThen_ok, List.map_toArray, List.map_cons, List.map_nil, hd, hx, hr]
  exact hK _ _ h
theorem step_copy6 {ops : Array Oper} {o : Oper} {ac : Act} {w : World} {K : Act → World → Prop} {Q : Exit → Act → World → Prop} {E : Prop}
    (hg : o.guard = none) (d x : Operand) (hop : o.op = Op.call { callee := Callee.builtin Builtin.copy, args := #[d, x], argTypes := #[22, 22] })
    (v u : Value) (hd : ac.eval d = v) (hx : ac.eval x = u) (v' : Value) (w' : World) (hr : ∀ ty, (Builtin.copy_ #[22, 22] ty #[v, u]).run Try.prog w = .ok v' w') (hK : K (ac.put o.dst v') w') :
    if Region.wanted o (yielded ops ac.tmps) = true then Oper.wp Try.prog o ac w K Q else E := by
  have hw : Region.wanted o (yielded ops ac.tmps) = true := by simp [Region.wanted, hg]
  rw [if_pos hw]
  unfold Oper.wp
  simp [execOp, hop, resolve, invoke, builtin, hd, hx, hr, Result.andThen]
  exact hK
theorem below_setRow' {B g : Nat} {a w : World} (h : Below B a w) (hg : B ≤ g) (cs : Array Value) : Below B a (w.setRow g cs) :=
  h.trans ⟨rfl, rfl, rfl, by simp, fun k hk => by simp only [World.setRow, Array.getElem?_modify]; rw [if_neg (by omega)]⟩
/-- A row's block told of its cells: a slice of these elements. -/
theorem sk_block {w : World} {g n : Nat} {cur : Array Value} {l : List Tm} (hg : w.heap[g]? = some (.cells cur 25 (0, 0))) (hn : l.length = n) (h : cur.toList.take (n * 3) = Rw.cells tmS l) (hl : n ≤ 1000000000) : Rw.At tmS w (some ⟨g, 0, none⟩) n l := by
  refine ⟨hn, by omega, .inr ⟨g, 0, rfl, heap_lt hg, fun j u hu => ?_⟩⟩
  have hu : (Rw.cells tmS l)[j]? = some u := hu
  rw [← h, List.getElem?_take] at hu
  split at hu
  · rw [Nat.zero_add, cell_of_heap hg, ← hu]; simp
  · cases hu
theorem cell_six_new (w : World) (x : Tm) (e : TypeId) : ∀ (j : Nat) z, (tcell x)[j]? = some z → (w.alloc (.cells #[.int .i64 x.at_, .int .i64 x.saga, .int .i64 x.kind] e)).cell? ((⟨w.heap.size, 0, none⟩ : Addr).add j) = some z := by
  intro j z hz
  rw [add_at, Nat.zero_add, World.cell?_alloc_new]
  simpa [tcell] using hz
theorem celt_one (x : Tm) : ∀ u ∈ tcell x, u.oneCell' = true := tmS.one x
/-- What Insert makes: a slice of the items with one more. -/
def InsP (B : Nat) (w : World) (n : Nat) (l : List Tm) (e : Ending) (w' : World) : Prop := ∃ a c, e = .returned (.slice a n c) ∧ n ≤ c ∧ Rw.At tmS w' a n l ∧ Below B w w'
set_option maxHeartbeats 2000000 in
/-- At the end: an append. -/
theorem insert_end (B : Nat) (v : Value) (n : Nat) (l : List Tm) (x0 x1 x2 : Int) (w w0 : World) (hB : B ≤ w0.heap.size) (hn : n ≤ 1000000) (hl : l.length = n) (h : w0.ownsRow B 25 3 v n (Rw.cells tmS l))
    (hw : w = w0.alloc (.cells #[.int .i64 x0, .int .i64 x1, .int .i64 x2] 25)) :
    Calls Try.prog 24 #[v, .int .i64 (n : Int), .slice (some ⟨w0.heap.size, 0, none⟩) 1 1] w (InsP B w (n + 1) (insA n ⟨x0, x1, x2⟩ l)) := by
  obtain ⟨i0, hi, hz0, hz1, hz2⟩ := info_parts info_elt
  have hf : ∃ a c, v = .slice a n c ∧ n ≤ c := by
    rcases owns_form h with ⟨rfl, h0⟩ | ⟨g, c, rfl, _⟩
    · exact ⟨none, 0, by rw [h0], by omega⟩
    · exact ⟨_, c, rfl, Rw.owns_room h⟩
  obtain ⟨a, c, rfl, hcap⟩ := hf
  have hO := Lib.hid (h.alloc (.cells #[.int .i64 x0, .int .i64 x1, .int .i64 x2] 25))
  have HC := Lib.hid (cell_six_new w0 ⟨x0, x1, x2⟩ 25)
  rw [← hw] at hO HC
  have hBw : B ≤ w.heap.size := by rw [hw, World.size_alloc]; omega
  have hins : insA n ⟨x0, x1, x2⟩ l = l ++ [⟨x0, x1, x2⟩] := by
    unfold insA; rw [List.take_of_length_le (by omega), List.drop_eq_nil_of_le (by omega)]
  rw [hins]
  obtain ⟨k, hk⟩ : ∃ k, w0.heap.size = k := ⟨_, rfl⟩
  rw [hk] at HC ⊢
  clear h hw hins hk
  rcases Nat.lt_or_ge n c with hlt | hge
  · have hne : ¬ (c = n) := by omega
    go_enter Try.func24, Try.ntmps24
    go_wp2_with (at_builtin; refine wpList_append_own _ rfl _ _ 22 rfl B 25 i0 _ 3 24 Try.underlying22 hi hz0 hz1 hz2 rfl (by decide) _ n (Rw.cells tmS l) rfl hO.out ⟨k, 0, none⟩ 1 1 (tcell ⟨x0, x1, x2⟩) rfl rfl HC.out (celt_one _) ?q1 ?q2 hBw ?_)
    case q1 => unfold maxLen; omega
    case q2 => omega
    intro v' w1 hown hgrow _
    have hsc : Rw.cells tmS l ++ tcell ⟨x0, x1, x2⟩ = Rw.cells tmS (l ++ [⟨x0, x1, x2⟩]) := by rw [Rw.cells_append]; rfl
    rw [hsc] at hown
    have hf : ∃ a c, v' = .slice a (n + 1) c := by
      rcases owns_form hown with ⟨rfl, h0⟩ | ⟨g, c, rfl, _⟩
      · exact ⟨none, 0, by omega⟩
      · exact ⟨_, c, rfl⟩
    obtain ⟨a', c', rfl⟩ := hf
    have HC9 := Lib.hid (Rw.owns_room hown)
    have HB : Hid (Below B w w1) := (Below.refl B w).grown hgrow hBw (fun k hk => (hO.out.lt k hk).1)
    have HO := Lib.hid (Rw.own_at (S := tmS) hown (by simp [hl]) (by omega))
    clear hown hgrow hsc
    go_wp2_with fail
    go_ret
    exact ⟨a', c', rfl, HC9.out, HO.out, HB.out⟩
  · obtain rfl : n = c := by omega
    go_enter Try.func24, Try.ntmps24
    go_wp2_with (at_builtin; refine wpList_append_own _ rfl _ _ 22 rfl B 25 i0 _ 3 24 Try.underlying22 hi hz0 hz1 hz2 rfl (by decide) _ n (Rw.cells tmS l) rfl hO.out ⟨k, 0, none⟩ 1 1 (tcell ⟨x0, x1, x2⟩) rfl rfl HC.out (celt_one _) ?q3 ?q4 hBw ?_)
    case q3 => unfold maxLen; omega
    case q4 => omega
    intro v' w1 hown hgrow _
    have hsc : Rw.cells tmS l ++ tcell ⟨x0, x1, x2⟩ = Rw.cells tmS (l ++ [⟨x0, x1, x2⟩]) := by rw [Rw.cells_append]; rfl
    rw [hsc] at hown
    have hf : ∃ a c, v' = .slice a (n + 1) c := by
      rcases owns_form hown with ⟨rfl, h0⟩ | ⟨g, c, rfl, _⟩
      · exact ⟨none, 0, by omega⟩
      · exact ⟨_, c, rfl⟩
    obtain ⟨a', c', rfl⟩ := hf
    have HC9 := Lib.hid (Rw.owns_room hown)
    have HB : Hid (Below B w w1) := (Below.refl B w).grown hgrow hBw (fun k hk => (hO.out.lt k hk).1)
    have HO := Lib.hid (Rw.own_at (S := tmS) hown (by simp [hl]) (by omega))
    clear hown hgrow hsc
    go_wp2_with fail
    go_ret
    exact ⟨a', c', rfl, HC9.out, HO.out, HB.out⟩
theorem sizeSku (w : World) : (Go.sizeOf 25).run Try.prog w = .ok 3 w := by
  obtain ⟨i0, hq, hz0, hz1, hz2⟩ := info_parts info_elt
  simp [sizeOf, typeInfo, hq, hz1]
theorem overlaps_no (w : World) (k g o lb cb : Nat) (cs cur : Array Value) (hk : w.heap[k]? = some (.cells cs 25 (0, 0))) (hg : w.heap[g]? = some (.cells cur 25 (0, 0))) (hne : k ≠ g) (hc : cur.size ≠ 0) :
    (callFunc 28 #[.slice (some ⟨k, 0, none⟩) 1 1, .slice (some ⟨g, o, none⟩) lb cb]).run Try.prog w = .ok (.value (.bool false)) w := by
  rw [run_callFunc_extern Try.func28 (by kernel_rfl) (by kernel_rfl) (by kernel_rfl) (e := Extern.SlicesOverlaps.overlaps #[22, 22] #[4]) (by kernel_rfl),
    Lib.run_overlaps_apart w 22 4 25 Try.underlying22 3 sizeSku ⟨k, 0, none⟩ ⟨g, o, none⟩ 1 1 lb cb hne 25 25 cs.size cur.size (by simp [World.shape?, hk]) (by simp [World.shape?, hg]) hc (frozen_of_heap hk) (frozen_of_heap hk)]
  rfl
/-- Items of a row, from one on: where they stand. -/
theorem drop_at6 {w : World} {g i : Nat} {cur : Array Value} {l : List Tm} {n : Nat} (hg : w.heap[g]? = some (.cells cur 25 (0, 0))) (hn : l.length = n) (h : cur.toList.take (n * 3) = Rw.cells tmS l) (hi : i ≤ n) :
    ∀ j v, (Rw.cells tmS (l.drop i))[j]? = some v → w.cell? ((⟨g, i * 3, none⟩ : Addr).add j) = some v := by
  intro j v hv
  rw [add_at]
  have e : Rw.cells tmS l = Rw.cells tmS (l.take i) ++ Rw.cells tmS (l.drop i) := by rw [← Rw.cells_append, List.take_append_drop]
  have h1 : (Rw.cells tmS (l.take i)).length = i * 3 := by rw [elt_len, List.length_take]; congr 1; omega
  have h2 : (Rw.cells tmS l)[i * 3 + j]? = some v := by rw [e, List.getElem?_append, h1, if_neg (by omega), Nat.add_sub_cancel_left]; exact hv
  rw [← h, List.getElem?_take] at h2
  split at h2
  · rw [cell_of_heap hg, ← h2]; simp
  · cases h2
set_option maxHeartbeats 4000000 in
/-- There is room: in place. -/
theorem insert_room (B g i n c N q : Nat) (l : List Tm) (x0 x1 x2 : Int) (w w0 : World) (hB : B ≤ w0.heap.size) (hn : n ≤ 1000000) (hl : l.length = n) (h : w0.ownsRow B 25 3 (.slice (some ⟨g, 0, none⟩) n c) n (Rw.cells tmS l))
    (hi : i < n) (hN : n + 1 = N) (hq : i + 1 = q) (hroom : N ≤ c)
    (hw : w = w0.alloc (.cells #[.int .i64 x0, .int .i64 x1, .int .i64 x2] 25)) :
    Calls Try.prog 24 #[.slice (some ⟨g, 0, none⟩) n c, .int .i64 (i : Int), .slice (some ⟨w0.heap.size, 0, none⟩) 1 1] w (InsP B w N (insA i ⟨x0, x1, x2⟩ l)) := by
  have hgB : B ≤ g := (h.lt g rfl).1
  have hgl : g < w0.heap.size := (h.lt g rfl).2
  rcases h.2 with ⟨e, _⟩ | ⟨g', cap', cur, e, _, hg, hnc, hcm, hcs, htk⟩
  · cases e
  cases e
  have hgw : w.heap[g]? = some (.cells cur 25 (0, 0)) := by rw [hw]; exact (heap_alloc_old w0 _ hgl).trans hg
  have hkw : w.heap[w0.heap.size]? = some (.cells #[.int .i64 x0, .int .i64 x1, .int .i64 x2] 25 (0, 0)) := by rw [hw]; exact heap_alloc_new w0 _
  have hc9 : c ≤ 9223372036854775807 := by unfold maxLen at hcm; omega
  obtain ⟨k, hk⟩ : ∃ k, w0.heap.size = k := ⟨_, rfl⟩
  rw [hk] at hkw hgl ⊢
  have hkg : k ≠ g := by omega
  have hov : ∀ o lb cb, (callFunc 28 #[.slice (some ⟨k, 0, none⟩) 1 1, .slice (some ⟨g, o, none⟩) lb cb]).run Try.prog w = .ok (.value (.bool false)) w := fun o lb cb => overlaps_no w k g o lb cb _ cur hkw hgw hkg (by rw [hcs]; omega)
  obtain ⟨cur1, hc1⟩ : ∃ cur1, (splice cur.toList (q * 3) (Rw.cells tmS (l.drop i))).toArray = cur1 := ⟨_, rfl⟩
  obtain ⟨cur2, hc2⟩ : ∃ cur2, (splice cur1.toList (i * 3) (tcell ⟨x0, x1, x2⟩)).toArray = cur2 := ⟨_, rfl⟩
  have hdl : (Rw.cells tmS (l.drop i)).length = (n - i) * 3 := by rw [elt_len, List.length_drop, hl]
  have hcp1 : ∀ ty, (Builtin.copy_ #[22, 22] ty #[.slice (some ⟨g, q * 3, none⟩) (N - q) (c - q), .slice (some ⟨g, i * 3, none⟩) (N - i) (c - i)]).run Try.prog w.drew =   .ok (goInt ((n - i : Nat) : Int)) (w.drew.setRow g cur1) := fun ty => by
    rw [← hc1]
    exact run_copy6 w.drew ty g (q * 3) (N - q) (c - q) ⟨g, i * 3, none⟩ (N - i) (c - i) cur 25 (Rw.cells tmS (l.drop i)) hgw (n - i) (by simp only [Nat.min_def]; split <;> omega) hdl (drop_at6 (w := w.drew) hgw hl htk (Nat.le_of_lt hi)) (by rw [hdl, hcs]; omega) (Rw.cells_one tmS _)
  have hl1 : cur1.size = c * 3 := by rw [← hc1, List.size_toArray, splice_len (by rw [hdl, Array.length_toList, hcs]; omega), Array.length_toList, hcs]
  have hg1 : (w.drew.setRow g cur1).heap[g]? = some (.cells cur1 25 (0, 0)) := setRow_heap w.drew g cur cur1 _ _ hgw
  have hk1 : (w.drew.setRow g cur1).heap[k]? = some (.cells #[.int .i64 x0, .int .i64 x1, .int .i64 x2] 25 (0, 0)) := (setRow_other w.drew g k cur1 hkg).trans hkw
  have hcp2 : ∀ ty, (Builtin.copy_ #[22, 22] ty #[.slice (some ⟨g, i * 3, none⟩) (N - i) (c - i), .slice (some ⟨k, 0, none⟩) 1 1]).run Try.prog (w.drew.setRow g cur1) = .ok (goInt 1) ((w.drew.setRow g cur1).setRow g cur2) := fun ty => by
    rw [← hc2]
    exact run_copy6 (w.drew.setRow g cur1) ty g (i * 3) (N - i) (c - i) ⟨k, 0, none⟩ 1 1 cur1 25 (tcell ⟨x0, x1, x2⟩) hg1 1 (by simp only [Nat.min_def]; split <;> omega) rfl (fun j v hv => by rw [add_at, Nat.zero_add, cell_of_heap hk1]; simpa [tcell] using hv) (by rw [cell_len, hl1]; omega) (celt_one _)
  have hfin : cur2.toList.take (N * 3) = Rw.cells tmS (insA i ⟨x0, x1, x2⟩ l) := by
    have hlen : (l.length + 1) * 3 ≤ cur.toList.length := by rw [show cur.toList.length = cur.size from Array.length_toList, hcs, hl]; omega
    have := ins_room (x := ⟨x0, x1, x2⟩) (i := i) (l := l) (cur := cur.toList) (by omega) (by rw [hl]; exact htk) hlen
    rw [hl, hN] at this
    rw [← hc2, ← hc1, ← hq]
    exact this
  have HR : Hid (InsP B w N (insA i ⟨x0, x1, x2⟩ l) (.returned (.slice (some ⟨g, 0, none⟩) N c)) ((w.drew.setRow g cur1).setRow g cur2)) :=
    ⟨_, _, rfl, hroom, sk_block (setRow_heap _ g cur1 cur2 _ _ hg1) (by rw [insA_len (by omega), hl, hN]) hfin (by omega), below_setRow' (below_setRow' (below_drew (Below.refl B w)) hgB _) hgB _⟩
  have hs1 : IntKind.i64.wrap ((i : Int) + 1) = (q : Int) := by rw [IntKind.wrap_i64]; omega
  have hs2 : IntKind.i64.wrap ((n : Int) + 1) = (N : Int) := by rw [IntKind.wrap_i64]; omega
  have b1 : (0 : Int) ≤ (i : Int) := by omega
  have b2 : (i : Int) ≤ (n : Int) := by omega
  have b3 : ¬ ((i : Int) = (n : Int)) := by omega
  have b4 : ¬ ((N : Int) > (c : Int)) := by omega
  have b4' : ¬ ((c : Int) < (N : Int)) := by omega
  have b5 : (N : Int) ≤ (c : Int) := by omega
  have b6 : (q : Int) ≤ (N : Int) := by omega
  have b7 : (i : Int) ≤ (N : Int) := by omega
  have b8 : ¬ (c = i) := by omega
  have b9 : ¬ (c = q) := by omega
  have b10 : (0 : Int) ≤ (q : Int) := by omega
  have HCP1 := Lib.hid hcp1
  have HCP2 := Lib.hid hcp2
  clear hcp1 hcp2 hg1 hk1 hl1 hfin hdl hc1 hc2 hgw hkw htk hcs hg hw h hgB hN hq hk hnc hcm hB hl hroom
  go_enter Try.func24, Try.ntmps24
  go_wp2_with (simp only [hov])
  have mixed : Try.prog.follows .mixedOrders = true := by kernel_rfl
  go_region_law_o (refine step_copy6 rfl _ _ rfl (.slice (some ⟨g, q * 3, none⟩) (N - q) (c - q)) (.slice (some ⟨g, i * 3, none⟩) (N - i) (c - i)) (by simp [Act.eval, Act.put]) (by simp [Act.eval, Act.put]) _ _ HCP1.out ?_)
  go_wp2_with (refine wpList_copy6 rfl (.tmp 80) (.tmp 81) rfl (.slice (some ⟨g, i * 3, none⟩) (N - i) (c - i)) (.slice (some ⟨k, 0, none⟩) 1 1) rfl rfl _ _ HCP2.out ?_)
  go_ret
  exact HR.out
set_option maxHeartbeats 4000000 in
/-- There is no room: into new memory. -/
theorem insert_grow (B g i n N q K : Nat) (l : List Tm) (x0 x1 x2 : Int) (w w0 : World) (hB : B ≤ w0.heap.size) (hn : n ≤ 1000000) (hl : l.length = n) (h : w0.ownsRow B 25 3 (.slice (some ⟨g, 0, none⟩) n n) n (Rw.cells tmS l))
    (hi : i < n) (hN : n + 1 = N) (hq : i + 1 = q) (hK : i + K = N)
    (hw : w = w0.alloc (.cells #[.int .i64 x0, .int .i64 x1, .int .i64 x2] 25)) :
    Calls Try.prog 24 #[.slice (some ⟨g, 0, none⟩) n n, .int .i64 (i : Int), .slice (some ⟨w0.heap.size, 0, none⟩) 1 1] w (InsP B w N (insA i ⟨x0, x1, x2⟩ l)) := by
  obtain ⟨i0, hi0, hz0, hz1, hz2⟩ := info_parts info_elt
  have hgB : B ≤ g := (h.lt g rfl).1
  have hgl : g < w0.heap.size := (h.lt g rfl).2
  rcases h.2 with ⟨e, _⟩ | ⟨g', cap', cur, e, _, hg, hnc, hcm, hcs, htk⟩
  · cases e
  cases e
  have hgw : w.heap[g]? = some (.cells cur 25 (0, 0)) := by rw [hw]; exact (heap_alloc_old w0 _ hgl).trans hg
  have hkw : w.heap[w0.heap.size]? = some (.cells #[.int .i64 x0, .int .i64 x1, .int .i64 x2] 25 (0, 0)) := by rw [hw]; exact heap_alloc_new w0 _
  have hBw : B ≤ w.heap.size := by rw [hw, World.size_alloc]; omega
  obtain ⟨k, hk⟩ : ∃ k, w0.heap.size = k := ⟨_, rfl⟩
  rw [hk] at hkw hgl ⊢
  have hkw2 : k < w.heap.size := heap_lt hkw
  have hgw2 : g < w.heap.size := heap_lt hgw
  have hdl : (Rw.cells tmS (l.drop i)).length = (n - i) * 3 := by rw [elt_len, List.length_drop, hl]
  have htl : (Rw.cells tmS (l.take i)).length = i * 3 := by rw [elt_len, List.length_take, hl]; congr 1; omega
  have hcl : ∀ j u, (Rw.cells tmS l)[j]? = some u → w.cell? ⟨g, j, none⟩ = some u := by
    intro j u hu
    rw [← htk, List.getElem?_take] at hu
    split at hu
    · rw [cell_of_heap hgw, ← hu]; simp
    · cases hu
  have hold : (Builtin.firstCells i0.size i (.slice (some ⟨g, 0, none⟩) i n)).run Try.prog w.drew = .ok (Rw.cells tmS (l.take i)).toArray w.drew := by
    rw [hz1]
    refine run_firstCells_some w.drew 3 i ⟨g, 0, none⟩ i n (Rw.cells tmS (l.take i)) htl (fun j u hu => ?_)
    rw [add_at, Nat.zero_add]
    have e : Rw.cells tmS l = Rw.cells tmS (l.take i) ++ Rw.cells tmS (l.drop i) := by rw [← Rw.cells_append, List.take_append_drop]
    refine hcl j u ?_
    have hj := (List.getElem?_eq_some_iff.1 hu).1
    rw [e, List.getElem?_append, if_pos hj]; exact hu
  obtain ⟨G, hG⟩ : ∃ G, grownCap w N n 25 = G := ⟨_, rfl⟩
  obtain ⟨ROW, hROW⟩ : ∃ ROW : Array Value, (Rw.cells tmS (l.take i)).toArray ++ Builtin.zeroCells (Value.agg #[.int .i64 0, .int .i64 0, .int .i64 0]).cells K ++ Builtin.zeroCells (Value.agg #[.int .i64 0, .int .i64 0, .int .i64 0]).cells (G - N) = ROW := ⟨_, rfl⟩
  have hrz : ∀ ty, (Builtin.append_ #[22, 3] ty #[.slice (some ⟨g, 0, none⟩) i n, .int .i64 (K : Int)]).run Try.prog w = .ok (.slice (some ⟨w.heap.size, 0, none⟩) N G) (w.drew.alloc (.cells ROW 25)) := fun ty => by
    have h := Lib.run_append_grow_zeros w 22 3 ty 25 i0 _ .i64 .i64 Try.underlying22 Try.underlying3 hi0 hz0 (some ⟨g, 0, none⟩) i n (Rw.cells tmS (l.take i)) hold K (by omega) (by rw [hz1]; decide) (by omega) (by omega) (by rw [hz2]; omega) (by rw [hz2, hK]; exact growslice_fits (by omega) (by omega))
    rw [hK, hG, hROW] at h
    exact h
  have hGn : N ≤ G := by rw [← hG]; exact grownCap_ge w _ _ _
  have hG63 : G ≤ 9223372036854775807 := by
    have := grownCap_le_maxLen w N n 25 (by unfold maxLen; omega)
    rw [hG] at this
    unfold maxLen at this
    omega
  have hRl : N * 3 ≤ ROW.size := by
    rw [← hROW]
    simp only [Array.size_append, List.size_toArray, htl]
    have e : (Builtin.zeroCells (Value.agg #[.int .i64 0, .int .i64 0, .int .i64 0]).cells K).size = K * 3 := by simp [Builtin.zeroCells, Value.cells]
    rw [e]
    omega
  have hRt : ROW.toList.take (i * 3) = Rw.cells tmS (l.take i) := by
    rw [← hROW]
    simp only [Array.toList_append, List.append_assoc]
    rw [List.take_append_of_le_length (by rw [htl]; exact Nat.le_refl _), List.take_of_length_le (by rw [htl]; exact Nat.le_refl _)]
  obtain ⟨hh, hhh⟩ : ∃ hh, w.heap.size = hh := ⟨_, rfl⟩
  rw [hhh] at hrz hkw2 hgw2 hBw
  obtain ⟨cur1, hc1⟩ : ∃ cur1, (splice ROW.toList (i * 3) (tcell ⟨x0, x1, x2⟩)).toArray = cur1 := ⟨_, rfl⟩
  obtain ⟨cur2, hc2⟩ : ∃ cur2, (splice cur1.toList (q * 3) (Rw.cells tmS (l.drop i))).toArray = cur2 := ⟨_, rfl⟩
  have hW0 : ∀ W : World, W.heap = (w.alloc (.cells ROW 25)).heap → W.heap[hh]? = some (.cells ROW 25 (0, 0)) ∧ W.heap[k]? = some (.cells #[.int .i64 x0, .int .i64 x1, .int .i64 x2] 25 (0, 0)) ∧ W.heap[g]? = some (.cells cur 25 (0, 0)) := by
    intro W hW
    rw [hW, ← hhh]
    exact ⟨heap_alloc_new w _, (heap_alloc_old w _ (by rw [hhh]; exact hkw2)).trans hkw, (heap_alloc_old w _ (by rw [hhh]; exact hgw2)).trans hgw⟩
  have hcp1 : ∀ W : World, W.heap = (w.alloc (.cells ROW 25)).heap → ∀ ty, (Builtin.copy_ #[22, 22] ty #[.slice (some ⟨hh, i * 3, none⟩) (N - i) (G - i), .slice (some ⟨k, 0, none⟩) 1 1]).run Try.prog W = .ok (goInt 1) (W.setRow hh cur1) := fun W hW ty => by
    obtain ⟨e1, e2, _⟩ := hW0 W hW
    rw [← hc1]
    exact run_copy6 W ty hh (i * 3) (N - i) (G - i) ⟨k, 0, none⟩ 1 1 ROW 25 (tcell ⟨x0, x1, x2⟩) e1 1 (by simp only [Nat.min_def]; split <;> omega) rfl (fun j v hv => by rw [add_at, Nat.zero_add, cell_of_heap e2]; simpa [tcell] using hv) (by rw [cell_len]; omega) (celt_one _)
  have hl1 : cur1.size = ROW.size := by rw [← hc1, List.size_toArray, splice_len (by rw [cell_len, Array.length_toList]; omega), Array.length_toList]
  have hcp2 : ∀ W : World, (∃ W0 : World, W0.heap = (w.alloc (.cells ROW 25)).heap ∧ W.heap = (W0.setRow hh cur1).heap) → ∀ ty, (Builtin.copy_ #[22, 22] ty #[.slice (some ⟨hh, q * 3, none⟩) (N - q) (G - q), .slice (some ⟨g, i * 3, none⟩) (n - i) (n - i)]).run Try.prog W = .ok (goInt ((n - i : Nat) : Int)) (W.setRow hh cur2) := fun W hW ty => by
    obtain ⟨W0, hW1, hW2⟩ := hW
    obtain ⟨e1, e2, e3⟩ := hW0 W0 hW1
    have f1 : W.heap[hh]? = some (.cells cur1 25 (0, 0)) := by rw [hW2]; exact setRow_heap W0 hh ROW cur1 _ _ e1
    have f3 : W.heap[g]? = some (.cells cur 25 (0, 0)) := by rw [hW2]; exact (setRow_other W0 hh g cur1 (by omega)).trans e3
    rw [← hc2]
    exact run_copy6 W ty hh (q * 3) (N - q) (G - q) ⟨g, i * 3, none⟩ (n - i) (n - i) cur1 25 (Rw.cells tmS (l.drop i)) f1 (n - i) (by simp only [Nat.min_def]; split <;> omega) hdl (drop_at6 f3 hl htk (Nat.le_of_lt hi)) (by rw [hdl, hl1]; omega) (Rw.cells_one tmS _)
  have hfin : cur2.toList.take (N * 3) = Rw.cells tmS (insA i ⟨x0, x1, x2⟩ l) := by
    have hlen : (l.length + 1) * 3 ≤ ROW.toList.length := by rw [show ROW.toList.length = ROW.size from Array.length_toList, hl]; omega
    have := ins_new (x := ⟨x0, x1, x2⟩) (i := i) (l := l) (cur := ROW.toList) (by omega) hRt hlen
    rw [hl, hN] at this
    rw [← hc2, ← hc1, ← hq]
    exact this
  have HR : Hid (∀ W : World, (∃ W1 W0 : World, W0.heap = (w.alloc (.cells ROW 25)).heap ∧ W1.heap = (W0.setRow hh cur1).heap ∧ W = W1.setRow hh cur2 ∧ Below B w W) → InsP B w N (insA i ⟨x0, x1, x2⟩ l) (.returned (.slice (some ⟨hh, 0, none⟩) N G)) W) := by
    rintro W ⟨W1, W0, hW0', hW1', rfl, hb⟩
    obtain ⟨e1, _, _⟩ := hW0 W0 hW0'
    have f1 : W1.heap[hh]? = some (.cells cur1 25 (0, 0)) := by rw [hW1']; exact setRow_heap W0 hh ROW cur1 _ _ e1
    exact ⟨_, _, rfl, hGn, sk_block (setRow_heap W1 hh cur1 cur2 _ _ f1) (by rw [insA_len (by omega), hl, hN]) hfin (by omega), hb⟩
  have HBN : Hid (Below B w (w.alloc (.cells ROW 25))) := (Below.refl B w).alloc (by rw [hhh]; exact hBw) _
  have hs1 : IntKind.i64.wrap ((i : Int) + 1) = (q : Int) := by rw [IntKind.wrap_i64]; omega
  have hs2 : IntKind.i64.wrap ((n : Int) + 1) = (N : Int) := by rw [IntKind.wrap_i64]; omega
  have hs3 : IntKind.i64.wrap ((N : Int) - (i : Int)) = (K : Int) := by rw [IntKind.wrap_i64]; omega
  have b1 : (0 : Int) ≤ (i : Int) := by omega
  have b2 : (i : Int) ≤ (n : Int) := by omega
  have b3 : ¬ ((i : Int) = (n : Int)) := by omega
  have b4 : (n : Int) < (N : Int) := by omega
  have b6 : (q : Int) ≤ (N : Int) := by omega
  have b7 : (i : Int) ≤ (N : Int) := by omega
  have b8 : ¬ (n = i) := by omega
  have b9 : ¬ (G = q) := by omega
  have b11 : ¬ (G = i) := by omega
  have b10 : (0 : Int) ≤ (q : Int) := by omega
  have HCP1 := Lib.hid hcp1
  have HCP2 := Lib.hid hcp2
  have HRZ := Lib.hid hrz
  have hBh : Hid (B ≤ hh) := hBw
  clear hcp1 hcp2 hl1 hfin hdl hc1 hc2 hgw hkw htk hcs hg hw h hgB hN hq hk hnc hcm hB hl hrz hold hcl htl hRl hRt hW0 hG hROW hGn hhh hK hi0 hz0 hz1 hz2
  go_enter Try.func24, Try.ntmps24
  go_wp2_with (first
    | (at_builtin; refine Lib.wpList_append_run _ rfl _ _ _ _ rfl _ _ rfl rfl _ _ (HRZ.out _) ?_)
    | (refine wpList_copy6 rfl (.tmp 43) (.tmp 44) rfl (.slice (some ⟨hh, i * 3, none⟩) (N - i) (G - i)) (.slice (some ⟨k, 0, none⟩) 1 1) rfl rfl _ _ (HCP1.out _ rfl) ?_))
  have mixed : Try.prog.follows .mixedOrders = true := by kernel_rfl
  go_region_law_o (refine step_copy6 rfl _ _ rfl (.slice (some ⟨hh, q * 3, none⟩) (N - q) (G - q)) (.slice (some ⟨g, i * 3, none⟩) (n - i) (n - i)) (by simp [Act.eval, Act.put]) (by simp [Act.eval, Act.put]) _ _ (HCP2.out _ ⟨_, rfl, rfl⟩) ?_)
  go_wp2_with fail
  go_ret
  exact HR.out _ ⟨((w.alloc (.cells ROW 25)).drew.setRow hh cur1).drew, (w.alloc (.cells ROW 25)).drew, rfl, rfl, rfl, below_setRow' (below_drew (below_setRow' (below_drew HBN.out) hBh.out _)) hBh.out _⟩
/-- One item into a row of the call's own. -/
theorem insert_any (B : Nat) (v : Value) (n i : Nat) (l : List Tm) (x0 x1 x2 : Int) (w w0 : World) (hB : B ≤ w0.heap.size) (hn : n ≤ 1000000) (hl : l.length = n) (h : w0.ownsRow B 25 3 v n (Rw.cells tmS l)) (hi : i ≤ n)
    (hw : w = w0.alloc (.cells #[.int .i64 x0, .int .i64 x1, .int .i64 x2] 25)) :
    Calls Try.prog 24 #[v, .int .i64 (i : Int), .slice (some ⟨w0.heap.size, 0, none⟩) 1 1] w (InsP B w (n + 1) (insA i ⟨x0, x1, x2⟩ l)) := by
  by_cases hin : i = n
  · subst hin
    exact insert_end B v i l x0 x1 x2 w w0 hB hn hl h hw
  · rcases owns_form h with ⟨_, h0⟩ | ⟨g, c, rfl, _⟩
    · omega
    have hcap := Rw.owns_room h
    by_cases hr : n + 1 ≤ c
    · exact insert_room B g i n c (n + 1) (i + 1) l x0 x1 x2 w w0 hB hn hl h (by omega) rfl rfl hr hw
    · obtain rfl : c = n := by omega
      exact insert_grow B g i c (c + 1) (i + 1) (c + 1 - i) l x0 x1 x2 w w0 hB hn hl h (by omega) rfl rfl (by omega) hw
end Go.Proofs.Ytcfjnpepbjaacaa.Timer
