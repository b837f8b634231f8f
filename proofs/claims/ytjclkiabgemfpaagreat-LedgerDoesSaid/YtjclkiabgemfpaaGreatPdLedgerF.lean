/-
  The contract of slices.Insert: one item into a row of items of the call's own: at its end, where there is room, into new memory where there is none; what was there stays as it was.
-/
import Derived.Test.YtjclkiabgemfpaaGreatPdLedgerD
import Derived.Lib.Overlaps
import Derived.Lib.AppendZerosOnto
import Derived.Laws.CopyRow
import Derived.Laws.NewBlocks
set_option linter.unusedVariables false
set_option maxRecDepth 4000
namespace Go.Proofs.YtjclkiabgemfpaaGreat.Ledger
open Go.RowKit LinesP HoldsP LedgerP
open StockP (Sk sk0 fitS Fit fitS_iff)
open Go.Proofs.YtjclkiabgemfpaaGreat.Lines (LsAt Sz SzM ret_bool ret_int below_keep below_drewN owns_form owns_cell owns_below)
open Go.Proofs.YtjclkiabgemfpaaGreat.Holds (HsAt SzH hmf add_at)

/-! ### rows, as lists -/
def splice {α : Type} (cur : List α) (o : Nat) (vs : List α) : List α := cur.take o ++ vs ++ cur.drop (o + vs.length)
theorem splice_len {α : Type} {cur vs : List α} {o : Nat} (h : o + vs.length ≤ cur.length) : (splice cur o vs).length = cur.length := by
  unfold splice; simp; omega
theorem splice_get {α : Type} {cur vs : List α} {o : Nat} (h : o + vs.length ≤ cur.length) (j : Nat) : (splice cur o vs)[j]? = if j < o then cur[j]? else if j < o + vs.length then vs[j - o]? else cur[j]? := by
  unfold splice
  rw [List.append_assoc, List.getElem?_append]
  have hl : (cur.take o).length = o := by rw [List.length_take]; omega
  rw [hl]
  by_cases h1 : j < o
  · rw [if_pos h1, if_pos h1, List.getElem?_take, if_pos h1]
  · rw [if_neg h1, if_neg h1, List.getElem?_append]
    by_cases h2 : j < o + vs.length
    · rw [if_pos (by omega), if_pos h2]
    · rw [if_neg (by omega), if_neg h2, List.getElem?_drop]
      congr 1; omega
def insA (i : Nat) (x : Sk) (l : List Sk) : List Sk := l.take i ++ x :: l.drop i
theorem insA_len {i : Nat} {x : Sk} {l : List Sk} (h : i ≤ l.length) : (insA i x l).length = l.length + 1 := by unfold insA; simp; omega
theorem scell_len (x : Sk) : (scell x).length = 6 := rfl
theorem insA_get {i : Nat} {x : Sk} {l : List Sk} (h : i ≤ l.length) (j : Nat) (hj : j < (l.length + 1) * 6) :
    (scells (insA i x l))[j]? = if j < i * 6 then (scells l)[j]? else if j < i * 6 + 6 then (scell x)[j - i * 6]? else (scells (l.drop i))[j - (i + 1) * 6]? := by
  unfold insA
  rw [show scells (l.take i ++ x :: l.drop i) = scells (l.take i) ++ (scell x ++ scells (l.drop i)) by rw [scells_append]; rfl, List.getElem?_append]
  have h1 : (scells (l.take i)).length = i * 6 := by rw [scells_len, List.length_take]; congr 1; omega
  rw [h1]
  by_cases k1 : j < i * 6
  · rw [if_pos k1, if_pos k1]
    have : scells l = scells (l.take i) ++ scells (l.drop i) := by rw [← scells_append, List.take_append_drop]
    rw [this, List.getElem?_append, h1, if_pos k1]
  · rw [if_neg k1, if_neg k1, List.getElem?_append, scell_len]
    by_cases k2 : j < i * 6 + 6
    · rw [if_pos (by omega), if_pos k2]
    · rw [if_neg (by omega), if_neg k2]
      congr 1; omega
theorem ins_room {l : List Sk} {i : Nat} {x : Sk} {cur : List Value} (hi : i ≤ l.length) (h : cur.take (l.length * 6) = scells l) (hl : (l.length + 1) * 6 ≤ cur.length) :
    (splice (splice cur ((i + 1) * 6) (scells (l.drop i))) (i * 6) (scell x)).take ((l.length + 1) * 6) = scells (insA i x l) := by
  have hd : (scells (l.drop i)).length = (l.length - i) * 6 := by rw [scells_len, List.length_drop]
  have e1 : (i + 1) * 6 + (scells (l.drop i)).length ≤ cur.length := by rw [hd]; omega
  have e2 : i * 6 + (scell x).length ≤ (splice cur ((i + 1) * 6) (scells (l.drop i))).length := by rw [splice_len e1, scell_len]; omega
  apply List.ext_getElem?
  intro j
  rw [List.getElem?_take]
  by_cases hj : j < (l.length + 1) * 6
  · rw [if_pos hj, splice_get e2, splice_get e1, insA_get hi j hj, scell_len, hd]
    by_cases k1 : j < i * 6
    · rw [if_pos k1, if_pos (by omega), if_pos k1, ← h, List.getElem?_take, if_pos (by omega)]
    · rw [if_neg k1, if_neg k1]
      by_cases k2 : j < i * 6 + 6
      · rw [if_pos k2, if_pos k2]
      · rw [if_neg k2, if_neg k2, if_neg (by omega), if_pos (by omega)]
  · rw [if_neg hj, List.getElem?_eq_none (by rw [scells_len, insA_len hi]; omega)]
theorem ins_new {l : List Sk} {i : Nat} {x : Sk} {cur : List Value} (hi : i ≤ l.length) (h : cur.take (i * 6) = scells (l.take i)) (hl : (l.length + 1) * 6 ≤ cur.length) :
    (splice (splice cur (i * 6) (scell x)) ((i + 1) * 6) (scells (l.drop i))).take ((l.length + 1) * 6) = scells (insA i x l) := by
  have hd : (scells (l.drop i)).length = (l.length - i) * 6 := by rw [scells_len, List.length_drop]
  have e2 : i * 6 + (scell x).length ≤ cur.length := by rw [scell_len]; omega
  have e1 : (i + 1) * 6 + (scells (l.drop i)).length ≤ (splice cur (i * 6) (scell x)).length := by rw [splice_len e2, hd]; omega
  have h1 : (scells (l.take i)).length = i * 6 := by rw [scells_len, List.length_take]; congr 1; omega
  apply List.ext_getElem?
  intro j
  rw [List.getElem?_take]
  by_cases hj : j < (l.length + 1) * 6
  · rw [if_pos hj, splice_get e1, splice_get e2, insA_get hi j hj, scell_len, hd]
    by_cases k1 : j < i * 6
    · rw [if_pos (by omega), if_pos k1, if_pos k1]
      have : scells l = scells (l.take i) ++ scells (l.drop i) := by rw [← scells_append, List.take_append_drop]
      rw [this, List.getElem?_append, h1, if_pos k1, ← h, List.getElem?_take, if_pos k1]
    · by_cases k2 : j < i * 6 + 6
      · have k3 : j < (i + 1) * 6 := by omega
        simp only [k1, k2, k3, if_true, if_false]
      · have k3 : ¬ j < (i + 1) * 6 := by omega
        have k4 : j < (i + 1) * 6 + (l.length - i) * 6 := by omega
        simp only [k1, k2, k3, k4, if_true, if_false]
  · rw [if_neg hj, List.getElem?_eq_none (by rw [scells_len, insA_len hi]; omega)]
/-! ### copies from row to row -/
theorem run_copy6 (w : World) (ty : TypeId) (g o dLen dCap : Nat) (a : Addr) (sLen sCap : Nat) (cur : Array Value) (t : TypeId) (cs : List Value)
    (hg : w.heap[g]? = some (.cells cur t (0, 0))) (m : Nat) (hm : Nat.min sLen dLen = m) (hn : cs.length = m * 6)
    (hsrc : ∀ j v, cs[j]? = some v → w.cell? (a.add j) = some v) (hfit : o + cs.length ≤ cur.size) (h1 : ∀ v ∈ cs, v.oneCell' = true) :
    (Builtin.copy_ #[22, 22] ty #[.slice (some ⟨g, o, none⟩) dLen dCap, .slice (some a) sLen sCap]).run Tryz.prog w =
      .ok (goInt m) (w.setRow g (splice cur.toList o cs).toArray) := by
  have hl := run_loadCells_list (P := Tryz.prog) w a cs hsrc
  have hst := run_storeCells_at Tryz.prog g o t cs 0 cur w hg (by simpa using hfit) h1
  obtain ⟨i0, hq, hz0, hz1, hz2⟩ := info_parts info_sku
  rw [Nat.add_zero] at hst
  unfold splice
  simp [Builtin.copy_, run_underlying Tryz.underlying22, Builtin.lenOf, Builtin.firstCells, sizeOf, typeInfo, hq, hz1, hm, ← hn, hl, hst]
theorem wpList_copy6 {ops : Array Oper} {rest : List Oper} {o : Oper} {ac : Act} {Q : Exit → Act → World → Prop} {w : World} (hgd : o.guard = none) (d x : Operand)
    (hop : o.op = .call { callee := .builtin .copy, args := #[d, x], argTypes := #[22, 22] }) (v u : Value) (hd : ac.eval d = v) (hx : ac.eval x = u) (v' : Value) (w' : World)
    (hr : ∀ ty, (Builtin.copy_ #[22, 22] ty #[v, u]).run Tryz.prog w = .ok v' w') (h : wpList Tryz.prog ops Q rest (ac.put o.dst v') w') : wpList Tryz.prog ops Q (o :: rest) ac w := by
  refine wpList_plain hgd fun K hK => ?_
  unfold Oper.wp execOp
  simp only [hop, resolve, invoke, builtin, Sem.run_bind, Sem.run_pure, Result.andThen_ok, List.map_toArray, List.map_cons, List.map_nil, hd, hx, hr]
  exact hK _ _ h
theorem step_copy6 {ops : Array Oper} {o : Oper} {ac : Act} {w : World} {K : Act → World → Prop} {Q : Exit → Act → World → Prop} {E : Prop}
    (hg : o.guard = none) (d x : Operand) (hop : o.op = Op.call { callee := Callee.builtin Builtin.copy, args := #[d, x], argTypes := #[22, 22] })
    (v u : Value) (hd : ac.eval d = v) (hx : ac.eval x = u) (v' : Value) (w' : World) (hr : ∀ ty, (Builtin.copy_ #[22, 22] ty #[v, u]).run Tryz.prog w = .ok v' w') (hK : K (ac.put o.dst v') w') :
    if Region.wanted o (yielded ops ac.tmps) = true then Oper.wp Tryz.prog o ac w K Q else E := by
  have hw : Region.wanted o (yielded ops ac.tmps) = true := by simp [Region.wanted, hg]
  rw [if_pos hw]
  unfold Oper.wp
  simp [execOp, hop, resolve, invoke, builtin, hd, hx, hr, Result.andThen]
  exact hK
theorem below_setRow' {B g : Nat} {a w : World} (h : Below B a w) (hg : B ≤ g) (cs : Array Value) : Below B a (w.setRow g cs) :=
  h.trans ⟨rfl, rfl, rfl, by simp, fun k hk => by simp only [World.setRow, Array.getElem?_modify]; rw [if_neg (by omega)]⟩
theorem sk_block {w : World} {g n : Nat} {cur : Array Value} {l : List Sk} (hg : w.heap[g]? = some (.cells cur 41 (0, 0))) (hn : l.length = n) (h : cur.toList.take (n * 6) = scells l) (hl : n ≤ 1000000000) : SkAt w (some ⟨g, 0, none⟩) n l := by
  have hc : ∀ j u, (scells l)[j]? = some u → w.cell? ⟨g, j, none⟩ = some u := by
    intro j u hu
    rw [← h, List.getElem?_take] at hu
    split at hu
    · rw [cell_of_heap hg, ← hu]; simp
    · cases hu
  refine ⟨hn, hl, .inr ⟨g, 0, rfl, heap_lt hg, fun i hi => ?_⟩⟩
  have hi' : i < l.length := by omega
  obtain ⟨h0, h1, h2, h3, h4, h5⟩ := scells_get l i l[i] (List.getElem?_eq_getElem hi')
  have e : l.getD i sk0 = l[i] := by simp [List.getD, hi']
  rw [e, Nat.zero_add]
  exact ⟨hc _ _ h0, hc _ _ h1, hc _ _ h2, hc _ _ h3, hc _ _ h4, hc _ _ h5⟩
theorem below_drew {B : Nat} {w w' : World} (h : Below B w w') : Below B w w'.drew := ⟨h.os, h.tape, h.output, h.size, h.block⟩
theorem cell_six_new (w : World) (x : Sk) (e : TypeId) : ∀ (j : Nat) z, (scell x)[j]? = some z → (w.alloc (.cells #[.string x.nm, .int .i64 x.hand, .int .i64 x.held, .int .i64 x.kept, .int .i64 x.sent, .int .i64 x.inn] e)).cell? ((⟨w.heap.size, 0, none⟩ : Addr).add j) = some z := by
  intro j z hz
  rw [add_at, Nat.zero_add, World.cell?_alloc_new]
  simpa [scell] using hz
theorem scell_one (x : Sk) : ∀ u ∈ scell x, u.oneCell' = true := by
  intro u hu
  simp only [scell, List.mem_cons, List.mem_nil_iff, or_false] at hu
  rcases hu with rfl | rfl | rfl | rfl | rfl | rfl <;> rfl

def InsP (B : Nat) (w : World) (n : Nat) (l : List Sk) (e : Ending) (w' : World) : Prop := ∃ a c, e = .returned (.slice a n c) ∧ SkAt w' a n l ∧ Below B w w'
set_option maxHeartbeats 2000000 in
theorem insert_end (B : Nat) (v : Value) (n : Nat) (l : List Sk) (s : ByteArray) (x0 x1 x2 x3 x4 : Int) (w w0 : World) (hB : B ≤ w0.heap.size) (hn : n ≤ 1000000) (hl : l.length = n) (h : w0.ownsRow B 41 6 v n (scells l))
    (hw : w = w0.alloc (.cells #[.string s, .int .i64 x0, .int .i64 x1, .int .i64 x2, .int .i64 x3, .int .i64 x4] 41)) :
    Calls Tryz.prog 47 #[v, .int .i64 (n : Int), .slice (some ⟨w0.heap.size, 0, none⟩) 1 1] w (InsP B w (n + 1) (insA n ⟨s, x0, x1, x2, x3, x4⟩ l)) := by
  obtain ⟨i0, hi, hz0, hz1, hz2⟩ := info_parts info_sku
  have hf : ∃ a c, v = .slice a n c ∧ n ≤ c := by
    rcases owns_form h with ⟨rfl, h0⟩ | ⟨g, c, rfl, _⟩
    · exact ⟨none, 0, by rw [h0], by omega⟩
    · exact ⟨_, c, rfl, Lines.own_cap h⟩
  obtain ⟨a, c, rfl, hcap⟩ := hf
  have hO := Lib.hid (h.alloc (.cells #[.string s, .int .i64 x0, .int .i64 x1, .int .i64 x2, .int .i64 x3, .int .i64 x4] 41))
  have HC := Lib.hid (cell_six_new w0 ⟨s, x0, x1, x2, x3, x4⟩ 41)
  rw [← hw] at hO HC
  have hBw : B ≤ w.heap.size := by rw [hw, World.size_alloc]; omega
  have hins : insA n ⟨s, x0, x1, x2, x3, x4⟩ l = l ++ [⟨s, x0, x1, x2, x3, x4⟩] := by
    unfold insA; rw [List.take_of_length_le (by omega), List.drop_eq_nil_of_le (by omega)]
  rw [hins]
  obtain ⟨k, hk⟩ : ∃ k, w0.heap.size = k := ⟨_, rfl⟩
  rw [hk] at HC ⊢
  clear h hw hins hk
  rcases Nat.lt_or_ge n c with hlt | hge
  · have hne : ¬ (c = n) := by omega
    go_enter Tryz.func47, Tryz.ntmps47
    go_wp2_with (at_builtin; refine wpList_append_own _ rfl _ _ 22 rfl B 41 i0 _ 6 56 Tryz.underlying22 hi hz0 hz1 hz2 rfl (by decide) _ n (scells l) rfl hO.out ⟨k, 0, none⟩ 1 1 (scell ⟨s, x0, x1, x2, x3, x4⟩) rfl rfl HC.out (scell_one _) ?q1 ?q2 hBw ?_)
    case q1 => unfold maxLen; omega
    case q2 => omega
    intro v' w1 hown hgrow _
    have hsc : scells l ++ scell ⟨s, x0, x1, x2, x3, x4⟩ = scells (l ++ [⟨s, x0, x1, x2, x3, x4⟩]) := by rw [scells_append]; rfl
    rw [hsc] at hown
    have hf : ∃ a c, v' = .slice a (n + 1) c := by
      rcases owns_form hown with ⟨rfl, h0⟩ | ⟨g, c, rfl, _⟩
      · exact ⟨none, 0, by omega⟩
      · exact ⟨_, c, rfl⟩
    obtain ⟨a', c', rfl⟩ := hf
    have HB : Hid (Below B w w1) := (Below.refl B w).grown hgrow hBw (fun k hk => (hO.out.lt k hk).1)
    have HO := Lib.hid (sk_own hown (by simp [hl]) (by omega))
    clear hown hgrow hsc
    go_wp2_with fail
    go_ret
    exact ⟨a', c', rfl, HO.out, HB.out⟩
  · obtain rfl : n = c := by omega
    go_enter Tryz.func47, Tryz.ntmps47
    go_wp2_with (at_builtin; refine wpList_append_own _ rfl _ _ 22 rfl B 41 i0 _ 6 56 Tryz.underlying22 hi hz0 hz1 hz2 rfl (by decide) _ n (scells l) rfl hO.out ⟨k, 0, none⟩ 1 1 (scell ⟨s, x0, x1, x2, x3, x4⟩) rfl rfl HC.out (scell_one _) ?q3 ?q4 hBw ?_)
    case q3 => unfold maxLen; omega
    case q4 => omega
    intro v' w1 hown hgrow _
    have hsc : scells l ++ scell ⟨s, x0, x1, x2, x3, x4⟩ = scells (l ++ [⟨s, x0, x1, x2, x3, x4⟩]) := by rw [scells_append]; rfl
    rw [hsc] at hown
    have hf : ∃ a c, v' = .slice a (n + 1) c := by
      rcases owns_form hown with ⟨rfl, h0⟩ | ⟨g, c, rfl, _⟩
      · exact ⟨none, 0, by omega⟩
      · exact ⟨_, c, rfl⟩
    obtain ⟨a', c', rfl⟩ := hf
    have HB : Hid (Below B w w1) := (Below.refl B w).grown hgrow hBw (fun k hk => (hO.out.lt k hk).1)
    have HO := Lib.hid (sk_own hown (by simp [hl]) (by omega))
    clear hown hgrow hsc
    go_wp2_with fail
    go_ret
    exact ⟨a', c', rfl, HO.out, HB.out⟩
end Go.Proofs.YtjclkiabgemfpaaGreat.Ledger
