/-
  The contract of slices.Insert: one item ahead of others, where there is room, and where there is none; in all, one item into a row of items of the call's own.
-/
import Derived.Test.YtjclkiabgemfpaaGreatPdLedgerF
import Derived.Shelf.RegionOpenPlain
set_option linter.unusedVariables false
set_option maxRecDepth 4000
namespace Go.Proofs.YtjclkiabgemfpaaGreat.Ledger
open Go.RowKit LinesP HoldsP LedgerP
open StockP (Sk sk0 fitS Fit fitS_iff)
open Go.Proofs.YtjclkiabgemfpaaGreat.Lines (LsAt Sz SzM ret_bool ret_int below_keep below_drewN owns_form owns_cell owns_below)
open Go.Proofs.YtjclkiabgemfpaaGreat.Holds (HsAt SzH hmf add_at)

theorem sizeSku (w : World) : (Go.sizeOf 41).run Tryz.prog w = .ok 6 w := by
  obtain ⟨i0, hq, hz0, hz1, hz2⟩ := info_parts info_sku
  simp [sizeOf, typeInfo, hq, hz1]
theorem overlaps_no (w : World) (k g o lb cb : Nat) (cs cur : Array Value) (hk : w.heap[k]? = some (.cells cs 41 (0, 0))) (hg : w.heap[g]? = some (.cells cur 41 (0, 0))) (hne : k ≠ g) (hc : cur.size ≠ 0) :
    (callFunc 86 #[.slice (some ⟨k, 0, none⟩) 1 1, .slice (some ⟨g, o, none⟩) lb cb]).run Tryz.prog w = .ok (.value (.bool false)) w := by
  rw [run_callFunc_extern Tryz.func86 (by kernel_rfl) (by kernel_rfl) (by kernel_rfl) (e := Extern.SlicesOverlaps.overlaps #[22, 22] #[4]) (by kernel_rfl),
    Lib.run_overlaps_apart w 22 4 41 Tryz.underlying22 6 sizeSku ⟨k, 0, none⟩ ⟨g, o, none⟩ 1 1 lb cb hne 41 41 cs.size cur.size (by simp [World.shape?, hk]) (by simp [World.shape?, hg]) hc (frozen_of_heap hk) (frozen_of_heap hk)]
  rfl
theorem drop_at6 {w : World} {g i : Nat} {cur : Array Value} {l : List Sk} {n : Nat} (hg : w.heap[g]? = some (.cells cur 41 (0, 0))) (hn : l.length = n) (h : cur.toList.take (n * 6) = scells l) (hi : i ≤ n) :
    ∀ j v, (scells (l.drop i))[j]? = some v → w.cell? ((⟨g, i * 6, none⟩ : Addr).add j) = some v := by
  intro j v hv
  rw [add_at]
  have e : scells l = scells (l.take i) ++ scells (l.drop i) := by rw [← scells_append, List.take_append_drop]
  have h1 : (scells (l.take i)).length = i * 6 := by rw [scells_len, List.length_take]; congr 1; omega
  have h2 : (scells l)[i * 6 + j]? = some v := by rw [e, List.getElem?_append, h1, if_neg (by omega), Nat.add_sub_cancel_left]; exact hv
  rw [← h, List.getElem?_take] at h2
  split at h2
  · rw [cell_of_heap hg, ← h2]; simp
  · cases h2
set_option maxHeartbeats 4000000 in
theorem insert_room (B g i n c N q : Nat) (l : List Sk) (s : ByteArray) (x0 x1 x2 x3 x4 : Int) (w w0 : World) (hB : B ≤ w0.heap.size) (hn : n ≤ 1000000) (hl : l.length = n) (h : w0.ownsRow B 41 6 (.slice (some ⟨g, 0, none⟩) n c) n (scells l))
    (hi : i < n) (hN : n + 1 = N) (hq : i + 1 = q) (hroom : N ≤ c)
    (hw : w = w0.alloc (.cells #[.string s, .int .i64 x0, .int .i64 x1, .int .i64 x2, .int .i64 x3, .int .i64 x4] 41)) :
    Calls Tryz.prog 47 #[.slice (some ⟨g, 0, none⟩) n c, .int .i64 (i : Int), .slice (some ⟨w0.heap.size, 0, none⟩) 1 1] w (InsP B w N (insA i ⟨s, x0, x1, x2, x3, x4⟩ l)) := by
  have hgB : B ≤ g := (h.lt g rfl).1
  have hgl : g < w0.heap.size := (h.lt g rfl).2
  rcases h.2 with ⟨e, _⟩ | ⟨g', cap', cur, e, _, hg, hnc, hcm, hcs, htk⟩
  · cases e
  cases e
  have hgw : w.heap[g]? = some (.cells cur 41 (0, 0)) := by rw [hw]; exact (heap_alloc_old w0 _ hgl).trans hg
  have hkw : w.heap[w0.heap.size]? = some (.cells #[.string s, .int .i64 x0, .int .i64 x1, .int .i64 x2, .int .i64 x3, .int .i64 x4] 41 (0, 0)) := by rw [hw]; exact heap_alloc_new w0 _
  have hc9 : c ≤ 9223372036854775807 := by unfold maxLen at hcm; omega
  obtain ⟨k, hk⟩ : ∃ k, w0.heap.size = k := ⟨_, rfl⟩
  rw [hk] at hkw hgl ⊢
  have hkg : k ≠ g := by omega
  have hov : ∀ o lb cb, (callFunc 86 #[.slice (some ⟨k, 0, none⟩) 1 1, .slice (some ⟨g, o, none⟩) lb cb]).run Tryz.prog w = .ok (.value (.bool false)) w := fun o lb cb => overlaps_no w k g o lb cb _ cur hkw hgw hkg (by rw [hcs]; omega)
  obtain ⟨cur1, hc1⟩ : ∃ cur1, (splice cur.toList (q * 6) (scells (l.drop i))).toArray = cur1 := ⟨_, rfl⟩
  obtain ⟨cur2, hc2⟩ : ∃ cur2, (splice cur1.toList (i * 6) (scell ⟨s, x0, x1, x2, x3, x4⟩)).toArray = cur2 := ⟨_, rfl⟩
  have hdl : (scells (l.drop i)).length = (n - i) * 6 := by rw [scells_len, List.length_drop, hl]
  have hcp1 : ∀ ty, (Builtin.copy_ #[22, 22] ty #[.slice (some ⟨g, q * 6, none⟩) (N - q) (c - q), .slice (some ⟨g, i * 6, none⟩) (N - i) (c - i)]).run Tryz.prog w.drew =   .ok (goInt ((n - i : Nat) : Int)) (w.drew.setRow g cur1) := fun ty => by
    rw [← hc1]
    exact run_copy6 w.drew ty g (q * 6) (N - q) (c - q) ⟨g, i * 6, none⟩ (N - i) (c - i) cur 41 (scells (l.drop i)) hgw (n - i) (by simp only [Nat.min_def]; split <;> omega) hdl (drop_at6 (w := w.drew) hgw hl htk (Nat.le_of_lt hi)) (by rw [hdl, hcs]; omega) (scells_one _)
  have hl1 : cur1.size = c * 6 := by rw [← hc1, List.size_toArray, splice_len (by rw [hdl, Array.length_toList, hcs]; omega), Array.length_toList, hcs]
  have hg1 : (w.drew.setRow g cur1).heap[g]? = some (.cells cur1 41 (0, 0)) := setRow_heap w.drew g cur cur1 _ _ hgw
  have hk1 : (w.drew.setRow g cur1).heap[k]? = some (.cells #[.string s, .int .i64 x0, .int .i64 x1, .int .i64 x2, .int .i64 x3, .int .i64 x4] 41 (0, 0)) := (setRow_other w.drew g k cur1 hkg).trans hkw
  have hcp2 : ∀ ty, (Builtin.copy_ #[22, 22] ty #[.slice (some ⟨g, i * 6, none⟩) (N - i) (c - i), .slice (some ⟨k, 0, none⟩) 1 1]).run Tryz.prog (w.drew.setRow g cur1) = .ok (goInt 1) ((w.drew.setRow g cur1).setRow g cur2) := fun ty => by
    rw [← hc2]
    exact run_copy6 (w.drew.setRow g cur1) ty g (i * 6) (N - i) (c - i) ⟨k, 0, none⟩ 1 1 cur1 41 (scell ⟨s, x0, x1, x2, x3, x4⟩) hg1 1 (by simp only [Nat.min_def]; split <;> omega) rfl (fun j v hv => by rw [add_at, Nat.zero_add, cell_of_heap hk1]; simpa [scell] using hv) (by rw [scell_len, hl1]; omega) (scell_one _)
  have hfin : cur2.toList.take (N * 6) = scells (insA i ⟨s, x0, x1, x2, x3, x4⟩ l) := by
    have hlen : (l.length + 1) * 6 ≤ cur.toList.length := by rw [show cur.toList.length = cur.size from Array.length_toList, hcs, hl]; omega
    have := ins_room (x := ⟨s, x0, x1, x2, x3, x4⟩) (i := i) (l := l) (cur := cur.toList) (by omega) (by rw [hl]; exact htk) hlen
    rw [hl, hN] at this
    rw [← hc2, ← hc1, ← hq]
    exact this
  have HR : Hid (InsP B w N (insA i ⟨s, x0, x1, x2, x3, x4⟩ l) (.returned (.slice (some ⟨g, 0, none⟩) N c)) ((w.drew.setRow g cur1).setRow g cur2)) :=
    ⟨_, _, rfl, sk_block (setRow_heap _ g cur1 cur2 _ _ hg1) (by rw [insA_len (by omega), hl, hN]) hfin (by omega), below_setRow' (below_setRow' (below_drew (Below.refl B w)) hgB _) hgB _⟩
  have hs1 : IntKind.i64.wrap ((i : Int) + 1) = (q : Int) := by rw [IntKind.wrap_i64]; omega
  have hs2 : IntKind.i64.wrap ((n : Int) + 1) = (N : Int) := by rw [IntKind.wrap_i64]; omega
  have b1 : (0 : Int) ≤ (i : Int) := by omega
  have b2 : (i : Int) ≤ (n : Int) := by omega
  have b3 : ¬ ((i : Int) = (n : Int)) := by omega
  have b4 : ¬ ((N : Int) > (c : Int)) := by omega
  have b4' : ¬ ((c : Int) < (N : Int)) := by omega
  have b5 : (N : Int) ≤ (c : Int) := by omega
  have b6 : (q : Int) ≤ (N : Int) := by omega
  have b7 : (i : Int) ≤ (N : Int) := by omega
  have b8 : ¬ (c = i) := by omega
  have b9 : ¬ (c = q) := by omega
  have b10 : (0 : Int) ≤ (q : Int) := by omega
  have HCP1 := Lib.hid hcp1
  have HCP2 := Lib.hid hcp2
  clear hcp1 hcp2 hg1 hk1 hl1 hfin hdl hc1 hc2 hgw hkw htk hcs hg hw h hgB hN hq hk hnc hcm hB hl hroom
  go_enter Tryz.func47, Tryz.ntmps47
  go_wp2_with (simp only [hov])
  have mixed : Tryz.prog.follows .mixedOrders = true := by kernel_rfl
  go_region_law_o (refine step_copy6 rfl _ _ rfl (.slice (some ⟨g, q * 6, none⟩) (N - q) (c - q)) (.slice (some ⟨g, i * 6, none⟩) (N - i) (c - i)) (by simp [Act.eval, Act.put]) (by simp [Act.eval, Act.put]) _ _ HCP1.out ?_)
  go_wp2_with (refine wpList_copy6 rfl (.tmp 80) (.tmp 81) rfl (.slice (some ⟨g, i * 6, none⟩) (N - i) (c - i)) (.slice (some ⟨k, 0, none⟩) 1 1) rfl rfl _ _ HCP2.out ?_)
  go_ret
  exact HR.out
set_option maxHeartbeats 4000000 in
theorem insert_grow (B g i n N q K : Nat) (l : List Sk) (s : ByteArray) (x0 x1 x2 x3 x4 : Int) (w w0 : World) (hB : B ≤ w0.heap.size) (hn : n ≤ 1000000) (hl : l.length = n) (h : w0.ownsRow B 41 6 (.slice (some ⟨g, 0, none⟩) n n) n (scells l))
    (hi : i < n) (hN : n + 1 = N) (hq : i + 1 = q) (hK : i + K = N)
    (hw : w = w0.alloc (.cells #[.string s, .int .i64 x0, .int .i64 x1, .int .i64 x2, .int .i64 x3, .int .i64 x4] 41)) :
    Calls Tryz.prog 47 #[.slice (some ⟨g, 0, none⟩) n n, .int .i64 (i : Int), .slice (some ⟨w0.heap.size, 0, none⟩) 1 1] w (InsP B w N (insA i ⟨s, x0, x1, x2, x3, x4⟩ l)) := by
  obtain ⟨i0, hi0, hz0, hz1, hz2⟩ := info_parts info_sku
  have hgB : B ≤ g := (h.lt g rfl).1
  have hgl : g < w0.heap.size := (h.lt g rfl).2
  rcases h.2 with ⟨e, _⟩ | ⟨g', cap', cur, e, _, hg, hnc, hcm, hcs, htk⟩
  · cases e
  cases e
  have hgw : w.heap[g]? = some (.cells cur 41 (0, 0)) := by rw [hw]; exact (heap_alloc_old w0 _ hgl).trans hg
  have hkw : w.heap[w0.heap.size]? = some (.cells #[.string s, .int .i64 x0, .int .i64 x1, .int .i64 x2, .int .i64 x3, .int .i64 x4] 41 (0, 0)) := by rw [hw]; exact heap_alloc_new w0 _
  have hBw : B ≤ w.heap.size := by rw [hw, World.size_alloc]; omega
  obtain ⟨k, hk⟩ : ∃ k, w0.heap.size = k := ⟨_, rfl⟩
  rw [hk] at hkw hgl ⊢
  have hkw2 : k < w.heap.size := heap_lt hkw
  have hgw2 : g < w.heap.size := heap_lt hgw
  have hdl : (scells (l.drop i)).length = (n - i) * 6 := by rw [scells_len, List.length_drop, hl]
  have htl : (scells (l.take i)).length = i * 6 := by rw [scells_len, List.length_take, hl]; congr 1; omega
  have hcl : ∀ j u, (scells l)[j]? = some u → w.cell? ⟨g, j, none⟩ = some u := by
    intro j u hu
    rw [← htk, List.getElem?_take] at hu
    split at hu
    · rw [cell_of_heap hgw, ← hu]; simp
    · cases hu
  have hold : (Builtin.firstCells i0.size i (.slice (some ⟨g, 0, none⟩) i n)).run Tryz.prog w.drew = .ok (scells (l.take i)).toArray w.drew := by
    rw [hz1]
    refine run_firstCells_some w.drew 6 i ⟨g, 0, none⟩ i n (scells (l.take i)) htl (fun j u hu => ?_)
    rw [add_at, Nat.zero_add]
    have e : scells l = scells (l.take i) ++ scells (l.drop i) := by rw [← scells_append, List.take_append_drop]
    refine hcl j u ?_
    have hj := (List.getElem?_eq_some_iff.1 hu).1
    rw [e, List.getElem?_append, if_pos hj]; exact hu
  obtain ⟨G, hG⟩ : ∃ G, grownCap w N n 41 = G := ⟨_, rfl⟩
  obtain ⟨ROW, hROW⟩ : ∃ ROW : Array Value, (scells (l.take i)).toArray ++ Builtin.zeroCells (Value.agg #[.string ⟨#[]⟩, .int .i64 0, .int .i64 0, .int .i64 0, .int .i64 0, .int .i64 0]).cells K ++ Builtin.zeroCells (Value.agg #[.string ⟨#[]⟩, .int .i64 0, .int .i64 0, .int .i64 0, .int .i64 0, .int .i64 0]).cells (G - N) = ROW := ⟨_, rfl⟩
  have hrz : ∀ ty, (Builtin.append_ #[22, 3] ty #[.slice (some ⟨g, 0, none⟩) i n, .int .i64 (K : Int)]).run Tryz.prog w = .ok (.slice (some ⟨w.heap.size, 0, none⟩) N G) (w.drew.alloc (.cells ROW 41)) := fun ty => by
    have h := Lib.run_append_grow_zeros w 22 3 ty 41 i0 _ .i64 .i64 Tryz.underlying22 Tryz.underlying3 hi0 hz0 (some ⟨g, 0, none⟩) i n (scells (l.take i)) hold K (by omega) (by rw [hz1]; decide) (by omega) (by omega) (by rw [hz2]; omega) (by rw [hz2, hK]; exact growslice_fits (by omega) (by omega))
    rw [hK, hG, hROW] at h
    exact h
  have hGn : N ≤ G := by rw [← hG]; exact grownCap_ge w _ _ _
  have hG63 : G ≤ 9223372036854775807 := by
    have := grownCap_le_maxLen w N n 41 (by unfold maxLen; omega)
    rw [hG] at this
    unfold maxLen at this
    omega
  have hRl : N * 6 ≤ ROW.size := by
    rw [← hROW]
    simp only [Array.size_append, List.size_toArray, htl]
    have e : (Builtin.zeroCells (Value.agg #[.string ⟨#[]⟩, .int .i64 0, .int .i64 0, .int .i64 0, .int .i64 0, .int .i64 0]).cells K).size = K * 6 := by simp [Builtin.zeroCells, Value.cells]
    rw [e]
    omega
  have hRt : ROW.toList.take (i * 6) = scells (l.take i) := by
    rw [← hROW]
    simp only [Array.toList_append, List.append_assoc]
    rw [List.take_append_of_le_length (by rw [htl]; exact Nat.le_refl _), List.take_of_length_le (by rw [htl]; exact Nat.le_refl _)]
  obtain ⟨hh, hhh⟩ : ∃ hh, w.heap.size = hh := ⟨_, rfl⟩
  rw [hhh] at hrz hkw2 hgw2 hBw
  obtain ⟨cur1, hc1⟩ : ∃ cur1, (splice ROW.toList (i * 6) (scell ⟨s, x0, x1, x2, x3, x4⟩)).toArray = cur1 := ⟨_, rfl⟩
  obtain ⟨cur2, hc2⟩ : ∃ cur2, (splice cur1.toList (q * 6) (scells (l.drop i))).toArray = cur2 := ⟨_, rfl⟩
  have hW0 : ∀ W : World, W.heap = (w.alloc (.cells ROW 41)).heap → W.heap[hh]? = some (.cells ROW 41 (0, 0)) ∧ W.heap[k]? = some (.cells #[.string s, .int .i64 x0, .int .i64 x1, .int .i64 x2, .int .i64 x3, .int .i64 x4] 41 (0, 0)) ∧ W.heap[g]? = some (.cells cur 41 (0, 0)) := by
    intro W hW
    rw [hW, ← hhh]
    exact ⟨heap_alloc_new w _, (heap_alloc_old w _ (by rw [hhh]; exact hkw2)).trans hkw, (heap_alloc_old w _ (by rw [hhh]; exact hgw2)).trans hgw⟩
  have hcp1 : ∀ W : World, W.heap = (w.alloc (.cells ROW 41)).heap → ∀ ty, (Builtin.copy_ #[22, 22] ty #[.slice (some ⟨hh, i * 6, none⟩) (N - i) (G - i), .slice (some ⟨k, 0, none⟩) 1 1]).run Tryz.prog W = .ok (goInt 1) (W.setRow hh cur1) := fun W hW ty => by
    obtain ⟨e1, e2, _⟩ := hW0 W hW
    rw [← hc1]
    exact run_copy6 W ty hh (i * 6) (N - i) (G - i) ⟨k, 0, none⟩ 1 1 ROW 41 (scell ⟨s, x0, x1, x2, x3, x4⟩) e1 1 (by simp only [Nat.min_def]; split <;> omega) rfl (fun j v hv => by rw [add_at, Nat.zero_add, cell_of_heap e2]; simpa [scell] using hv) (by rw [scell_len]; omega) (scell_one _)
  have hl1 : cur1.size = ROW.size := by rw [← hc1, List.size_toArray, splice_len (by rw [scell_len, Array.length_toList]; omega), Array.length_toList]
  have hcp2 : ∀ W : World, (∃ W0 : World, W0.heap = (w.alloc (.cells ROW 41)).heap ∧ W.heap = (W0.setRow hh cur1).heap) → ∀ ty, (Builtin.copy_ #[22, 22] ty #[.slice (some ⟨hh, q * 6, none⟩) (N - q) (G - q), .slice (some ⟨g, i * 6, none⟩) (n - i) (n - i)]).run Tryz.prog W = .ok (goInt ((n - i : Nat) : Int)) (W.setRow hh cur2) := fun W hW ty => by
    obtain ⟨W0, hW1, hW2⟩ := hW
    obtain ⟨e1, e2, e3⟩ := hW0 W0 hW1
    have f1 : W.heap[hh]? = some (.cells cur1 41 (0, 0)) := by rw [hW2]; exact setRow_heap W0 hh ROW cur1 _ _ e1
    have f3 : W.heap[g]? = some (.cells cur 41 (0, 0)) := by rw [hW2]; exact (setRow_other W0 hh g cur1 (by omega)).trans e3
    rw [← hc2]
    exact run_copy6 W ty hh (q * 6) (N - q) (G - q) ⟨g, i * 6, none⟩ (n - i) (n - i) cur1 41 (scells (l.drop i)) f1 (n - i) (by simp only [Nat.min_def]; split <;> omega) hdl (drop_at6 f3 hl htk (Nat.le_of_lt hi)) (by rw [hdl, hl1]; omega) (scells_one _)
  have hfin : cur2.toList.take (N * 6) = scells (insA i ⟨s, x0, x1, x2, x3, x4⟩ l) := by
    have hlen : (l.length + 1) * 6 ≤ ROW.toList.length := by rw [show ROW.toList.length = ROW.size from Array.length_toList, hl]; omega
    have := ins_new (x := ⟨s, x0, x1, x2, x3, x4⟩) (i := i) (l := l) (cur := ROW.toList) (by omega) hRt hlen
    rw [hl, hN] at this
    rw [← hc2, ← hc1, ← hq]
    exact this
  have HR : Hid (∀ W : World, (∃ W1 W0 : World, W0.heap = (w.alloc (.cells ROW 41)).heap ∧ W1.heap = (W0.setRow hh cur1).heap ∧ W = W1.setRow hh cur2 ∧ Below B w W) → InsP B w N (insA i ⟨s, x0, x1, x2, x3, x4⟩ l) (.returned (.slice (some ⟨hh, 0, none⟩) N G)) W) := by
    rintro W ⟨W1, W0, hW0', hW1', rfl, hb⟩
    obtain ⟨e1, _, _⟩ := hW0 W0 hW0'
    have f1 : W1.heap[hh]? = some (.cells cur1 41 (0, 0)) := by rw [hW1']; exact setRow_heap W0 hh ROW cur1 _ _ e1
    exact ⟨_, _, rfl, sk_block (setRow_heap W1 hh cur1 cur2 _ _ f1) (by rw [insA_len (by omega), hl, hN]) hfin (by omega), hb⟩
  have HBN : Hid (Below B w (w.alloc (.cells ROW 41))) := (Below.refl B w).alloc (by rw [hhh]; exact hBw) _
  have hs1 : IntKind.i64.wrap ((i : Int) + 1) = (q : Int) := by rw [IntKind.wrap_i64]; omega
  have hs2 : IntKind.i64.wrap ((n : Int) + 1) = (N : Int) := by rw [IntKind.wrap_i64]; omega
  have hs3 : IntKind.i64.wrap ((N : Int) - (i : Int)) = (K : Int) := by rw [IntKind.wrap_i64]; omega
  have b1 : (0 : Int) ≤ (i : Int) := by omega
  have b2 : (i : Int) ≤ (n : Int) := by omega
  have b3 : ¬ ((i : Int) = (n : Int)) := by omega
  have b4 : (n : Int) < (N : Int) := by omega
  have b6 : (q : Int) ≤ (N : Int) := by omega
  have b7 : (i : Int) ≤ (N : Int) := by omega
  have b8 : ¬ (n = i) := by omega
  have b9 : ¬ (G = q) := by omega
  have b11 : ¬ (G = i) := by omega
  have b10 : (0 : Int) ≤ (q : Int) := by omega
  have HCP1 := Lib.hid hcp1
  have HCP2 := Lib.hid hcp2
  have HRZ := Lib.hid hrz
  have hBh : Hid (B ≤ hh) := hBw
  clear hcp1 hcp2 hl1 hfin hdl hc1 hc2 hgw hkw htk hcs hg hw h hgB hN hq hk hnc hcm hB hl hrz hold hcl htl hRl hRt hW0 hG hROW hGn hhh hK hi0 hz0 hz1 hz2
  go_enter Tryz.func47, Tryz.ntmps47
  go_wp2_with (first
    | (at_builtin; refine Lib.wpList_append_run _ rfl _ _ _ _ rfl _ _ rfl rfl _ _ (HRZ.out _) ?_)
    | (refine wpList_copy6 rfl (.tmp 43) (.tmp 44) rfl (.slice (some ⟨hh, i * 6, none⟩) (N - i) (G - i)) (.slice (some ⟨k, 0, none⟩) 1 1) rfl rfl _ _ (HCP1.out _ rfl) ?_))
  have mixed : Tryz.prog.follows .mixedOrders = true := by kernel_rfl
  go_region_law_o (refine step_copy6 rfl _ _ rfl (.slice (some ⟨hh, q * 6, none⟩) (N - q) (G - q)) (.slice (some ⟨g, i * 6, none⟩) (n - i) (n - i)) (by simp [Act.eval, Act.put]) (by simp [Act.eval, Act.put]) _ _ (HCP2.out _ ⟨_, rfl, rfl⟩) ?_)
  go_wp2_with fail
  go_ret
  exact HR.out _ ⟨((w.alloc (.cells ROW 41)).drew.setRow hh cur1).drew, (w.alloc (.cells ROW 41)).drew, rfl, rfl, rfl, below_setRow' (below_drew (below_setRow' (below_drew HBN.out) hBh.out _)) hBh.out _⟩
theorem insert_any (B : Nat) (v : Value) (n i : Nat) (l : List Sk) (s : ByteArray) (x0 x1 x2 x3 x4 : Int) (w w0 : World) (hB : B ≤ w0.heap.size) (hn : n ≤ 1000000) (hl : l.length = n) (h : w0.ownsRow B 41 6 v n (scells l)) (hi : i ≤ n)
    (hw : w = w0.alloc (.cells #[.string s, .int .i64 x0, .int .i64 x1, .int .i64 x2, .int .i64 x3, .int .i64 x4] 41)) :
    Calls Tryz.prog 47 #[v, .int .i64 (i : Int), .slice (some ⟨w0.heap.size, 0, none⟩) 1 1] w (InsP B w (n + 1) (insA i ⟨s, x0, x1, x2, x3, x4⟩ l)) := by
  by_cases hin : i = n
  · subst hin
    exact insert_end B v i l s x0 x1 x2 x3 x4 w w0 hB hn hl h hw
  · rcases owns_form h with ⟨_, h0⟩ | ⟨g, c, rfl, _⟩
    · omega
    have hcap := Lines.own_cap h
    by_cases hr : n + 1 ≤ c
    · exact insert_room B g i n c (n + 1) (i + 1) l s x0 x1 x2 x3 x4 w w0 hB hn hl h (by omega) rfl rfl hr hw
    · obtain rfl : c = n := by omega
      exact insert_grow B g i c (c + 1) (i + 1) (c + 1 - i) l s x0 x1 x2 x3 x4 w w0 hB hn hl h (by omega) rfl rfl (by omega) hw
end Go.Proofs.YtjclkiabgemfpaaGreat.Ledger
