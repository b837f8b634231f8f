/-
  The contract of the document's with: a book with an item in its place; what was there stays as it was.
-/
import Derived.Test.YtjclkiabgemfpaaGreatPdLedgerM
set_option linter.unusedVariables false
set_option linter.unusedSimpArgs false
set_option maxRecDepth 4000
namespace Go.Proofs.YtjclkiabgemfpaaGreat.Ledger
open Go.RowKit LinesP HoldsP LedgerP
open StockP (Sk sk0 fitS Fit fitS_iff fromV turnV moveV turn_fit)
open Go.Proofs.YtjclkiabgemfpaaGreat.Lines (LsAt Sz SzM ret_bool ret_int below_keep below_drewN below_append owns_form owns_cell owns_below)
open Go.RowKit
open Go.Proofs.YtjclkiabgemfpaaGreat.Holds (HsAt SzH SzMH hmf eqH)

theorem cell_six (w : World) (u0 u1 u2 u3 u4 u5 : Value) (e : TypeId) : ∀ (j : Nat) z, [u0, u1, u2, u3, u4, u5][j]? = some z → (w.alloc (.cells #[u0, u1, u2, u3, u4, u5] e)).cell? ((⟨w.heap.size, 0, none⟩ : Addr).add j) = some z := by
  intro j z hz
  rw [Addr.add_lit]
  match j with
  | 0 => simp at hz; subst hz; simp
  | 1 => simp at hz; subst hz; simp
  | 2 => simp at hz; subst hz; simp
  | 3 => simp at hz; subst hz; simp
  | 4 => simp at hz; subst hz; simp
  | 5 => simp at hz; subst hz; simp
  | j + 6 => simp at hz
theorem append_sku {ops : Array Oper} {rest : List Oper} {o : Oper} {a : Act} {Q : Exit → Act → World → Prop} (hgd : o.guard = none) (s x : Operand)
    (ho : o.op = .call { callee := .builtin .append, args := #[s, x], argTypes := #[22, 22] }) (base : Nat) (w : World) (k : Nat) (hk : w.heap.size = k) (t : ByteArray) (y0 y1 y2 y3 y4 : Int)
    (v : Value) (n : Nat) (xs : List Sk) (hs : a.eval s = v) (hown : w.ownsRow base 41 6 v n (scells xs)) (hx : a.eval x = .slice (some ⟨k, 0, none⟩) 1 1)
    (hn : n ≤ 4000000) (hbase : base ≤ w.heap.size)
    (h : ∀ v' w', w'.ownsRow base 41 6 v' (n + 1) (scells (xs ++ [⟨t, y0, y1, y2, y3, y4⟩])) → (w.alloc (.cells #[.string t, .int .i64 y0, .int .i64 y1, .int .i64 y2, .int .i64 y3, .int .i64 y4] 41)).grownBy w' v.ownBlock → wpList Tryz.prog ops Q rest (a.put o.dst v') w') :
    wpList Tryz.prog ops Q (o :: rest) a (w.alloc (.cells #[.string t, .int .i64 y0, .int .i64 y1, .int .i64 y2, .int .i64 y3, .int .i64 y4] 41)) := by
  subst hk
  obtain ⟨i0, hi, hz0, hz1, hz2⟩ := info_parts info_sku
  refine wpList_append_own _ hgd s x 22 ho base 41 i0 _ 6 56 Tryz.underlying22 hi hz0 hz1 hz2 rfl (by decide) v n (scells xs) hs (hown.alloc _) ⟨w.heap.size, 0, none⟩ 1 1 [.string t, .int .i64 y0, .int .i64 y1, .int .i64 y2, .int .i64 y3, .int .i64 y4] hx rfl (cell_six _ _ _ _ _ _ _ _) (by simp [Value.oneCell']) ?_ ?_ ?_ fun v' w' h1 h2 _ => h v' w' (by rw [scells_append]; exact h1) h2
  · unfold maxLen; omega
  · omega
  · simp; omega
abbrev AtB (w : World) (b : Nat) (v0 v1 : Value) : Prop := w.heap[b]? = some (.cells #[v0, v1] 25 (0, 0))
theorem cellsB {w : World} {b : Nat} {v0 v1 : Value} (h : AtB w b v0 v1) : w.cell? ⟨b, 0, none⟩ = some v0 ∧ w.cell? ⟨b, 1, none⟩ = some v1 := by
  refine ⟨?_, ?_⟩ <;> (rw [cell_of_heap h]; rfl)
theorem freeB {w : World} {v0 v1 : Value} {b : Nat} (h : AtB w b v0 v1) : w.frozen? ⟨b, 0, none⟩ = false ∧ w.frozen? ⟨b, 1, none⟩ = false := ⟨frozen_of_heap h, frozen_of_heap h⟩
theorem atB_keep {w w' : World} {k : Nat} {v0 v1 : Value} (h : AtB w k v0 v1) (hb : Below w.heap.size w w') : AtB w' k v0 v1 := (hb.block k (heap_lt h)).trans h
theorem heap_put2B {w : World} {k : Nat} {x0 x1 : Value} (h : AtB w k x0 x1) (v0 v1 : Value) : AtB (put2 w k v0 v1) k v0 v1 := by
  have h1 := Lib.heap_setCell_same (i := 0) h v0
  exact Lib.heap_setCell_same (i := 1) h1 v1
theorem results_oneR {fn : Func} {j : Nat} (h : fn.results = #[.cell j 25]) (tmps : Array Value) (w : World) (b : Nat) (x0 x1 : Value) (hp : tmps.getD j undef = .pointer (some ⟨b, 0, none⟩))
    (c : AtB w b x0 x1) : (results fn tmps).run Tryz.prog w = .ok (.agg #[x0, x1]) w := by
  have hp' : tmps[j]?.getD undef = .pointer (some ⟨b, 0, none⟩) := by rw [← hp]; simp
  obtain ⟨c0, c1⟩ := cellsB c
  simp only [results, h]
  go_simp
theorem results_bookR {fn : Func} {j k : Nat} (h : fn.results = #[.cell j 25, .tmp k]) (tmps : Array Value) (w : World) (b : Nat) (x0 x1 : Value) (hp : tmps.getD j undef = .pointer (some ⟨b, 0, none⟩))
    (c : AtB w b x0 x1) : (results fn tmps).run Tryz.prog w = .ok (.tuple #[.agg #[x0, x1], tmps.getD k undef]) w := by
  have hp' : tmps[j]?.getD undef = .pointer (some ⟨b, 0, none⟩) := by rw [← hp]; simp
  obtain ⟨c0, c1⟩ := cellsB c
  simp only [results, h]
  go_simp
theorem sk_offB {w : World} {a : Option Addr} {n : Nat} {l : List Sk} (h : SkAt w a n l) {r : Nat} {p0 p1 : Option Addr} {m0 m1 d0 d1 : Nat} (hr : AtB w r (.slice p0 m0 d0) (.slice p1 m1 d1)) : n = 0 ∨ ∃ b off, a = some ⟨b, off, none⟩ ∧ b ≠ r := by
  rcases h.2.2 with h0 | ⟨b, off, e, hlt, hc⟩
  · exact .inl h0
  · by_cases h0 : n = 0
    · exact .inl h0
    · refine .inr ⟨b, off, e, fun k => ?_⟩
      subst k
      have h1 := (hc 0 (by omega)).1
      rw [cell_of_heap hr] at h1
      rcases (by omega : off + 0 * 6 = 0 ∨ off + 0 * 6 = 1 ∨ 2 ≤ off + 0 * 6) with e1 | e1 | e1
      · rw [e1] at h1; cases h1
      · rw [e1] at h1; cases h1
      · rw [Array.getElem?_eq_none (by simpa using e1)] at h1; cases h1
theorem sk_putR {w : World} {a : Option Addr} {n : Nat} {l : List Sk} (h : SkAt w a n l) {r : Nat} {p0 p1 : Option Addr} {m0 m1 d0 d1 : Nat} (hr : AtB w r (.slice p0 m0 d0) (.slice p1 m1 d1)) (v0 v1 : Value) : SkAt (put2 w r v0 v1) a n l :=
  sk_same h (sk_offB h hr) (by rw [size_put2]; exact Nat.le_refl _) (fun j hj => put2_other v0 v1 hj)
structure WB (w w' : World) (a : Option Addr) (len cap : Nat) (a2 : Option Addr) (len2 cap2 : Nat) (x : Sk) : Prop where
  bk : BB w w' a len cap a2 len2 cap2
  x6 : At6 w' (w.heap.size + 1) (.string x.nm) (.int .i64 x.hand) (.int .i64 x.held) (.int .i64 x.kept) (.int .i64 x.sent) (.int .i64 x.inn)
  res : AtB w' (w.heap.size + 2) (.slice none 0 0) (.slice none 0 0)
theorem WB.keep {w w' w2 : World} {a : Option Addr} {len cap : Nat} {a2 : Option Addr} {len2 cap2 : Nat} {x : Sk} (h : WB w w' a len cap a2 len2 cap2 x) (hb : Below w'.heap.size w' w2) : WB w w2 a len cap a2 len2 cap2 x :=
  ⟨h.bk.keep hb, h.x6.keep hb, atB_keep h.res hb⟩
theorem wb_new (w : World) (a : Option Addr) (len cap : Nat) (a2 : Option Addr) (len2 cap2 : Nat) (xn : ByteArray) (x0 x1 x2 x3 x4 : Int) : WB w (((w.alloc (.cells #[.slice a len cap, .slice a2 len2 cap2] 25)).alloc (.cells #[.string xn, .int .i64 x0, .int .i64 x1, .int .i64 x2, .int .i64 x3, .int .i64 x4] 41)).alloc (.cells #[.slice none 0 0, .slice none 0 0] 25)) a len cap a2 len2 cap2 ⟨xn, x0, x1, x2, x3, x4⟩ := by
  have h1 := (Below.refl _ (w.alloc (.cells #[.slice a len cap, .slice a2 len2 cap2] 25))).alloc (Nat.le_refl _) (.cells #[.string xn, .int .i64 x0, .int .i64 x1, .int .i64 x2, .int .i64 x3, .int .i64 x4] 41)
  have h2 := (Below.refl _ ((w.alloc (.cells #[.slice a len cap, .slice a2 len2 cap2] 25)).alloc (.cells #[.string xn, .int .i64 x0, .int .i64 x1, .int .i64 x2, .int .i64 x3, .int .i64 x4] 41))).alloc (Nat.le_refl _) (.cells #[.slice none 0 0, .slice none 0 0] 25)
  have s1 : (w.alloc (.cells #[.slice a len cap, .slice a2 len2 cap2] 25)).heap.size = w.heap.size + 1 := World.size_alloc _ _
  have s2 : ((w.alloc (.cells #[.slice a len cap, .slice a2 len2 cap2] 25)).alloc (.cells #[.string xn, .int .i64 x0, .int .i64 x1, .int .i64 x2, .int .i64 x3, .int .i64 x4] 41)).heap.size = w.heap.size + 2 := by rw [World.size_alloc, s1]
  refine ⟨((bbr_new w a len cap a2 len2 cap2).keep h1).keep h2, ?_, ?_⟩
  · have := (at6_new (w.alloc (.cells #[.slice a len cap, .slice a2 len2 cap2] 25)) (.string xn) (.int .i64 x0) (.int .i64 x1) (.int .i64 x2) (.int .i64 x3) (.int .i64 x4)).keep h2
    rw [s1] at this
    exact this
  · have : AtB _ _ _ _ := heap_alloc_new ((w.alloc (.cells #[.slice a len cap, .slice a2 len2 cap2] 25)).alloc (.cells #[.string xn, .int .i64 x0, .int .i64 x1, .int .i64 x2, .int .i64 x3, .int .i64 x4] 41)) (.cells #[.slice none 0 0, .slice none 0 0] 25)
    rw [s2] at this
    exact this
theorem geq_of {t xn : ByteArray} {v : Bool} (h : lss t xn = v) : Op.bytesLess t.toList xn.toList = v := by
  rw [ByteArray.toList_eq, ByteArray.toList_eq]; exact h
set_option maxHeartbeats 8000000 in
theorem with_any (a : Option Addr) (len cap : Nat) (a2 : Option Addr) (len2 cap2 : Nat) (b : Bk) (xn : ByteArray) (x0 x1 x2 x3 x4 : Int) (w : World) (h : BkAt w a len a2 len2 cap2 b) (h12 : len ≤ 1000000) :
    Calls Tryz.prog 64 #[.agg #[.slice a len cap, .slice a2 len2 cap2], .agg #[.string xn, .int .i64 x0, .int .i64 x1, .int .i64 x2, .int .i64 x3, .int .i64 x4]] w
      fun e w' => ∃ a' n' c', e = .returned (.agg #[.slice a' n' c', .slice a2 len2 cap2]) ∧ SkAt w' a' n' (withF ⟨xn, x0, x1, x2, x3, x4⟩ false b.sk) ∧ Below w.heap.size w w' := by
  have HN := wb_new w a len cap a2 len2 cap2 xn x0 x1 x2 x3 x4
  have hs3 : (((w.alloc (.cells #[.slice a len cap, .slice a2 len2 cap2] 25)).alloc (.cells #[.string xn, .int .i64 x0, .int .i64 x1, .int .i64 x2, .int .i64 x3, .int .i64 x4] 41)).alloc (.cells #[.slice none 0 0, .slice none 0 0] 25)).heap.size = w.heap.size + 3 := by simp
  obtain ⟨w0, hw0⟩ : ∃ w0, (((w.alloc (.cells #[.slice a len cap, .slice a2 len2 cap2] 25)).alloc (.cells #[.string xn, .int .i64 x0, .int .i64 x1, .int .i64 x2, .int .i64 x3, .int .i64 x4] 41)).alloc (.cells #[.slice none 0 0, .slice none 0 0] 25)) = w0 := ⟨_, rfl⟩
  rw [hw0] at HN hs3
  have HW := Lib.hid hw0; have HW0 := Lib.hid HN; have HS3 := Lib.hid hs3
  have HX := Lib.hid h
  have hc := HN.bk.c0
  clear hw0 HN hs3 h
  go_enter Tryz.func64, Tryz.ntmps64
  go_wp2_with fail
  rw [show (((w.alloc (.cells #[.slice a len cap, .slice a2 len2 cap2] 25)).alloc (.cells #[.string xn, .int .i64 x0, .int .i64 x1, .int .i64 x2, .int .i64 x3, .int .i64 x4] 41)).alloc (.cells #[.slice none 0 0, .slice none 0 0] 25)) = w0 from HW.out]
  go_wp2_with fail
  go_loopw [5, 6, 7] (fun v5 v6 i wr => ∃ (k n : Nat) (done : Bool) (out : List Sk), k ≤ len ∧ n ≤ k + 1 ∧ out.length = n ∧ i = .int .i64 (k : Int) ∧ v6 = .bool done ∧ Hid (wr.ownsRow w0.heap.size 41 6 v5 n (scells out)) ∧ Hid (out ++ withF ⟨xn, x0, x1, x2, x3, x4⟩ done (b.sk.drop k) = withF ⟨xn, x0, x1, x2, x3, x4⟩ false b.sk) ∧ Hid (Below w0.heap.size w0 wr) ∧ (done = false → n ≤ k)) (fun _ _ i _ => len - (intOf i).toNat)
  case atStart => exact ⟨0, 0, false, [], Nat.zero_le _, by omega, rfl, rfl, rfl, World.ownsRow_nil _ _ _ _, Lib.hid rfl, Lib.hid (Below.refl _ _), fun _ => Nat.le_refl _⟩
  case round =>
    obtain ⟨k, n, done, out, hk, hnk, hon, rfl, rfl, hO, hE, hB, hdn⟩ := hrel
    have HWr := Lib.hid (HW0.out.keep hB.out)
    have hcr := HWr.out.bk.c0
    by_cases hlk : k < len
    · have hkx : k < b.sk.length := by rw [HX.out.sk.1]; exact hlk
      obtain ⟨b1, o1, t, y0, y1, y2, y3, y4, rfl, g1, hp, hc1⟩ := HX.out.sk.at hlk
      have HC1 := Lib.hid hc1
      have hwd := with_drop (x := ⟨xn, x0, x1, x2, x3, x4⟩) done hkx hp
      simp only at hwd
      obtain ⟨d0, d1, d2, d3, d4, d5⟩ := hc1 wr HWr.out.bk.bel
      obtain ⟨x60, x61, x62, x63, x64, x65⟩ := cells6 HWr.out.x6
      have hsz := hB.out.size
      clear hc1 g1 hp hkx
      cases done with
      | false =>
        have hnk2 := hdn rfl
        cases hls : lss t xn with
        | false =>
          have hle := geq_of hls
          rw [hls] at hwd
          simp only [if_true, and_self, Bool.not_false, Bool.or_true] at hwd
          go_wp2_with fail
          go_quiet (fail)
          go_wp2_with (at_builtin; refine append_sku rfl (.tmp 28) (.tmp 30) rfl w0.heap.size _ _ rfl xn x0 x1 x2 x3 x4 _ n out rfl hO.out rfl (by omega) hsz ?_)
          intro v' wa hr hg
          have HBa := Lib.hid (show Below w0.heap.size w0 wa from by
            refine below_append (e := 41) (size := 6) (n := n) (xs := scells out) ?_ ?_ ?_ hg
            · first | exact below_drewN (below_drewN hB.out _) _ | exact below_drewN hB.out _ | exact hB.out
            · exact hsz
            · exact hO.out)
          obtain ⟨o2, ho2⟩ : ∃ o2, out ++ [(⟨xn, x0, x1, x2, x3, x4⟩ : Sk)] = o2 := ⟨_, rfl⟩
          have HOa := Lib.hid hr
          rw [ho2] at HOa
          have HWa := Lib.hid (HW0.out.keep HBa.out)
          have hon2 : o2.length = n + 1 := by rw [← ho2]; simp [hon]
          clear hr hg d0 d1 d2 d3 d4 d5 x60 x61 x62 x63 x64 x65 hcr hsz
          obtain ⟨d0, d1, d2, d3, d4, d5⟩ := HC1.out wa HWa.out.bk.bel
          obtain ⟨x60, x61, x62, x63, x64, x65⟩ := cells6 HWa.out.x6
          have hcr := HWa.out.bk.c0
          have hsz := HBa.out.size
          rcases cmp_or t xn with hcmp | hcmp
          · have heq := same_iff.1 hcmp
            rw [if_pos heq] at hwd
            simp only [List.append_nil, List.nil_append] at hwd
            have HEb : Hid ((o2) ++ withF ⟨xn, x0, x1, x2, x3, x4⟩ true (b.sk.drop (k + 1)) = withF ⟨xn, x0, x1, x2, x3, x4⟩ false b.sk) := by
              show (o2) ++ _ = _
              rw [← hE.out, hwd, ← ho2, List.append_assoc]
            go_wp2_with fail
            go_quiet (fail)
            go_wp2_with fail
            go_roundw
            case rel => exact ⟨k + 1, n + 1, true, _, by omega, by omega, hon2, by go_num, rfl, Lib.hid (by exact HOa.out), HEb, Lib.hid (by first | exact below_drewN (below_drewN HBa.out _) _ | exact below_drewN HBa.out _), fun e => by cases e⟩
            case measure => simp [intOf]; omega
          · have hne : ¬ t = xn := fun e => by rw [same_iff.2 e] at hcmp; cases hcmp
            rw [if_neg hne] at hwd
            have HEb : Hid (((o2) ++ [(⟨t, y0, y1, y2, y3, y4⟩ : Sk)]) ++ withF ⟨xn, x0, x1, x2, x3, x4⟩ true (b.sk.drop (k + 1)) = withF ⟨xn, x0, x1, x2, x3, x4⟩ false b.sk) := by
              show ((o2) ++ [(⟨t, y0, y1, y2, y3, y4⟩ : Sk)]) ++ _ = _
              rw [← hE.out, hwd, ← ho2]; simp only [List.append_assoc, List.nil_append]
            go_wp2_with fail
            go_quiet (fail)
            go_wp2_with (at_builtin; refine append_sku rfl (.tmp 41) (.tmp 47) rfl w0.heap.size _ _ rfl t y0 y1 y2 y3 y4 _ (n + 1) (o2) rfl HOa.out rfl (by omega) hsz ?_)
            intro v'' wb hr hg
            have HBb := Lib.hid (show Below w0.heap.size w0 wb from by
              refine below_append (e := 41) (size := 6) (n := n + 1) (xs := scells (o2)) ?_ ?_ ?_ hg
              · first | exact below_drewN (below_drewN HBa.out _) _ | exact below_drewN HBa.out _
              · exact hsz
              · exact HOa.out)
            have HOb := Lib.hid hr
            have hon3 : ((o2) ++ [(⟨t, y0, y1, y2, y3, y4⟩ : Sk)]).length = n + 1 + 1 := by rw [List.length_append, hon2]; rfl
            clear hr hg
            go_wp2_with fail
            go_roundw
            case rel => exact ⟨k + 1, n + 1 + 1, true, _, by omega, by omega, hon3, by go_num, rfl, HOb, HEb, HBb, fun e => by cases e⟩
            case measure => simp [intOf]; omega
        | true =>
          have hle := geq_of hls
          have hne : ¬ t = xn := lt_ne (lss_lt.1 hls)
          have hcmp : (t.toList == xn.toList) = false := by
            rcases cmp_or t xn with hq | hq
            · exact absurd (same_iff.1 hq) hne
            · exact hq
          rw [hls, if_neg hne] at hwd
          simp only [Bool.true_eq_false, and_false, if_false, Bool.not_true, Bool.or_false, List.nil_append] at hwd
          go_wp2_with fail
          go_quiet (fail)
          go_wp2_with fail
          go_quiet (fail)
          go_wp2_with (at_builtin; refine append_sku rfl (.tmp 41) (.tmp 47) rfl w0.heap.size _ _ rfl t y0 y1 y2 y3 y4 _ n out rfl hO.out rfl (by omega) hsz ?_)
          intro v' wb hr hg
          have HBb := Lib.hid (show Below w0.heap.size w0 wb from by
            refine below_append (e := 41) (size := 6) (n := n) (xs := scells out) ?_ ?_ ?_ hg
            · first | exact below_drewN (below_drewN hB.out _) _ | exact below_drewN hB.out _ | exact hB.out
            · exact hsz
            · exact hO.out)
          have HOb := Lib.hid hr
          have HEb : Hid ((out ++ [(⟨t, y0, y1, y2, y3, y4⟩ : Sk)]) ++ withF ⟨xn, x0, x1, x2, x3, x4⟩ false (b.sk.drop (k + 1)) = withF ⟨xn, x0, x1, x2, x3, x4⟩ false b.sk) := by
            show (out ++ [(⟨t, y0, y1, y2, y3, y4⟩ : Sk)]) ++ _ = _
            rw [← hE.out, hwd, List.append_assoc]
          have hon3 : (out ++ [(⟨t, y0, y1, y2, y3, y4⟩ : Sk)]).length = n + 1 := by simp [hon]
          clear hr hg
          go_wp2_with fail
          go_roundw
          case rel => exact ⟨k + 1, n + 1, false, _, by omega, by omega, hon3, by go_num, rfl, HOb, HEb, HBb, fun _ => by omega⟩
          case measure => simp [intOf]; omega
      | true =>
        simp only [Bool.true_eq_false, false_and, if_false, Bool.true_or, List.nil_append] at hwd
        go_wp2_with fail
        go_quiet (fail)
        rcases cmp_or t xn with hcmp | hcmp
        · have heq := same_iff.1 hcmp
          rw [if_pos heq] at hwd
          simp only [List.append_nil, List.nil_append] at hwd
          have HEb : Hid ((out) ++ withF ⟨xn, x0, x1, x2, x3, x4⟩ true (b.sk.drop (k + 1)) = withF ⟨xn, x0, x1, x2, x3, x4⟩ false b.sk) := by
            show (out) ++ _ = _
            rw [← hE.out, hwd]
          go_wp2_with fail
          go_quiet (fail)
          go_wp2_with fail
          go_roundw
          case rel => exact ⟨k + 1, n, true, _, by omega, by omega, hon, by go_num, rfl, Lib.hid (by exact hO.out), HEb, Lib.hid (by first | exact below_drewN (below_drewN hB.out _) _ | exact below_drewN hB.out _), fun e => by cases e⟩
          case measure => simp [intOf]; omega
        · have hne : ¬ t = xn := fun e => by rw [same_iff.2 e] at hcmp; cases hcmp
          rw [if_neg hne] at hwd
          have HEb : Hid (((out) ++ [(⟨t, y0, y1, y2, y3, y4⟩ : Sk)]) ++ withF ⟨xn, x0, x1, x2, x3, x4⟩ true (b.sk.drop (k + 1)) = withF ⟨xn, x0, x1, x2, x3, x4⟩ false b.sk) := by
            show ((out) ++ [(⟨t, y0, y1, y2, y3, y4⟩ : Sk)]) ++ _ = _
            rw [← hE.out, hwd]; simp only [List.append_assoc, List.nil_append]
          go_wp2_with fail
          go_quiet (fail)
          go_wp2_with (at_builtin; refine append_sku rfl (.tmp 41) (.tmp 47) rfl w0.heap.size _ _ rfl t y0 y1 y2 y3 y4 _ (n) (out) rfl hO.out rfl (by omega) hsz ?_)
          intro v'' wb hr hg
          have HBb := Lib.hid (show Below w0.heap.size w0 wb from by
            refine below_append (e := 41) (size := 6) (n := n) (xs := scells (out)) ?_ ?_ ?_ hg
            · first | exact below_drewN (below_drewN hB.out _) _ | exact below_drewN hB.out _
            · exact hsz
            · exact hO.out)
          have HOb := Lib.hid hr
          have hon3 : ((out) ++ [(⟨t, y0, y1, y2, y3, y4⟩ : Sk)]).length = n + 1 := by rw [List.length_append, hon]; rfl
          clear hr hg
          go_wp2_with fail
          go_roundw
          case rel => exact ⟨k + 1, n + 1, true, _, by omega, by omega, hon3, by go_num, rfl, HOb, HEb, HBb, fun e => by cases e⟩
          case measure => simp [intOf]; omega
    · obtain rfl : k = len := by omega
      have hend := with_end (x := ⟨xn, x0, x1, x2, x3, x4⟩) done (l := b.sk) (k := k) (by rw [HX.out.sk.1]; exact hlk)
      have hsz := hB.out.size
      have hE1 := hE.out
      rw [hend] at hE1
      obtain ⟨z0, z1⟩ := cellsB HWr.out.res
      obtain ⟨f0, f1⟩ := freeB HWr.out.res
      have hcr1 := HWr.out.bk.c1
      cases done with
      | true =>
        simp only [if_true, List.append_nil] at hE1
        have hform := owns_form hO.out
        obtain ⟨pa, pc, hv⟩ : ∃ pa pc, u5 = .slice pa n pc := by
          rcases hform with ⟨rfl, rfl⟩ | ⟨g, cp, rfl, _⟩
          · exact ⟨_, _, rfl⟩
          · exact ⟨_, _, rfl⟩
        subst hv
        have HSK := Lib.hid (sk_own hO.out hon (by omega))
        have HE1 := Lib.hid hE1
        clear hE1 hend hform
        go_wp2_with fail
        have HRS := Lib.hid (heap_put2B HWr.out.res (.slice pa n pc) (.slice a2 len2 cap2))
        have HB3 := Lib.hid (below_put2 HWr.out.bk.bel (show w.heap.size ≤ w.heap.size + 2 by omega) (.slice pa n pc) (.slice a2 len2 cap2))
        exact bodyPost_ret (results_oneR (j := 4) rfl _ _ (w.heap.size + 2) _ _ rfl HRS.out) rfl ⟨pa, n, pc, rfl, by rw [← HE1.out]; exact sk_putR HSK.out HWr.out.res _ _, HB3.out⟩
      | false =>
        have hnk2 := hdn rfl
        obtain ⟨x60, x61, x62, x63, x64, x65⟩ := cells6 HWr.out.x6
        simp only [Bool.false_eq_true, if_false] at hE1
        have HE1 := Lib.hid hE1
        clear hE1 hend z0 z1 f0 f1
        go_wp2_with (at_builtin; refine append_sku rfl (.tmp 51) (.tmp 53) rfl w0.heap.size _ _ rfl xn x0 x1 x2 x3 x4 _ n out rfl hO.out rfl (by omega) hsz ?_)
        intro v' wa hr hg
        have HBa := Lib.hid (below_append hB.out hsz hO.out hg)
        have hform := owns_form hr
        obtain ⟨pa, pc, hv⟩ : ∃ pa pc, v' = .slice pa (n + 1) pc := by
          rcases hform with ⟨_, h0⟩ | ⟨g, cp, rfl, _⟩
          · omega
          · exact ⟨_, _, rfl⟩
        subst hv
        have HSK := Lib.hid (sk_own hr (by simp [hon]) (by omega))
        have HWa := Lib.hid (HW0.out.keep HBa.out)
        clear hr hg hform hcr hcr1 x60 x61 x62 x63 x64 x65
        obtain ⟨z0, z1⟩ := cellsB HWa.out.res
        obtain ⟨f0, f1⟩ := freeB HWa.out.res
        have hcr1 := HWa.out.bk.c1
        go_wp2_with fail
        have HRS := Lib.hid (heap_put2B HWa.out.res (.slice pa (n + 1) pc) (.slice a2 len2 cap2))
        have HB3 := Lib.hid (below_put2 HWa.out.bk.bel (show w.heap.size ≤ w.heap.size + 2 by omega) (.slice pa (n + 1) pc) (.slice a2 len2 cap2))
        exact bodyPost_ret (results_oneR (j := 4) rfl _ _ (w.heap.size + 2) _ _ rfl HRS.out) rfl ⟨pa, n + 1, pc, rfl, by rw [← HE1.out]; exact sk_putR HSK.out HWa.out.res _ _, HB3.out⟩
end Go.Proofs.YtjclkiabgemfpaaGreat.Ledger
