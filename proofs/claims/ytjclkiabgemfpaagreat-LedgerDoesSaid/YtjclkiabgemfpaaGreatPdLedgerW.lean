/-
  What stands while a call of the document's ledger runs: its book, boxed, and its result's cells; the document's Restock and Adjust: any books; what was there stays as it was.
-/
import Derived.Test.YtjclkiabgemfpaaGreatPdLedgerV
set_option linter.unusedVariables false
set_option linter.unusedSimpArgs false
set_option maxRecDepth 4000
namespace Go.Proofs.YtjclkiabgemfpaaGreat.Ledger
open Go.RowKit LinesP HoldsP LedgerP
open StockP (Sk sk0 fitS Fit fitS_iff fromV turnV moveV turn_fit restockV adjustV nmS restock_cases adjust_cases)
open Go.Proofs.YtjclkiabgemfpaaGreat.Lines (LsAt Sz SzM ret_bool ret_int below_keep below_drewN below_append owns_form owns_cell owns_below)
open Go.Proofs.YtjclkiabgemfpaaGreat.Holds (HsAt SzH SzMH hmf eqH MadeP)

structure FR (h : Nat) (w w' : World) (v0 v1 : Value) (r : Nat) (r0 r1 : Value) : Prop where
  bel : Below w.heap.size w w'
  box : AtB w' h v0 v1
  res : AtB w' r r0 r1
theorem FR.keep {h r : Nat} {w w' w2 : World} {v0 v1 r0 r1 : Value} (k : FR h w w' v0 v1 r r0 r1) (hb : Below w'.heap.size w' w2) : FR h w w2 v0 v1 r r0 r1 :=
  ⟨k.bel.trans (hb.mono k.bel.size), (hb.block h (heap_lt k.box)).trans k.box, (hb.block r (heap_lt k.res)).trans k.res⟩
theorem fr_new (w : World) (v0 v1 r0 r1 : Value) : FR w.heap.size w ((w.alloc (.cells #[v0, v1] 25)).alloc (.cells #[r0, r1] 25)) v0 v1 (w.heap.size + 1) r0 r1 := by
  have h := heap_alloc_new (w.alloc (.cells #[v0, v1] 25)) (.cells #[r0, r1] 25)
  rw [World.size_alloc] at h
  exact ⟨((Below.refl _ w).alloc (Nat.le_refl _) _).alloc (by rw [World.size_alloc]; omega) _, (heap_alloc_old _ _ (by rw [World.size_alloc]; omega)).trans (heap_alloc_new w _), h⟩
theorem ls_offB {w : World} {a : Option Addr} {n : Nat} {l : List Ln} (h : LsAt w a n l) {r : Nat} {p0 p1 : Option Addr} {m0 m1 d0 d1 : Nat} (hr : AtB w r (.slice p0 m0 d0) (.slice p1 m1 d1)) : ∀ ad, a = some ad → 0 < n → ad.block ≠ r := by
  intro ad e h0 k
  rcases h.2.2 with h1 | ⟨b, off, e2, hlt, hc⟩
  · omega
  · rw [e] at e2; cases e2
    simp only at k
    subst k
    have h1 := (hc 0 h0).1
    rw [cell_of_heap hr] at h1
    rcases Nat.lt_or_ge (off + 0 * 2) 2 with k | k
    · rcases (by omega : off + 0 * 2 = 0 ∨ off + 0 * 2 = 1) with k | k <;> (rw [k] at h1; cases h1)
    · rw [Array.getElem?_eq_none (by simpa using k)] at h1; cases h1
theorem hs_sameB {w w' : World} {a : Option Addr} {n : Nat} {l : List Hd} (h : HsAt w a n l) {r : Nat} {p0 p1 : Option Addr} {m0 m1 d0 d1 : Nat} (hr : AtB w r (.slice p0 m0 d0) (.slice p1 m1 d1)) (hs : w.heap.size ≤ w'.heap.size) (hb : ∀ j, j ≠ r → w'.heap[j]? = w.heap[j]?) : HsAt w' a n l := by
  obtain ⟨zs, e, k1, k2, k3, k4⟩ := h
  refine ⟨zs, e, k1, k2, fun z hz => ?_, ?_⟩
  · refine Holds.ls_keepB (k3 z hz) hs fun j ad e hj h0 => hb j ?_
    have := ls_offB (k3 z hz) hr ad e h0
    rw [← hj]; exact this
  · rcases k4 with h0 | ⟨b, off, e2, hlt, hc⟩
    · exact .inl h0
    · by_cases h0 : n = 0
      · exact .inl h0
      · have hne : b ≠ r := by
          intro k
          subst k
          have h1 := (hc 0 (by omega)).1
          rw [cell_of_heap hr] at h1
          rcases Nat.lt_or_ge (off + 0 * 3) 2 with k | k
          · rcases (by omega : off + 0 * 3 = 0 ∨ off + 0 * 3 = 1) with k | k <;> (rw [k] at h1; cases h1)
          · rw [Array.getElem?_eq_none (by simpa using k)] at h1; cases h1
        refine .inr ⟨b, off, e2, by omega, fun i hi => ?_⟩
        have := hc i hi
        simp only [World.cell?, hb b hne] at this ⊢
        exact this
theorem bk_sameB {w : World} {a : Option Addr} {n : Nat} {a2 : Option Addr} {n2 c2 : Nat} {b : Bk} (h : BkAt w a n a2 n2 c2 b) {r : Nat} {p0 p1 : Option Addr} {m0 m1 d0 d1 : Nat} (hr : AtB w r (.slice p0 m0 d0) (.slice p1 m1 d1)) (v0 v1 : Value) : BkAt (put2 w r v0 v1) a n a2 n2 c2 b :=
  ⟨sk_putR h.sk hr v0 v1, hs_sameB h.hd hr (by rw [size_put2]; exact Nat.le_refl _) (fun j hj => put2_other v0 v1 hj), h.room⟩
theorem with_bk (a : Option Addr) (len cap : Nat) (a2 : Option Addr) (len2 cap2 : Nat) (b : Bk) (xn : ByteArray) (x0 x1 x2 x3 x4 : Int) (w : World) (h : BkAt w a len a2 len2 cap2 b) (h12 : len ≤ 1000000) (hu : UpS b.sk) :
    Calls Tryz.prog 64 #[.agg #[.slice a len cap, .slice a2 len2 cap2], .agg #[.string xn, .int .i64 x0, .int .i64 x1, .int .i64 x2, .int .i64 x3, .int .i64 x4]] w
      fun e w' => ∃ a' n' c', e = .returned (.agg #[.slice a' n' c', .slice a2 len2 cap2]) ∧ BkAt w' a' n' a2 len2 cap2 ⟨insS ⟨xn, x0, x1, x2, x3, x4⟩ b.sk, b.hd⟩ ∧ Below w.heap.size w w' := by
  refine (with_any a len cap a2 len2 cap2 b xn x0 x1 x2 x3 x4 w h h12).mono ?_
  rintro e w' ⟨a', n', c', rfl, hs, hb⟩
  rw [with_eq hu] at hs
  exact ⟨a', n', c', rfl, ⟨hs, h.hd.keep hb, h.room⟩, hb⟩
set_option maxHeartbeats 8000000 in
theorem radjustb_any (a : Option Addr) (len cap : Nat) (a2 : Option Addr) (len2 cap2 : Nat) (b : Bk) (s : ByteArray) (n : Int) (w : World) (h : BkAt w a len a2 len2 cap2 b) (hz : SzB b) :
    Calls Tryz.prog 28 #[.agg #[.slice a len cap, .slice a2 len2 cap2], .string s, .int .i64 n] w (BookR w (adjustB b s n)) := by
  have HF := Lib.hid (fr_new w (.slice a len cap) (.slice a2 len2 cap2) (.slice none 0 0) (.slice none 0 0))
  have HX := Lib.hid h
  have HZ := Lib.hid hz
  have hlen := h.sk.1
  obtain ⟨r, hr⟩ : ∃ r, adjustB b s n = r := ⟨_, rfl⟩
  rw [hr]
  have HR := Lib.hid hr
  have hln := hz.ln
  obtain ⟨vf, hvf⟩ : ∃ v, fitB b = v := ⟨_, rfl⟩
  have CF := Lib.hid (rfitb_any a len cap a2 len2 cap2 b vf hvf _ (h.keep HF.out.bel) hz)
  obtain ⟨q0, q1⟩ := cellsB HF.out.box
  clear h hz hr
  cases vf with
  | false =>
    have HE : Hid (r = (bk0, 12)) := by rw [← HR.out]; show adjustB b s n = _; unfold adjustB; rw [if_neg (by rw [hvf]; decide)]
    clear hvf
    go_enter Tryz.func28, Tryz.ntmps28
    go_wp2_with fail
    refine (CF.out).mono ?_
    rintro e w1 ⟨rfl, hb⟩
    have HF1 := Lib.hid (HF.out.keep hb)
    clear hb q0 q1
    obtain ⟨z0, z1⟩ := cellsB HF1.out.res
    obtain ⟨f0, f1⟩ := freeB HF1.out.res
    go_wp2_with fail
    have HRS := Lib.hid (heap_put2B HF1.out.res (.slice none 0 0) (.slice none 0 0))
    have HB := Lib.hid (below_put2 HF1.out.bel (show w.heap.size ≤ w.heap.size + 1 by omega) (.slice none 0 0) (.slice none 0 0))
    exact bodyPost_ret (results_bookR (j := 6) (k := 7) rfl _ _ (w.heap.size + 1) _ _ rfl HRS.out) rfl (book_err HE.out HB.out)
  | true =>
    have HK := Lib.hid (fitB_iff.1 hvf)
    have h12 : len ≤ 12 := by rw [← hlen]; exact HK.out.len
    cases hq : findS s b.sk with
    | none =>
      have hR1 : r = (bk0, 2) := by rw [← HR.out]; unfold adjustB; rw [if_pos hvf, hq]
      have HE : Hid (r = (bk0, 2)) := hR1
      have CQ := Lib.hid (fun w' (hb : Below w.heap.size w w') => rfind_any a len cap a2 len2 cap2 b s none hq w' (HX.out.sk.keep hb))
      clear hq hR1 hvf
      unfold skV getS at CQ
      go_enter Tryz.func28, Tryz.ntmps28
      go_wp2_with fail
      refine (CF.out).mono ?_
      rintro e w1 ⟨rfl, hb⟩
      have HF1 := Lib.hid (HF.out.keep hb)
      clear hb q0 q1
      obtain ⟨q0, q1⟩ := cellsB HF1.out.box
      go_wp2_with fail
      refine (CQ.out w1 HF1.out.bel).mono ?_
      rintro e w2 ⟨rfl, hb⟩
      simp only [Option.getD_none, Option.isSome_none]
      have HF2 := Lib.hid (HF1.out.keep (Lines.below_keep hb ((Below.refl _ w2).alloc (Nat.le_refl _) (.cells #[.string sk0.nm, .int .i64 sk0.hand, .int .i64 sk0.held, .int .i64 sk0.kept, .int .i64 sk0.sent, .int .i64 sk0.inn] 41)) hb.size))
      clear hb q0 q1
      obtain ⟨z0, z1⟩ := cellsB HF2.out.res
      obtain ⟨f0, f1⟩ := freeB HF2.out.res
      go_wp2_with fail
      have HRS := Lib.hid (heap_put2B HF2.out.res (.slice none 0 0) (.slice none 0 0))
      have HB := Lib.hid (below_put2 HF2.out.bel (show w.heap.size ≤ w.heap.size + 1 by omega) (.slice none 0 0) (.slice none 0 0))
      exact bodyPost_ret (results_bookR (j := 6) (k := 7) rfl _ _ (w.heap.size + 1) _ _ rfl HRS.out) rfl (book_err HE.out HB.out)
    | some x =>
      have hR1 : r = putIn b (adjustV x n) := by rw [← HR.out]; unfold adjustB; rw [if_pos hvf, hq]
      obtain ⟨hxm, hxn⟩ := findS_mem hq
      have hs300 := HZ.out.sk x hxm
      obtain ⟨⟨y, er⟩, hv⟩ : ∃ q, adjustV x n = q := ⟨_, rfl⟩
      rw [hv] at hR1
      have CQ := Lib.hid (fun w' (hb : Below w.heap.size w w') => rfind_any a len cap a2 len2 cap2 b s (some x) hq w' (HX.out.sk.keep hb))
      have CA := Lib.hid (fun w' => radjust_is x n y er w' (by omega) hv)
      obtain ⟨xn, x0, x1, x2, x3, x4⟩ := x
      obtain ⟨yn, y0, y1, y2, y3, y4⟩ := y
      have CW := Lib.hid (fun w' (hb : Below w.heap.size w w') => with_bk a len cap a2 len2 cap2 b yn y0 y1 y2 y3 y4 w' (HX.out.keep hb) (by omega) HK.out.up)
      unfold skV getS at CQ
      simp only [Option.getD_some, Option.isSome_some] at CQ
      simp only at CA
      have HR1 := Lib.hid hR1
      clear hq hR1 hxm hxn hv hvf
      go_enter Tryz.func28, Tryz.ntmps28
      go_wp2_with fail
      refine (CF.out).mono ?_
      rintro e w1 ⟨rfl, hb⟩
      have HF1 := Lib.hid (HF.out.keep hb)
      clear hb q0 q1
      obtain ⟨q0, q1⟩ := cellsB HF1.out.box
      go_wp2_with fail
      refine (CQ.out w1 HF1.out.bel).mono ?_
      rintro e w2 ⟨rfl, hb⟩
      have HF2 := Lib.hid (HF1.out.keep (Lines.below_keep hb ((Below.refl _ w2).alloc (Nat.le_refl _) (.cells #[.string xn, .int .i64 x0, .int .i64 x1, .int .i64 x2, .int .i64 x3, .int .i64 x4] 41)) hb.size))
      obtain ⟨c0, c1, c2', c3, c4, c5⟩ := cells6 (at6_new w2 (.string xn) (.int .i64 x0) (.int .i64 x1) (.int .i64 x2) (.int .i64 x3) (.int .i64 x4))
      clear hb q0 q1
      go_wp2_with fail
      refine (CA.out _).mono ?_
      rintro e w3 ⟨rfl, hb⟩
      have HF3 := Lib.hid (HF2.out.keep (Lines.below_keep hb ((Below.refl _ w3).alloc (Nat.le_refl _) (.cells #[.string yn, .int .i64 y0, .int .i64 y1, .int .i64 y2, .int .i64 y3, .int .i64 y4] 41)) hb.size))
      have hY := at6_new w3 (.string yn) (.int .i64 y0) (.int .i64 y1) (.int .i64 y2) (.int .i64 y3) (.int .i64 y4)
      obtain ⟨e0, e1, e2, e3, e4, e5⟩ := cells6 hY
      clear hb c0 c1 c2' c3 c4 c5 hY
      by_cases her : er = 0
      · subst her
        have HE : Hid (r = (⟨insS ⟨yn, y0, y1, y2, y3, y4⟩ b.sk, b.hd⟩, 0)) := by
          show r = _
          rw [HR1.out]; unfold putIn; rw [if_pos rfl]
        obtain ⟨q0, q1⟩ := cellsB HF3.out.box
        go_wp2_with fail
        refine (CW.out _ HF3.out.bel).mono ?_
        rintro e w9 ⟨a9, n9, c9, rfl, hbk, hb⟩
        have HF9 := Lib.hid (HF3.out.keep hb)
        obtain ⟨z0, z1⟩ := cellsB HF9.out.res
        obtain ⟨f0, f1⟩ := freeB HF9.out.res
        have HBK := Lib.hid (bk_sameB hbk HF9.out.res (.slice a9 n9 c9) (.slice a2 len2 cap2))
        clear hbk hb q0 q1 e0 e1 e2 e3 e4 e5
        go_wp2_with fail
        have HRS := Lib.hid (heap_put2B HF9.out.res (.slice a9 n9 c9) (.slice a2 len2 cap2))
        have HB := Lib.hid (below_put2 HF9.out.bel (show w.heap.size ≤ w.heap.size + 1 by omega) (.slice a9 n9 c9) (.slice a2 len2 cap2))
        exact bodyPost_ret (results_bookR (j := 6) (k := 7) rfl _ _ (w.heap.size + 1) _ _ rfl HRS.out) rfl (book_ok HE.out HBK.out HB.out)
      · have HE : Hid (r = (bk0, er)) := by
          show r = _
          rw [HR1.out]; unfold putIn; rw [if_neg her]
        clear e0 e1 e2 e3 e4 e5
        obtain ⟨z0, z1⟩ := cellsB HF3.out.res
        obtain ⟨f0, f1⟩ := freeB HF3.out.res
        go_wp2_with fail
        have HRS := Lib.hid (heap_put2B HF3.out.res (.slice none 0 0) (.slice none 0 0))
        have HB := Lib.hid (below_put2 HF3.out.bel (show w.heap.size ≤ w.heap.size + 1 by omega) (.slice none 0 0) (.slice none 0 0))
        exact bodyPost_ret (results_bookR (j := 6) (k := 7) rfl _ _ (w.heap.size + 1) _ _ rfl HRS.out) rfl (book_err HE.out HB.out)
end Go.Proofs.YtjclkiabgemfpaaGreat.Ledger

/-
  The contract of the document's moves: fit lines moved one by one, or none; what was there stays as it was.
-/
set_option linter.unusedVariables false
set_option linter.unusedSimpArgs false
set_option maxRecDepth 4000
namespace Go.Proofs.YtjclkiabgemfpaaGreat.Ledger
open Go.RowKit LinesP HoldsP LedgerP
open StockP (Sk sk0 fitS Fit fitS_iff fromV turnV moveV turn_fit restockV adjustV nmS)
open Go.Proofs.YtjclkiabgemfpaaGreat.Lines (LsAt Sz SzM ret_bool ret_int below_keep below_drewN below_append owns_form owns_cell owns_below)
open Go.Proofs.YtjclkiabgemfpaaGreat.Holds (HsAt SzH SzMH hmf eqH MadeP)

structure MX (w w' : World) (v0 v1 : Value) (a : Option Addr) (n c : Nat) (a2 : Option Addr) (n2 c2 : Nat) (b : Bk) : Prop where
  fr : FR w.heap.size w w' v0 v1 (w.heap.size + 1) (.slice none 0 0) (.slice none 0 0)
  out : AtB w' (w.heap.size + 2) (.slice a n c) (.slice a2 n2 c2)
  bk : BkAt w' a n a2 n2 c2 b
theorem MX.keep {w w' w2 : World} {v0 v1 : Value} {a : Option Addr} {n c : Nat} {a2 : Option Addr} {n2 c2 : Nat} {b : Bk} (h : MX w w' v0 v1 a n c a2 n2 c2 b) (hb : Below w'.heap.size w' w2) : MX w w2 v0 v1 a n c a2 n2 c2 b :=
  ⟨h.fr.keep hb, atB_keep h.out hb, h.bk.keep hb⟩
theorem putB_otherAt {w : World} {k j : Nat} {x0 x1 : Value} (h : AtB w j x0 x1) (hne : j ≠ k) (v0 v1 : Value) : AtB (put2 w k v0 v1) j x0 x1 := (put2_other v0 v1 hne).trans h
theorem MX.put {w w' : World} {v0 v1 : Value} {a : Option Addr} {n c : Nat} {a2 : Option Addr} {n2 c2 : Nat} {b b' : Bk} (h : MX w w' v0 v1 a n c a2 n2 c2 b) {p : Option Addr} {m d : Nat} (hk : BkAt w' p m a2 n2 c2 b') :
    MX w (put2 w' (w.heap.size + 2) (.slice p m d) (.slice a2 n2 c2)) v0 v1 p m d a2 n2 c2 b' :=
  ⟨⟨below_put2 h.fr.bel (by omega) _ _, putB_otherAt h.fr.box (by omega) _ _, putB_otherAt h.fr.res (by omega) _ _⟩, heap_put2B h.out _ _, bk_sameB hk h.out _ _⟩
theorem set_len (x : Sk) (l : List Sk) : (setS x l).length = l.length := by unfold setS; simp
set_option maxHeartbeats 8000000 in
theorem rmoves_any (a : Option Addr) (len cap : Nat) (a2 : Option Addr) (len2 cap2 : Nat) (b : Bk) (la : Option Addr) (n lc : Nat) (ls : List Ln) (wh : Int) (w : World)
    (h : BkAt w a len a2 len2 cap2 b) (hL : LsAt w la n ls) (hu : UpS b.sk) (hf : ∀ x ∈ b.sk, Fit x) (hfl : fitL ls = true) (h12 : len ≤ 12) :
    Calls Tryz.prog 68 #[.agg #[.slice a len cap, .slice a2 len2 cap2], .slice la n lc, .int .i64 wh] w (BookR w (moveR wh ls b.sk b.hd)) := by
  obtain ⟨R, hR⟩ : ∃ R, movesV wh ls b.sk = R := ⟨_, rfl⟩
  have HRE : Hid (∀ er, R = ([], er) → er ≠ 0 → moveR wh ls b.sk b.hd = (bk0, er)) := fun er e hne => moveR_err (hR.trans e) hne
  have HRO : Hid (∀ l, R = (l, 0) → moveR wh ls b.sk b.hd = (⟨l, b.hd⟩, 0)) := fun l e => moveR_ok (hR.trans e)
  have h0 : Hid (R = movesV wh (ls.drop 0) b.sk) := hR.symm
  generalize moveR wh ls b.sk b.hd = MR at HRE HRO ⊢
  have HLL := Lib.hid hL
  have hn4 : n ≤ 4 := by
    have h1 := hfl
    unfold fitL at h1
    rw [Bool.and_eq_true, decide_eq_true_eq, hL.1] at h1
    exact h1.1
  have HFL := Lib.hid hfl
  have HF0 := Lib.hid (fr_new w (.slice a len cap) (.slice a2 len2 cap2) (.slice none 0 0) (.slice none 0 0))
  have hs2 : ((w.alloc (.cells #[.slice a len cap, .slice a2 len2 cap2] 25)).alloc (.cells #[.slice none 0 0, .slice none 0 0] 25)).heap.size = w.heap.size + 2 := by simp
  have J0 : Hid (MX w (((w.alloc (.cells #[.slice a len cap, .slice a2 len2 cap2] 25)).alloc (.cells #[.slice none 0 0, .slice none 0 0] 25)).alloc (.cells #[.slice a len cap, .slice a2 len2 cap2] 25)) (.slice a len cap) (.slice a2 len2 cap2) a len cap a2 len2 cap2 b) := by
    have hb := (Below.refl _ ((w.alloc (.cells #[.slice a len cap, .slice a2 len2 cap2] 25)).alloc (.cells #[.slice none 0 0, .slice none 0 0] 25))).alloc (Nat.le_refl _) (.cells #[.slice a len cap, .slice a2 len2 cap2] 25)
    refine ⟨HF0.out.keep hb, ?_, (h.keep HF0.out.bel).keep hb⟩
    have := heap_alloc_new ((w.alloc (.cells #[.slice a len cap, .slice a2 len2 cap2] 25)).alloc (.cells #[.slice none 0 0, .slice none 0 0] 25)) (.cells #[.slice a len cap, .slice a2 len2 cap2] 25)
    rw [hs2] at this
    exact this
  have HU0 := Lib.hid hu
  have HFIT0 := Lib.hid hf
  have HLEN : Hid (b.sk.length ≤ 12) := by have := h.sk.1; show b.sk.length ≤ 12; omega
  obtain ⟨q0, q1⟩ := cellsB HF0.out.box
  clear h hL hu hf hfl hR hs2
  go_enter Tryz.func68, Tryz.ntmps68
  go_wp2_with fail
  go_loopw [9] (fun i wr => ∃ (k : Nat) (A : Option Addr) (N C : Nat) (l : List Sk), k ≤ n ∧ i = .int .i64 (k : Int) ∧ Hid (R = movesV wh (ls.drop k) l) ∧ Hid (MX w wr (.slice a len cap) (.slice a2 len2 cap2) A N C a2 len2 cap2 ⟨l, b.hd⟩) ∧ Hid (UpS l) ∧ Hid (∀ x ∈ l, Fit x) ∧ Hid (l.length ≤ 12)) (fun i _ => n - (intOf i).toNat)
  case atStart => exact ⟨0, a, len, cap, b.sk, Nat.zero_le _, rfl, h0, J0, HU0, HFIT0, HLEN⟩
  case round =>
    obtain ⟨k, A, N, C, l, hk, rfl, hR, hM, hU, hFit, hLn⟩ := hrel
    by_cases hkn : k < n
    · have hkx : k < ls.length := by rw [HLL.out.1]; exact hkn
      obtain ⟨b3, o3, s, q, rfl, g3, hz, hmem, hc3⟩ := ls_at HLL.out hkn
      have hqz := qty_iff.1 (fitL_mem HFL.out _ hmem).2
      simp only at hqz
      have HC3 := Lib.hid hc3
      obtain ⟨ox, hox⟩ : ∃ ox, findS s l = ox := ⟨_, rfl⟩
      have hsize : (getS ox).nm.size ≤ 4398046511104 := by
        cases ox with
        | none => decide
        | some x => exact Nat.le_trans (nm_small (hFit.out x (findS_mem hox).1).nm) (by decide)
      have hstep : ∀ r2, moveV (getS ox) wh q = r2 → (r2.2 ≠ 0 → MR = (bk0, 6)) ∧ (r2.2 = 0 → R = movesV wh (ls.drop (k + 1)) (insS r2.1 l) ∧ UpS (insS r2.1 l) ∧ (∀ x ∈ insS r2.1 l, Fit x) ∧ (insS r2.1 l).length ≤ 12) := by
        intro r2 hr2
        cases ox with
        | none =>
          refine ⟨fun _ => HRE.out 6 (hR.out.trans (moves_drop_none hkx hz hox)) (by decide), fun e => ?_⟩
          rw [← hr2] at e
          exact absurd e (move_zero wh q)
        | some x =>
          have hfx := hFit.out x (findS_mem hox).1
          have hml := move_line (w := wh) hfx hqz.1 hqz.2
          rw [show moveV (getS (some x)) wh q = moveV x wh q from rfl, hml] at hr2
          by_cases hfr : fromV x wh < q
          · rw [if_pos hfr] at hr2
            subst hr2
            exact ⟨fun _ => HRE.out 6 (hR.out.trans (moves_drop_less hkx hz hox hfr)) (by decide), fun e => by cases e⟩
          · rw [if_neg hfr] at hr2
            subst hr2
            refine ⟨fun e => absurd rfl e, fun _ => ?_⟩
            simp only
            rw [← set_ins hU.out ⟨x, (findS_mem hox).1, (turn_nm x wh q).symm⟩]
            exact ⟨hR.out.trans (moves_drop_go hkx hz hox hfr), set_up hU.out, set_fit hFit.out (findS_mem hox).1 hqz.1 hfr, by rw [set_len]; exact hLn.out⟩
      have CQ := Lib.hid (fun (w' : World) (hb : Below wr.heap.size wr w') => rfind_any A N C a2 len2 cap2 ⟨l, b.hd⟩ s ox hox w' (hM.out.bk.keep hb).sk)
      obtain ⟨xx, hxx⟩ : ∃ xx, getS ox = xx := ⟨_, rfl⟩
      obtain ⟨is, his⟩ : ∃ is, ox.isSome = is := ⟨_, rfl⟩
      rw [hxx] at CQ hsize hstep
      rw [his] at CQ
      obtain ⟨⟨yy, er⟩, hv⟩ : ∃ r2, moveV xx wh q = r2 := ⟨_, rfl⟩
      have HST := Lib.hid (hstep _ hv)
      have CM0 := Lib.hid (fun w' => rmove_is xx wh q yy er w' hsize hv)
      obtain ⟨pn, x0, x1, x2, x3, x4⟩ := xx
      obtain ⟨yn, y0, y1, y2, y3, y4⟩ := yy
      unfold skV at CQ
      dsimp only at CQ CM0 HST
      clear hc3 hz hmem hstep hv hox hxx his hkx hsize g3
      go_wp2_with fail
      have K : Hid (∀ w', Below wr.heap.size wr w' → w'.cell? ⟨w.heap.size + 2, 0, none⟩ = some (.slice A N C) ∧ w'.cell? ⟨w.heap.size + 2, 1, none⟩ = some (.slice a2 len2 cap2) ∧ w'.cell? ⟨b3, o3 + k * 2, none⟩ = some (.string s)) := fun w' hb => ⟨(cellsB (atB_keep hM.out.out hb)).1, (cellsB (atB_keep hM.out.out hb)).2, (HC3.out w' (Lines.below_keep hM.out.fr.bel hb hM.out.fr.bel.size)).1⟩
      apply join2 (F := fun wz bx => Below wr.heap.size wr wz ∧ At6 wz bx (.string pn) (.int .i64 x0) (.int .i64 x1) (.int .i64 x2) (.int .i64 x3) (.int .i64 x4))
      · intro hG
        have b0 : Below wr.heap.size wr wr.drew := (Below.refl _ wr).drew
        have k0 := K.out _ b0
        have b00 : Below wr.heap.size wr (wr.alloc (.cells #[.string ⟨#[]⟩, .int .i64 0, .int .i64 0, .int .i64 0, .int .i64 0, .int .i64 0] 41)).drew := ((Below.refl _ wr).alloc (Nat.le_refl _) _).drew
        have k00 := K.out _ b00
        have k01 := K.out _ ((Below.refl _ wr).alloc (Nat.le_refl _) (.cells #[.string ⟨#[]⟩, .int .i64 0, .int .i64 0, .int .i64 0, .int .i64 0, .int .i64 0] 41))
        go_region_held3 (fun w' => w'.cell? ⟨w.heap.size + 2, 0, none⟩ = some (.slice A N C) ∧ w'.cell? ⟨w.heap.size + 2, 1, none⟩ = some (.slice a2 len2 cap2) ∧ w'.cell? ⟨b3, o3 + k * 2, none⟩ = some (.string s))
          (first | with_reducible exact k0 | with_reducible exact k00 | with_reducible exact k01 | with_reducible exact k4 | with_reducible exact k5 | with_reducible exact k6)
          (first
            | ((with_reducible refine (CQ.out (wr.alloc (.cells #[.string ⟨#[]⟩, .int .i64 0, .int .i64 0, .int .i64 0, .int .i64 0, .int .i64 0] 41)).drew b00).mono ?_); rintro e w4 ⟨rfl, hb4⟩; have b4 := Lines.below_keep b00 hb4 b00.size; have k4 := K.out _ b4; have k5 := k4; have k6 := K.out _ (below_put6 b4 (Nat.le_refl _) (.string pn) (.int .i64 x0) (.int .i64 x1) (.int .i64 x2) (.int .i64 x3) (.int .i64 x4)); have hz4 := At6.keep (w := (wr.alloc (.cells #[.string ⟨#[]⟩, .int .i64 0, .int .i64 0, .int .i64 0, .int .i64 0, .int .i64 0] 41)).drew) (at6_new wr (.string ⟨#[]⟩) (.int .i64 0) (.int .i64 0) (.int .i64 0) (.int .i64 0) (.int .i64 0)) hb4; obtain ⟨z0, z1, z2, z3, z4, z5⟩ := cells6 hz4; obtain ⟨f0, f1, f2, f3, f4, f5⟩ := free6 hz4)
            | ((with_reducible refine (CQ.out wr.drew b0).mono ?_); rintro e w4 ⟨rfl, hb4⟩; have b4 := Lines.below_keep b0 hb4 b0.size; have k4 := K.out _ b4; have k5 := K.out _ (b4.alloc b4.size (.cells #[.string ⟨#[]⟩, .int .i64 0, .int .i64 0, .int .i64 0, .int .i64 0, .int .i64 0] 41)); have k6 := K.out _ (b4.alloc b4.size (.cells #[.string pn, .int .i64 x0, .int .i64 x1, .int .i64 x2, .int .i64 x3, .int .i64 x4] 41))))
        · have hwz0 : Below wr.heap.size wr (w4.alloc (.cells #[.string pn, .int .i64 x0, .int .i64 x1, .int .i64 x2, .int .i64 x3, .int .i64 x4] 41)) := b4.alloc b4.size _
          have hx0 := at6_new w4 (.string pn) (.int .i64 x0) (.int .i64 x1) (.int .i64 x2) (.int .i64 x3) (.int .i64 x4)
          clear k0 k00 k01 k4 k5 k6 b0 b00 b4 hb4
          generalize hwz : w4.alloc (.cells #[.string pn, .int .i64 x0, .int .i64 x1, .int .i64 x2, .int .i64 x3, .int .i64 x4] 41) = wz at hwz0 hx0 ⊢
          generalize hbx : w4.heap.size = bx at hx0 ⊢
          exact hG wz bx ⟨hwz0, hx0⟩
        · have hwz0 := below_put6 b4 (Nat.le_refl _) (.string pn) (.int .i64 x0) (.int .i64 x1) (.int .i64 x2) (.int .i64 x3) (.int .i64 x4)
          have hx0 := heap_put6 hz4 (.string pn) (.int .i64 x0) (.int .i64 x1) (.int .i64 x2) (.int .i64 x3) (.int .i64 x4)
          change At6 (put6 w4 wr.heap.size (.string pn) (.int .i64 x0) (.int .i64 x1) (.int .i64 x2) (.int .i64 x3) (.int .i64 x4)) wr.heap.size _ _ _ _ _ _ at hx0
          clear k0 k00 k01 k4 k5 k6 b0 b00 b4 hb4 hz4 z0 z1 z2 z3 z4 z5 f0 f1 f2 f3 f4 f5
          unfold put6 at hwz0 hx0
          generalize hwz : (((((w4.setCell ⟨wr.heap.size, 0, none⟩ (.string pn)).setCell ⟨wr.heap.size, 1, none⟩ (.int .i64 x0)).setCell ⟨wr.heap.size, 2, none⟩ (.int .i64 x1)).setCell ⟨wr.heap.size, 3, none⟩ (.int .i64 x2)).setCell ⟨wr.heap.size, 4, none⟩ (.int .i64 x3)).setCell ⟨wr.heap.size, 5, none⟩ (.int .i64 x4) = wz at hwz0 hx0 ⊢
          obtain ⟨bx, hbx⟩ : ∃ bx, wr.heap.size = bx := ⟨_, rfl⟩
          have hx1 : At6 wz bx (.string pn) (.int .i64 x0) (.int .i64 x1) (.int .i64 x2) (.int .i64 x3) (.int .i64 x4) := hbx ▸ hx0
          rw [hbx]
          exact hG wz bx ⟨hwz0, hx1⟩
      · intro wz1 bx1 hF
        have HM1 := Lib.hid (hM.out.keep hF.1)
        have HP1 : Hid (At6 wz1 bx1 (.string pn) (.int .i64 x0) (.int .i64 x1) (.int .i64 x2) (.int .i64 x3) (.int .i64 x4)) := hF.2
        have CM := Lib.hid (fun (w' : World) (hb : Below wz1.heap.size wz1 w') => CM0.out w')
        clear hF CQ
        go_wp2_with fail
        have K : Hid (∀ w', Below wz1.heap.size wz1 w' → (w'.cell? ⟨bx1, 0, none⟩ = some (.string pn) ∧ w'.cell? ⟨bx1, 1, none⟩ = some (.int .i64 x0) ∧ w'.cell? ⟨bx1, 2, none⟩ = some (.int .i64 x1) ∧ w'.cell? ⟨bx1, 3, none⟩ = some (.int .i64 x2) ∧ w'.cell? ⟨bx1, 4, none⟩ = some (.int .i64 x3) ∧ w'.cell? ⟨bx1, 5, none⟩ = some (.int .i64 x4)) ∧ w'.cell? ⟨b3, o3 + k * 2 + 1, none⟩ = some (.int .i64 q)) := fun w' hb => ⟨cells6 (HP1.out.keep hb), (HC3.out w' (Lines.below_keep HM1.out.fr.bel hb HM1.out.fr.bel.size)).2⟩
        apply join2 (F := fun wz bx => Below wz1.heap.size wz1 wz ∧ At6 wz bx (.string yn) (.int .i64 y0) (.int .i64 y1) (.int .i64 y2) (.int .i64 y3) (.int .i64 y4))
        · intro hG
          have b0 : Below wz1.heap.size wz1 wz1.drew := (Below.refl _ wz1).drew
          have k0 := K.out _ b0
          have b00 : Below wz1.heap.size wz1 (wz1.alloc (.cells #[.string ⟨#[]⟩, .int .i64 0, .int .i64 0, .int .i64 0, .int .i64 0, .int .i64 0] 41)).drew := ((Below.refl _ wz1).alloc (Nat.le_refl _) _).drew
          have k00 := K.out _ b00
          have k01 := K.out _ ((Below.refl _ wz1).alloc (Nat.le_refl _) (.cells #[.string ⟨#[]⟩, .int .i64 0, .int .i64 0, .int .i64 0, .int .i64 0, .int .i64 0] 41))
          go_region_held3 (fun w' => (w'.cell? ⟨bx1, 0, none⟩ = some (.string pn) ∧ w'.cell? ⟨bx1, 1, none⟩ = some (.int .i64 x0) ∧ w'.cell? ⟨bx1, 2, none⟩ = some (.int .i64 x1) ∧ w'.cell? ⟨bx1, 3, none⟩ = some (.int .i64 x2) ∧ w'.cell? ⟨bx1, 4, none⟩ = some (.int .i64 x3) ∧ w'.cell? ⟨bx1, 5, none⟩ = some (.int .i64 x4)) ∧ w'.cell? ⟨b3, o3 + k * 2 + 1, none⟩ = some (.int .i64 q))
            (first | with_reducible exact k0 | with_reducible exact k00 | with_reducible exact k01 | with_reducible exact k4 | with_reducible exact k5 | with_reducible exact k6)
            (first
              | ((with_reducible refine (CM.out (wz1.alloc (.cells #[.string ⟨#[]⟩, .int .i64 0, .int .i64 0, .int .i64 0, .int .i64 0, .int .i64 0] 41)).drew b00).mono ?_); rintro e w4 ⟨rfl, hb4⟩; have b4 := Lines.below_keep b00 hb4 b00.size; have k4 := K.out _ b4; have k5 := k4; have k6 := K.out _ (below_put6 b4 (Nat.le_refl _) (.string yn) (.int .i64 y0) (.int .i64 y1) (.int .i64 y2) (.int .i64 y3) (.int .i64 y4)); have hz4 := At6.keep (w := (wz1.alloc (.cells #[.string ⟨#[]⟩, .int .i64 0, .int .i64 0, .int .i64 0, .int .i64 0, .int .i64 0] 41)).drew) (at6_new wz1 (.string ⟨#[]⟩) (.int .i64 0) (.int .i64 0) (.int .i64 0) (.int .i64 0) (.int .i64 0)) hb4; obtain ⟨z0, z1, z2, z3, z4, z5⟩ := cells6 hz4; obtain ⟨f0, f1, f2, f3, f4, f5⟩ := free6 hz4)
              | ((with_reducible refine (CM.out wz1.drew b0).mono ?_); rintro e w4 ⟨rfl, hb4⟩; have b4 := Lines.below_keep b0 hb4 b0.size; have k4 := K.out _ b4; have k5 := K.out _ (b4.alloc b4.size (.cells #[.string ⟨#[]⟩, .int .i64 0, .int .i64 0, .int .i64 0, .int .i64 0, .int .i64 0] 41)); have k6 := K.out _ (b4.alloc b4.size (.cells #[.string yn, .int .i64 y0, .int .i64 y1, .int .i64 y2, .int .i64 y3, .int .i64 y4] 41))))
          · have hwz0 : Below wz1.heap.size wz1 (w4.alloc (.cells #[.string yn, .int .i64 y0, .int .i64 y1, .int .i64 y2, .int .i64 y3, .int .i64 y4] 41)) := b4.alloc b4.size _
            have hx0 := at6_new w4 (.string yn) (.int .i64 y0) (.int .i64 y1) (.int .i64 y2) (.int .i64 y3) (.int .i64 y4)
            clear k0 k00 k01 k4 k5 k6 b0 b00 b4 hb4
            generalize hwz : w4.alloc (.cells #[.string yn, .int .i64 y0, .int .i64 y1, .int .i64 y2, .int .i64 y3, .int .i64 y4] 41) = wz at hwz0 hx0 ⊢
            generalize hbx : w4.heap.size = bx at hx0 ⊢
            exact hG wz bx ⟨hwz0, hx0⟩
          · have hwz0 := below_put6 b4 (Nat.le_refl _) (.string yn) (.int .i64 y0) (.int .i64 y1) (.int .i64 y2) (.int .i64 y3) (.int .i64 y4)
            have hx0 := heap_put6 hz4 (.string yn) (.int .i64 y0) (.int .i64 y1) (.int .i64 y2) (.int .i64 y3) (.int .i64 y4)
            change At6 (put6 w4 wz1.heap.size (.string yn) (.int .i64 y0) (.int .i64 y1) (.int .i64 y2) (.int .i64 y3) (.int .i64 y4)) wz1.heap.size _ _ _ _ _ _ at hx0
            clear k0 k00 k01 k4 k5 k6 b0 b00 b4 hb4 hz4 z0 z1 z2 z3 z4 z5 f0 f1 f2 f3 f4 f5
            unfold put6 at hwz0 hx0
            generalize hwz : (((((w4.setCell ⟨wz1.heap.size, 0, none⟩ (.string yn)).setCell ⟨wz1.heap.size, 1, none⟩ (.int .i64 y0)).setCell ⟨wz1.heap.size, 2, none⟩ (.int .i64 y1)).setCell ⟨wz1.heap.size, 3, none⟩ (.int .i64 y2)).setCell ⟨wz1.heap.size, 4, none⟩ (.int .i64 y3)).setCell ⟨wz1.heap.size, 5, none⟩ (.int .i64 y4) = wz at hwz0 hx0 ⊢
            obtain ⟨bx, hbx⟩ : ∃ bx, wz1.heap.size = bx := ⟨_, rfl⟩
            have hx1 : At6 wz bx (.string yn) (.int .i64 y0) (.int .i64 y1) (.int .i64 y2) (.int .i64 y3) (.int .i64 y4) := hbx ▸ hx0
            rw [hbx]
            exact hG wz bx ⟨hwz0, hx1⟩
        · intro wz2 bx2 hF
          have HM2 := Lib.hid (HM1.out.keep hF.1)
          have HY2 : Hid (At6 wz2 bx2 (.string yn) (.int .i64 y0) (.int .i64 y1) (.int .i64 y2) (.int .i64 y3) (.int .i64 y4)) := hF.2
          clear hF CM CM0
          by_cases her : er = 0
          · subst her
            obtain ⟨e1, e2, e3, e4⟩ := HST.out.2 rfl
            have HE1 := Lib.hid e1; have HE2 := Lib.hid e2; have HE3 := Lib.hid e3; have HE4 := Lib.hid e4
            have CW := Lib.hid (with_bk A N C a2 len2 cap2 ⟨l, b.hd⟩ yn y0 y1 y2 y3 y4 wz2 HM2.out.bk (by have := HM2.out.bk.sk.1; have := hLn.out; simp only at *; omega) hU.out)
            obtain ⟨c0, c1, c2', c3, c4, c5⟩ := cells6 HY2.out
            obtain ⟨u0, u1⟩ := cellsB HM2.out.out
            clear e1 e2 e3 e4
            go_wp2_with fail
            refine CW.out.mono ?_
            rintro e w7 ⟨a7, n7, c7, rfl, hbk, hb7⟩
            have HM7 := Lib.hid (HM2.out.keep hb7)
            have HM8 := Lib.hid (HM7.out.put (d := c7) hbk)
            obtain ⟨z0, z1⟩ := cellsB HM7.out.out
            obtain ⟨f0, f1⟩ := freeB HM7.out.out
            clear hbk hb7 c0 c1 c2' c3 c4 c5 u0 u1 CW
            go_wp2_with fail
            go_roundw
            case rel => exact ⟨k + 1, a7, n7, c7, _, by omega, by go_num, HE1, HM8, HE2, HE3, HE4⟩
            case measure => simp [intOf]; omega
          · have HE2 := Lib.hid (HST.out.1 her)
            obtain ⟨z0, z1⟩ := cellsB HM2.out.fr.res
            obtain ⟨f0, f1⟩ := freeB HM2.out.fr.res
            go_wp2_with fail
            have HRS := Lib.hid (heap_put2B HM2.out.fr.res (.slice none 0 0) (.slice none 0 0))
            have HB := Lib.hid (below_put2 HM2.out.fr.bel (show w.heap.size ≤ w.heap.size + 1 by omega) (.slice none 0 0) (.slice none 0 0))
            exact bodyPost_ret (results_bookR (j := 6) (k := 7) rfl _ _ (w.heap.size + 1) _ _ rfl HRS.out) rfl (book_err HE2.out HB.out)
    · obtain rfl : k = n := by omega
      have HE := Lib.hid (HRO.out l (hR.out.trans (moves_drop_done (by rw [HLL.out.1]; exact hkn))))
      have HBK := Lib.hid (bk_sameB hM.out.bk hM.out.fr.res (.slice A N C) (.slice a2 len2 cap2))
      obtain ⟨z0, z1⟩ := cellsB hM.out.fr.res
      obtain ⟨f0, f1⟩ := freeB hM.out.fr.res
      obtain ⟨u0, u1⟩ := cellsB hM.out.out
      clear hR
      go_wp2_with fail
      have HRS := Lib.hid (heap_put2B hM.out.fr.res (.slice A N C) (.slice a2 len2 cap2))
      have HB := Lib.hid (below_put2 hM.out.fr.bel (show w.heap.size ≤ w.heap.size + 1 by omega) (.slice A N C) (.slice a2 len2 cap2))
      exact bodyPost_ret (results_bookR (j := 6) (k := 7) rfl _ _ (w.heap.size + 1) _ _ rfl HRS.out) rfl (book_ok HE.out HBK.out HB.out)
end Go.Proofs.YtjclkiabgemfpaaGreat.Ledger

/-
  The contracts of the document's Put and Drop of holds, telling the slice's room too.
-/
set_option linter.unusedVariables false
set_option maxRecDepth 4000
namespace Go.Proofs.YtjclkiabgemfpaaGreat.Holds
open Go.RowKit LinesP HoldsP
open Go.Proofs.YtjclkiabgemfpaaGreat.Lines (LsAt Sz SzM ret_bool ret_int below_keep below_drewN lcells info_line owns_below owns_cell owns_form ls_of lcells_get own_cap)

set_option maxHeartbeats 2000000 in
theorem rputc_any (a : Option Addr) (len cap : Nat) (l : List Hd) (g t : Int) (la : Option Addr) (n lc : Nat) (ls : List Ln) (w : World) (h : HsAt w a len l) (hc : len ≤ cap) (hL : LsAt w la n ls) (hz : SzH l) (hz2 : Sz ls) :
    Calls Tryz.prog 104 #[.slice a len cap, .agg #[.int .i64 g, .slice la n lc, .int .i64 t]] w (TurnC w (putH l ⟨g, ls, t⟩)) := by
  obtain ⟨r, hr⟩ : ∃ r, putH l ⟨g, ls, t⟩ = r := ⟨_, rfl⟩
  rw [hr]
  have hle := h.le
  have HB := Lib.hid (box_below w g la n lc t)
  have HC := Lib.hid (fun w' hb => box_cells w g la n lc t (w' := w') hb)
  have HX := Lib.hid (h.keep (box_below w g la n lc t))
  have HL := Lib.hid (hL.keep (box_below w g la n lc t))
  obtain ⟨W, hW⟩ : ∃ W, box w g la n lc t = W := ⟨_, rfl⟩
  have HW : Hid (w.alloc (.cells #[.int .i64 g, .slice la n lc, .int .i64 t] 69) = W) := hW
  rw [hW] at HB HC HX HL
  have HZ := Lib.hid hz; have HZ2 := Lib.hid hz2
  clear h hL hz hz2 hW
  by_cases h1 : fitH l = true
  · have C1 := Lib.hid (rfit_is a len cap l true h1 W HX.out HZ.out)
    cases h2 : oneH ⟨g, ls, t⟩ with
    | true =>
      cases h3 : (findH g l).isSome with
      | true =>
        have HR : Hid (r = ([], 3)) := by show r = _; rw [← hr]; unfold putH; rw [if_pos h1, if_pos h2]; show (if (findH g l).isSome = true then _ else _) = _; rw [if_pos h3]
        have H1 := Lib.hid h1; have H2 := Lib.hid h2; have H3 := Lib.hid h3
        clear hr h1 h2 h3
        go_enter Tryz.func104, Tryz.ntmps104
        go_wp2_with fail
        rw [show w.alloc (.cells #[.int .i64 g, .slice la n lc, .int .i64 t] 69) = W from HW.out]
        refine C1.out.mono ?_
        rintro e w1 ⟨rfl, hb1⟩
        have HB1 := Lib.hid hb1
        obtain ⟨q0, q1, q2⟩ := HC.out w1 hb1
        have C2 := Lib.hid (rone_is g t la n lc ls true H2.out w1 (HL.out.keep hb1) HZ2.out)
        clear hb1
        go_wp2_with fail
        refine C2.out.mono ?_
        rintro e w2 ⟨rfl, hb2⟩
        have HB2 := Lib.hid (below_keep HB1.out hb2 HB1.out.size)
        clear hb2
        obtain ⟨r0, r1, r2⟩ := HC.out w2 HB2.out
        have C3 := Lib.hid (rfind_b a len cap l g true H3.out w2 (HX.out.keep HB2.out))
        go_wp2_with fail
        refine C3.out.mono ?_
        rintro e w3 ⟨g', t', a', n', c', rfl, hb3⟩
        clear q0 q1 q2 r0 r1 r2
        have HE := Lib.hid (turn_errc (r := r) HR.out (below_keep HB.out (below_keep HB2.out (hb3.trans ((box_below w3 g' a' n' c' t').mono hb3.size)) HB2.out.size) HB.out.size))
        clear hb3
        go_wp2_with fail
        go_ret2
        exact HE.out
      | false =>
        by_cases h4 : len = 16
        · have HR : Hid (r = ([], 4)) := by
            show r = _; rw [← hr]; unfold putH; rw [if_pos h1, if_pos h2]
            show (if (findH g l).isSome = true then _ else _) = _
            rw [h3, if_neg (by decide), if_pos (by rw [HX.out.len]; exact h4)]
          have H1 := Lib.hid h1; have H2 := Lib.hid h2; have H3 := Lib.hid h3
          have he16 : ((len : Int) == 16) = true := by rw [beq_iff_eq]; omega
          clear hr h1 h2 h3 h4
          go_enter Tryz.func104, Tryz.ntmps104
          go_wp2_with fail
          rw [show w.alloc (.cells #[.int .i64 g, .slice la n lc, .int .i64 t] 69) = W from HW.out]
          refine C1.out.mono ?_
          rintro e w1 ⟨rfl, hb1⟩
          have HB1 := Lib.hid hb1
          obtain ⟨q0, q1, q2⟩ := HC.out w1 hb1
          have C2 := Lib.hid (rone_is g t la n lc ls true H2.out w1 (HL.out.keep hb1) HZ2.out)
          clear hb1
          go_wp2_with fail
          refine C2.out.mono ?_
          rintro e w2 ⟨rfl, hb2⟩
          have HB2 := Lib.hid (below_keep HB1.out hb2 HB1.out.size)
          clear hb2
          obtain ⟨r0, r1, r2⟩ := HC.out w2 HB2.out
          have C3 := Lib.hid (rfind_b a len cap l g false H3.out w2 (HX.out.keep HB2.out))
          go_wp2_with fail
          refine C3.out.mono ?_
          rintro e w3 ⟨g', t', a', n', c', rfl, hb3⟩
          clear q0 q1 q2 r0 r1 r2
          have HE := Lib.hid (turn_errc (r := r) HR.out (below_keep HB.out (below_keep HB2.out (hb3.trans ((box_below w3 g' a' n' c' t').mono hb3.size)) HB2.out.size) HB.out.size))
          clear hb3
          go_wp2_with fail
          go_ret2
          exact HE.out
        · obtain ⟨p, hp⟩ : ∃ p, pos g l = p := ⟨_, rfl⟩
          have hlen := HX.out.len
          have hpl : p ≤ len := by rw [← hlen, ← hp]; exact pos_le g l
          have h16 : len ≤ 16 := by rw [← hlen]; exact (fitH_iff.1 h1).1
          have hne : ((len : Int) == 16) = false := by rw [beq_eq_false_iff_ne]; omega
          have HR : Hid (r = (l.take p ++ ⟨g, ls, t⟩ :: l.drop p, 0)) := by
            show r = _
            rw [← hr, ← hp]
            unfold putH
            rw [if_pos h1, if_pos h2]
            show (if (findH g l).isSome = true then _ else _) = _
            rw [h3, if_neg (by decide), if_neg (by rw [hlen]; exact h4)]
            rfl
          obtain ⟨A2, hA2⟩ : ∃ A2, (if cap = p then a else Option.map (fun x => x.add (p * 3)) a) = A2 := ⟨_, rfl⟩
          have HA2 := Lib.hid hA2
          have hpc : p ≤ cap := Nat.le_trans hpl hc
          have H1 := Lib.hid h1; have H2 := Lib.hid h2; have H3 := Lib.hid h3
          have HP : Hid (0 + pos g (l.drop 0) = p) := by show 0 + pos g l = p; omega
          clear hr h1 h2 h3 h4 hp hlen hA2
          go_enter Tryz.func104, Tryz.ntmps104
          go_wp2_with fail
          rw [show w.alloc (.cells #[.int .i64 g, .slice la n lc, .int .i64 t] 69) = W from HW.out]
          refine C1.out.mono ?_
          rintro e w1 ⟨rfl, hb1⟩
          have HB1 := Lib.hid hb1
          obtain ⟨q0, q1, q2⟩ := HC.out w1 hb1
          have C2 := Lib.hid (rone_is g t la n lc ls true H2.out w1 (HL.out.keep hb1) HZ2.out)
          clear hb1
          go_wp2_with fail
          refine C2.out.mono ?_
          rintro e w2 ⟨rfl, hb2⟩
          have HB2 := Lib.hid (below_keep HB1.out hb2 HB1.out.size)
          clear hb2
          obtain ⟨r0, r1, r2⟩ := HC.out w2 HB2.out
          have C3 := Lib.hid (rfind_b a len cap l g false H3.out w2 (HX.out.keep HB2.out))
          go_wp2_with fail
          refine C3.out.mono ?_
          rintro e w3 ⟨g', t', a', n', c', rfl, hb3⟩
          clear q0 q1 q2 r0 r1 r2
          have HB3 : Hid (Below W.heap.size W (w3.alloc (.cells #[.int .i64 g', .slice a' n' c', .int .i64 t'] 69))) := below_keep HB2.out (hb3.trans ((box_below w3 g' a' n' c' t').mono hb3.size)) HB2.out.size
          clear hb3
          go_wp2_with fail
          generalize w3.alloc (.cells #[.int .i64 g', .slice a' n' c', .int .i64 t'] 69) = w4 at *
          go_loopw [9] (fun i wr => ∃ k : Nat, k ≤ len ∧ i = .int .i64 (k : Int) ∧ Hid (k + pos g (l.drop k) = p) ∧ Hid (Below W.heap.size W wr)) (fun i _ => len - (intOf i).toNat)
          case atStart => exact ⟨0, Nat.zero_le _, rfl, HP, HB3⟩
          case round =>
            obtain ⟨k, hk, rfl, hd, hB⟩ := hrel
            obtain ⟨s0, s1, s2⟩ := HC.out wr hB.out
            by_cases hgo : k < len ∧ (l.getD k hd0).saga < g
            · obtain ⟨hlk, hlt⟩ := hgo
              have hkx : k < l.length := by rw [HX.out.len]; exact hlk
              obtain ⟨b1, o1, g5, la5, lc5, ls5, t5, rfl, g1, hx, hc1⟩ := HX.out.at hlk
              rw [hx] at hlt
              have HD := Lib.hid ((pos_drop_go hkx hx hlt).symm.trans hd.out)
              obtain ⟨d1, _, _, _⟩ := hc1 wr hB.out
              have hlt : g5 < g := hlt
              clear hc1 hx hkx hd g1
              go_wp2_with fail
              go_quiet (fail)
              go_wp2_with fail
              go_roundw
              case rel => exact ⟨k + 1, by omega, by go_num, HD, below_drewN hB.out _⟩
              case measure => simp [intOf]; omega
            · have hkp : k = p := by
                by_cases hlk : k < len
                · have := pos_drop_stop (g := g) (k := k) (l := l) (by rw [HX.out.len]; exact hlk) rfl (fun e => hgo ⟨hlk, e⟩)
                  have := hd.out; omega
                · have := pos_drop_done (g := g) (k := k) (l := l) (by rw [HX.out.len]; exact hlk)
                  have := hd.out; omega
              subst hkp
              clear hd
              by_cases hlk : k < len
              · obtain ⟨b1, o1, g5, la5, lc5, ls5, t5, rfl, g1, hx, hc1⟩ := HX.out.at hlk
                rw [hx] at hgo
                have hlt : ¬ g5 < g := fun e => hgo ⟨hlk, e⟩
                obtain ⟨d1, _, _, _⟩ := hc1 wr hB.out
                have hcap : cap ≠ k := by omega
                have HA2 : Hid ((if cap = k then (some ⟨b1, o1, none⟩ : Option Addr) else Option.map (fun (x : Addr) => x.add (k * 3)) (some (⟨b1, o1, none⟩ : Addr))) = some ⟨b1, o1 + k * 3, none⟩) := by
                  show _ = _
                  rw [if_neg hcap]; simp only [Option.map_some, add_at]
                clear hc1 hx g1 hgo
                go_wp2_with fail
                go_quiet (fail)
                generalize hw5 : wr.drewN nq = w5
                skip
                obtain ⟨zs, hzs, hZ⟩ := HX.out.keep hB.out
                have HZS := Lib.hid hzs
                have hB5 : Below W.heap.size W w5 := by rw [← hw5]; exact below_drewN hB.out _
                have hK5 : Below wr.heap.size wr w5 := by rw [← hw5]; exact below_drewN (Below.refl _ _) _
                have HZ5 := Lib.hid (hZ.keep hK5)
                have HL5 := Lib.hid (HL.out.keep hB5)
                have HB5 := Lib.hid hB5
                obtain ⟨u0, u1, u2⟩ := HC.out w5 hB5
                have HC5 := Lib.hid (fun w' (hb : Below w5.heap.size w5 w') => HC.out w' (below_keep hB5 hb hB5.size))
                clear hzs hZ hB5 hK5 hB hw5 s0 s1 s2
                go_wp2_with (at_builtin; refine append_holds rfl (.tmp 43) (.tmp 46) rfl w5.heap.size _ 0 [] (zs.take k) (some ⟨b1, o1, none⟩) k cap rfl (World.ownsRow_nil _ _ _ _) rfl (part_take HZ5.out hk) (by omega) (Nat.le_refl _) ?_)
                intro v6 w6 hown6 hg6
                have HO6 := Lib.hid hown6
                have HB6 : Hid (Below w5.heap.size w5 w6) := (Below.refl _ _).grown hg6 (Nat.le_refl _) (fun k hk => by cases hk)
                obtain ⟨v0, v1, v2⟩ := HC5.out w6 HB6.out
                have hsz6 := HB6.out.size
                clear hown6 hg6 u0 u1 u2
                go_wp2_with (at_builtin; refine append_hold rfl (.tmp 48) (.tmp 50) rfl w5.heap.size w6 _ rfl g la n lc ls HL5.out.1 t _ k (zs.take k) rfl HO6.out rfl (by omega) hsz6 ?_)
                intro v7 w7 hown7 hg7
                have HO7 := Lib.hid hown7
                have HB7 : Hid (Below w5.heap.size w5 w7) := Lines.below_append HB6.out hsz6 HO6.out hg7
                have hA2 := HA2.out
                clear hown7 hg7 v0 v1 v2
                go_wp2_with (at_builtin; refine append_holds rfl (.tmp 52) (.tmp 55) rfl w5.heap.size v7 (k + 1) (zs.take k ++ [(⟨g, ls, t⟩, la, lc)]) (zs.drop k) (some ⟨b1, o1 + k * 3, none⟩) (len - k) (cap - k) rfl HO7.out rfl (part_drop (HZ5.out.keep HB7.out) hk hc hA2) (by omega) HB7.out.size ?_)
                intro v8 w8 hown8 hg8
                have HB8 : Hid (Below w5.heap.size w5 w8) := HB7.out.grown hg8 HB7.out.size (fun k hk => (HO7.out.lt k hk).1)
                have hlz := HZ5.out.1
                have hzl : (zs.take k ++ ((⟨g, ls, t⟩ : Hd), la, lc) :: zs.drop k).length = k + 1 + (len - k) := by simp [hlz]; omega
                have hll : ∀ z ∈ zs.take k ++ ((⟨g, ls, t⟩ : Hd), la, lc) :: zs.drop k, LsAt w8 z.2.1 z.1.ls.length z.1.ls := by
                  intro z hz
                  rcases List.mem_append.1 hz with hz | hz
                  · exact (HZ5.out.2.2.1 z (List.mem_of_mem_take hz)).keep HB8.out
                  · rcases List.mem_cons.1 hz with rfl | hz
                    · have := HL5.out.keep HB8.out
                      have hln := HL5.out.1
                      subst hln
                      exact this
                    · exact (HZ5.out.2.2.1 z (List.mem_of_mem_drop hz)).keep HB8.out
                obtain ⟨a8, c8, rfl, hz8⟩ := hz_of hown8 hzl (by omega) hll
                have hroom := owns_room hown8
                have hhs : hs (zs.take k ++ ((⟨g, ls, t⟩ : Hd), la, lc) :: zs.drop k) = l.take k ++ ⟨g, ls, t⟩ :: l.drop k := by
                  rw [hs_append, hs_take, ← HZS.out, ← hs_drop]; rfl
                have hM : (l.take k ++ (⟨g, ls, t⟩ : Hd) :: l.drop k).length = k + 1 + (len - k) := by rw [← hzl, ← hhs, hs_len]
                have HE : Hid (TurnC w r (.returned (.tuple #[.slice a8 (k + 1 + (len - k)) c8, .int .i64 0])) w8) := turn_okc HR.out hM hroom ⟨_, hhs, hz8⟩ (below_keep HB.out (below_keep HB5.out HB8.out HB5.out.size) HB.out.size)
                clear hz8 hzl hhs hll hown8 hg8 hlz hA2 hM
                go_wp2_with fail
                go_ret2
                exact HE.out
              · clear hgo
                go_wp2_with fail
                go_quiet (fail)
                generalize hw5 : wr.drewN nq = w5
                skip
                obtain ⟨zs, hzs, hZ⟩ := HX.out.keep hB.out
                have HZS := Lib.hid hzs
                have hB5 : Below W.heap.size W w5 := by rw [← hw5]; exact below_drewN hB.out _
                have hK5 : Below wr.heap.size wr w5 := by rw [← hw5]; exact below_drewN (Below.refl _ _) _
                have HZ5 := Lib.hid (hZ.keep hK5)
                have HL5 := Lib.hid (HL.out.keep hB5)
                have HB5 := Lib.hid hB5
                obtain ⟨u0, u1, u2⟩ := HC.out w5 hB5
                have HC5 := Lib.hid (fun w' (hb : Below w5.heap.size w5 w') => HC.out w' (below_keep hB5 hb hB5.size))
                clear hzs hZ hB5 hK5 hB hw5 s0 s1 s2
                go_wp2_with (at_builtin; refine append_holds rfl (.tmp 43) (.tmp 46) rfl w5.heap.size _ 0 [] (zs.take k) a k cap rfl (World.ownsRow_nil _ _ _ _) rfl (part_take HZ5.out hk) (by omega) (Nat.le_refl _) ?_)
                intro v6 w6 hown6 hg6
                have HO6 := Lib.hid hown6
                have HB6 : Hid (Below w5.heap.size w5 w6) := (Below.refl _ _).grown hg6 (Nat.le_refl _) (fun k hk => by cases hk)
                obtain ⟨v0, v1, v2⟩ := HC5.out w6 HB6.out
                have hsz6 := HB6.out.size
                clear hown6 hg6 u0 u1 u2
                go_wp2_with (at_builtin; refine append_hold rfl (.tmp 48) (.tmp 50) rfl w5.heap.size w6 _ rfl g la n lc ls HL5.out.1 t _ k (zs.take k) rfl HO6.out rfl (by omega) hsz6 ?_)
                intro v7 w7 hown7 hg7
                have HO7 := Lib.hid hown7
                have HB7 : Hid (Below w5.heap.size w5 w7) := Lines.below_append HB6.out hsz6 HO6.out hg7
                have hA2 := HA2.out
                clear hown7 hg7 v0 v1 v2
                go_wp2_with (at_builtin; refine append_holds rfl (.tmp 52) (.tmp 55) rfl w5.heap.size v7 (k + 1) (zs.take k ++ [(⟨g, ls, t⟩, la, lc)]) (zs.drop k) A2 (len - k) (cap - k) rfl HO7.out rfl (part_drop (HZ5.out.keep HB7.out) hk hc hA2) (by omega) HB7.out.size ?_)
                intro v8 w8 hown8 hg8
                have HB8 : Hid (Below w5.heap.size w5 w8) := HB7.out.grown hg8 HB7.out.size (fun k hk => (HO7.out.lt k hk).1)
                have hlz := HZ5.out.1
                have hzl : (zs.take k ++ ((⟨g, ls, t⟩ : Hd), la, lc) :: zs.drop k).length = k + 1 + (len - k) := by simp [hlz]; omega
                have hll : ∀ z ∈ zs.take k ++ ((⟨g, ls, t⟩ : Hd), la, lc) :: zs.drop k, LsAt w8 z.2.1 z.1.ls.length z.1.ls := by
                  intro z hz
                  rcases List.mem_append.1 hz with hz | hz
                  · exact (HZ5.out.2.2.1 z (List.mem_of_mem_take hz)).keep HB8.out
                  · rcases List.mem_cons.1 hz with rfl | hz
                    · have := HL5.out.keep HB8.out
                      have hln := HL5.out.1
                      subst hln
                      exact this
                    · exact (HZ5.out.2.2.1 z (List.mem_of_mem_drop hz)).keep HB8.out
                obtain ⟨a8, c8, rfl, hz8⟩ := hz_of hown8 hzl (by omega) hll
                have hroom := owns_room hown8
                have hhs : hs (zs.take k ++ ((⟨g, ls, t⟩ : Hd), la, lc) :: zs.drop k) = l.take k ++ ⟨g, ls, t⟩ :: l.drop k := by
                  rw [hs_append, hs_take, ← HZS.out, ← hs_drop]; rfl
                have hM : (l.take k ++ (⟨g, ls, t⟩ : Hd) :: l.drop k).length = k + 1 + (len - k) := by rw [← hzl, ← hhs, hs_len]
                have HE : Hid (TurnC w r (.returned (.tuple #[.slice a8 (k + 1 + (len - k)) c8, .int .i64 0])) w8) := turn_okc HR.out hM hroom ⟨_, hhs, hz8⟩ (below_keep HB.out (below_keep HB5.out HB8.out HB5.out.size) HB.out.size)
                clear hz8 hzl hhs hll hown8 hg8 hlz hA2 hM
                go_wp2_with fail
                go_ret2
                exact HE.out
    | false =>
      have HR : Hid (r = ([], 1)) := by show r = _; rw [← hr]; unfold putH; rw [if_pos h1, h2, if_neg (by decide)]
      have H2 := Lib.hid h2
      clear hr h1 h2
      go_enter Tryz.func104, Tryz.ntmps104
      go_wp2_with fail
      rw [show w.alloc (.cells #[.int .i64 g, .slice la n lc, .int .i64 t] 69) = W from HW.out]
      refine C1.out.mono ?_
      rintro e w1 ⟨rfl, hb1⟩
      have HB1 := Lib.hid hb1
      obtain ⟨q0, q1, q2⟩ := HC.out w1 hb1
      have C2 := Lib.hid (rone_is g t la n lc ls false H2.out w1 (HL.out.keep hb1) HZ2.out)
      clear hb1
      go_wp2_with fail
      refine C2.out.mono ?_
      rintro e w2 ⟨rfl, hb2⟩
      have HE := Lib.hid (turn_errc (r := r) HR.out (below_keep HB.out (below_keep HB1.out hb2 HB1.out.size) HB.out.size))
      clear hb2
      go_wp2_with fail
      go_ret2
      exact HE.out
  · have C1 := Lib.hid (rfit_is a len cap l false (by simpa using h1) W HX.out HZ.out)
    have HR : Hid (r = ([], 12)) := by show r = _; rw [← hr]; unfold putH; rw [if_neg h1]
    clear hr h1
    go_enter Tryz.func104, Tryz.ntmps104
    go_wp2_with fail
    rw [show w.alloc (.cells #[.int .i64 g, .slice la n lc, .int .i64 t] 69) = W from HW.out]
    refine C1.out.mono ?_
    rintro e w1 ⟨rfl, hb1⟩
    have HE := Lib.hid (turn_errc (r := r) HR.out (below_keep HB.out hb1 HB.out.size))
    clear hb1
    go_wp2_with fail
    go_ret2
    exact HE.out
set_option maxHeartbeats 2000000 in
theorem rdropc_any (a : Option Addr) (len cap : Nat) (l : List Hd) (g0 : Int) (w : World) (h : HsAt w a len l) (hz : SzH l) (hn : len ≤ 1000000) :
    Calls Tryz.prog 69 #[.slice a len cap, .int .i64 g0] w (TurnC w (dropH l g0)) := by
  obtain ⟨r, hr⟩ : ∃ r, dropH l g0 = r := ⟨_, rfl⟩
  rw [hr]
  have hle := h.le
  have HX := Lib.hid h
  have HZ := Lib.hid hz
  clear h hz
  by_cases h1 : fitH l = true
  · have C1 := Lib.hid (rfit_is a len cap l true h1 w HX.out HZ.out)
    cases h3 : (findH g0 l).isSome with
    | true =>
      have HR : Hid (r = (less g0 l, 0)) := by show r = _; rw [← hr]; unfold dropH; rw [if_pos h1, if_pos h3]
      have H3 := Lib.hid h3
      clear hr h1 h3
      go_enter Tryz.func69, Tryz.ntmps69
      go_wp2_with fail
      refine C1.out.mono ?_
      rintro e w1 ⟨rfl, hb1⟩
      have HB1 := Lib.hid hb1
      have C3 := Lib.hid (rfind_b a len cap l g0 true H3.out w1 (HX.out.keep hb1))
      clear hb1
      go_wp2_with fail
      refine C3.out.mono ?_
      rintro e w3 ⟨g', t', a', n', c', rfl, hb3⟩
      have HB3 : Hid (Below w.heap.size w (w3.alloc (.cells #[.int .i64 g', .slice a' n' c', .int .i64 t'] 69))) := below_keep HB1.out (hb3.trans ((box_below w3 g' a' n' c' t').mono hb3.size)) HB1.out.size
      clear hb3 C1 C3
      go_wp2_with fail
      generalize w3.alloc (.cells #[.int .i64 g', .slice a' n' c', .int .i64 t'] 69) = w4 at *
      go_loopw [8, 9] (fun v i wr => ∃ (k : Nat) (ys : List Hz), k ≤ len ∧ i = .int .i64 (k : Int) ∧ ys.length ≤ k ∧ Hid (hs ys ++ less g0 (l.drop k) = less g0 l) ∧ Hid (wr.ownsRow w4.heap.size 69 3 v ys.length (hcells ys)) ∧ Hid (∀ z ∈ ys, LsAt w z.2.1 z.1.ls.length z.1.ls) ∧ Hid (Below w.heap.size w wr) ∧ Hid (w4.heap.size ≤ wr.heap.size)) (fun _ i _ => len - (intOf i).toNat)
      case atStart => exact ⟨0, [], Nat.zero_le _, rfl, Nat.zero_le _, rfl, World.ownsRow_nil _ _ _ _, (fun z hz => by cases hz), HB3, Nat.le_refl _⟩
      case round =>
        obtain ⟨k, ys, hk, rfl, hyk, hY, hO, hL, hB, hS⟩ := hrel
        by_cases hlk : k < len
        · have hkx : k < l.length := by rw [HX.out.len]; exact hlk
          obtain ⟨b1, o1, g, la, lc, ls, t, rfl, g1, hp, hc1⟩ := HX.out.at hlk
          obtain ⟨d1, d2, d3, _⟩ := hc1 wr hB.out
          have hLz := (hc1 w (Below.refl _ _)).2.2.2
          obtain ⟨n, hn2⟩ : ∃ n, ls.length = n := ⟨_, rfl⟩
          rw [hn2] at d2
          have HN2 := Lib.hid hn2
          have hld := less_drop g0 hkx hp
          by_cases heq : g = g0
          · have HY : Hid (hs ys ++ less g0 (l.drop (k + 1)) = less g0 l) := by
              show _ = _
              rw [← hY.out, hld]
              simp [heq]
            have hne : (g != g0) = false := by simpa using heq
            clear hc1 hkx hp hn2 hld heq hLz hY
            go_wp2_with fail
            go_roundw
            case rel => exact ⟨k + 1, ys, by omega, by go_num, by omega, HY, hO, hL, hB, hS⟩
            case measure => simp [intOf]; omega
          · have HY : Hid (hs (ys ++ [(⟨g, ls, t⟩, la, lc)]) ++ less g0 (l.drop (k + 1)) = less g0 l) := by
              show _ = _
              rw [← hY.out, hld, hs_append]
              have hx : ¬ (⟨g, ls, t⟩ : Hd).saga = g0 := heq
              rw [if_neg hx, List.append_assoc]
              rfl
            have HL2 : Hid (∀ z ∈ ys ++ [((⟨g, ls, t⟩ : Hd), la, lc)], LsAt w z.2.1 z.1.ls.length z.1.ls) := by
              intro z hz
              rcases List.mem_append.1 hz with hz | hz
              · exact hL.out z hz
              · rw [List.mem_singleton.1 hz]; exact hLz
            have hne : (g != g0) = true := by simpa using heq
            have hsz := Nat.le_trans HB3.out.size hS.out
            have hsz2 := hS.out
            clear hc1 hkx hp hn2 hld heq hLz hY
            go_wp2_with (at_builtin; refine append_hold rfl (.tmp 34) (.tmp 39) rfl w4.heap.size wr _ rfl g la n lc ls HN2.out t _ ys.length ys rfl hO.out rfl (by omega) hsz2 ?_)
            intro v' w5 hO5 hg5
            have HO5 : Hid (w5.ownsRow w4.heap.size 69 3 v' (ys ++ [((⟨g, ls, t⟩ : Hd), la, lc)]).length (hcells (ys ++ [(⟨g, ls, t⟩, la, lc)]))) := by
              show w5.ownsRow _ _ _ _ _ _
              rw [List.length_append]; exact hO5
            have HB5 : Hid (Below w.heap.size w w5) := (hB.out.alloc hB.out.size _).grown hg5 (by simp; omega) (fun k hk => Nat.le_trans HB3.out.size (hO.out.lt k hk).1)
            have HS5 : Hid (w4.heap.size ≤ w5.heap.size) := by
              have := hg5.size
              rw [World.size_alloc] at this
              show _ ≤ _
              omega
            clear hO5 hg5
            go_wp2_with fail
            go_roundw
            case rel => exact ⟨k + 1, ys ++ [(⟨g, ls, t⟩, la, lc)], by omega, by go_num, by simp; omega, HY, HO5, HL2, HB5, HS5⟩
            case measure => simp [intOf]; omega
        · obtain rfl : k = len := by omega
          have hyl : hs ys = less g0 l := by
            have := hY.out
            rw [List.drop_eq_nil_of_le (by rw [HX.out.len]; exact Nat.le_refl _)] at this
            simpa [less] using this
          obtain ⟨a', c', rfl, hz⟩ := hz_of hO.out rfl (by omega) (fun z hz => (hL.out z hz).keep hB.out)
          have hroom := owns_room hO.out
          have hM : (less g0 l).length = ys.length := by rw [← hyl, hs_len]
          have HE : Hid (TurnC w r (.returned (.tuple #[.slice a' ys.length c', .int .i64 0])) wr) := turn_okc HR.out hM hroom ⟨ys, hyl, hz⟩ hB.out
          clear hyl hz hM
          go_wp2_with fail
          go_ret2
          exact HE.out
    | false =>
      have HR : Hid (r = ([], 2)) := by show r = _; rw [← hr]; unfold dropH; rw [if_pos h1]; show (if (findH g0 l).isSome = true then _ else _) = _; rw [h3, if_neg (by decide)]
      have H3 := Lib.hid h3
      clear hr h1 h3
      go_enter Tryz.func69, Tryz.ntmps69
      go_wp2_with fail
      refine C1.out.mono ?_
      rintro e w1 ⟨rfl, hb1⟩
      have HB1 := Lib.hid hb1
      have C3 := Lib.hid (rfind_b a len cap l g0 false H3.out w1 (HX.out.keep hb1))
      clear hb1
      go_wp2_with fail
      refine C3.out.mono ?_
      rintro e w3 ⟨g', t', a', n', c', rfl, hb3⟩
      have HE := Lib.hid (turn_errc (r := r) HR.out (below_keep HB1.out (hb3.trans ((box_below w3 g' a' n' c' t').mono hb3.size)) HB1.out.size))
      clear hb3
      go_wp2_with fail
      go_ret2
      exact HE.out
  · have C1 := Lib.hid (rfit_is a len cap l false (by simpa using h1) w HX.out HZ.out)
    have HR : Hid (r = ([], 12)) := by show r = _; rw [← hr]; unfold dropH; rw [if_neg h1]
    clear hr h1
    go_enter Tryz.func69, Tryz.ntmps69
    go_wp2_with fail
    refine C1.out.mono ?_
    rintro e w1 ⟨rfl, hb1⟩
    have HE := Lib.hid (turn_errc (r := r) HR.out hb1)
    clear hb1
    go_wp2_with fail
    go_ret2
    exact HE.out
end Go.Proofs.YtjclkiabgemfpaaGreat.Holds
