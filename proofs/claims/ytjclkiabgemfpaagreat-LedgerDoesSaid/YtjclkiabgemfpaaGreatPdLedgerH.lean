/-
  What stands while a call of ledger runs: its book, boxed, and its result's cells; the contracts of count, Restock and Adjust: any books; what was there stays as it was.
-/
import Derived.Test.YtjclkiabgemfpaaGreatPdLedgerG
import Derived.Deep.RegionHeld3
set_option linter.unusedVariables false
set_option maxRecDepth 4000
namespace Go.Proofs.YtjclkiabgemfpaaGreat.Ledger
open Go.RowKit LinesP HoldsP LedgerP
open StockP (Sk sk0 fitS Fit fitS_iff restockV adjustV nmS)
open Go.Proofs.YtjclkiabgemfpaaGreat.Lines (LsAt Sz SzM ret_bool ret_int below_keep below_drewN owns_form owns_cell owns_below)
open Go.Proofs.YtjclkiabgemfpaaGreat.Holds (HsAt SzH hmf MadeP)

abbrev At2 (w : World) (b : Nat) (v0 v1 : Value) : Prop := w.heap[b]? = some (.cells #[v0, v1] 33 (0, 0))
theorem cells2 {w : World} {v0 v1 : Value} {b : Nat} (h : At2 w b v0 v1) : w.cell? ⟨b, 0, none⟩ = some v0 ∧ w.cell? ⟨b, 1, none⟩ = some v1 := by
  refine ⟨?_, ?_⟩ <;> (rw [cell_of_heap h]; rfl)
theorem free2 {w : World} {v0 v1 : Value} {b : Nat} (h : At2 w b v0 v1) : w.frozen? ⟨b, 0, none⟩ = false ∧ w.frozen? ⟨b, 1, none⟩ = false := ⟨frozen_of_heap h, frozen_of_heap h⟩
abbrev put2 (w : World) (k : Nat) (v0 v1 : Value) : World := (w.setCell ⟨k, 0, none⟩ v0).setCell ⟨k, 1, none⟩ v1
theorem heap_put2 {w : World} {k : Nat} {x0 x1 : Value} (h : At2 w k x0 x1) (v0 v1 : Value) : At2 (put2 w k v0 v1) k v0 v1 := by
  have h1 := Lib.heap_setCell_same (i := 0) h v0
  exact Lib.heap_setCell_same (i := 1) h1 v1
theorem size_put2 (w : World) (k : Nat) (v0 v1 : Value) : (put2 w k v0 v1).heap.size = w.heap.size := by simp [put2]
theorem put2_other {w : World} {k : Nat} (v0 v1 : Value) {j : Nat} (h : j ≠ k) : (put2 w k v0 v1).heap[j]? = w.heap[j]? := by
  unfold put2
  rw [heap_setCell_other _ _ _ _ (by exact h), heap_setCell_other _ _ _ _ (by exact h)]
theorem below_put2 {B : Nat} {w0 w : World} {k : Nat} (h : Below B w0 w) (hk : B ≤ k) (v0 v1 : Value) : Below B w0 (put2 w k v0 v1) := (h.setCell (p := ⟨k, 0, none⟩) hk _).setCell (p := ⟨k, 1, none⟩) hk _
theorem results_book {fn : Func} {j k : Nat} (h : fn.results = #[.cell j 33, .tmp k]) (tmps : Array Value) (w : World) (b : Nat) (x0 x1 : Value) (hp : tmps.getD j undef = .pointer (some ⟨b, 0, none⟩))
    (c : At2 w b x0 x1) : (results fn tmps).run Tryz.prog w = .ok (.tuple #[.agg #[x0, x1], tmps.getD k undef]) w := by
  have hp' : tmps[j]?.getD undef = .pointer (some ⟨b, 0, none⟩) := by rw [← hp]; simp
  obtain ⟨c0, c1⟩ := cells2 c
  simp only [results, h]
  go_simp
structure FB (h : Nat) (w w' : World) (v0 v1 : Value) (r : Nat) (r0 r1 : Value) : Prop where
  bel : Below w.heap.size w w'
  box : At2 w' h v0 v1
  res : At2 w' r r0 r1
theorem FB.keep {h r : Nat} {w w' w2 : World} {v0 v1 r0 r1 : Value} (k : FB h w w' v0 v1 r r0 r1) (hb : Below w'.heap.size w' w2) : FB h w w2 v0 v1 r r0 r1 :=
  ⟨k.bel.trans (hb.mono k.bel.size), (hb.block h (heap_lt k.box)).trans k.box, (hb.block r (heap_lt k.res)).trans k.res⟩
theorem fb_new (w : World) (v0 v1 r0 r1 : Value) : FB w.heap.size w ((w.alloc (.cells #[v0, v1] 33)).alloc (.cells #[r0, r1] 33)) v0 v1 (w.heap.size + 1) r0 r1 := by
  have h := heap_alloc_new (w.alloc (.cells #[v0, v1] 33)) (.cells #[r0, r1] 33)
  rw [World.size_alloc] at h
  exact ⟨((Below.refl _ w).alloc (Nat.le_refl _) _).alloc (by rw [World.size_alloc]; omega) _, (heap_alloc_old _ _ (by rw [World.size_alloc]; omega)).trans (heap_alloc_new w _), h⟩
def BookR (w : World) (r : Bk × Int) (e : Ending) (w' : World) : Prop :=
  ∃ a n c a2 n2 c2, e = .returned (.tuple #[.agg #[.slice a n c, .slice a2 n2 c2], .int .i64 r.2]) ∧ BkAt w' a n a2 n2 c2 r.1 ∧ Below w.heap.size w w'
theorem book_err {w w' : World} {r : Bk × Int} {er : Int} (hr : r = (bk0, er)) (hb : Below w.heap.size w w') : BookR w r (.returned (.tuple #[.agg #[.slice none 0 0, .slice none 0 0], .int .i64 er])) w' := by
  subst hr
  exact ⟨none, 0, 0, none, 0, 0, rfl, ⟨SkAt.nil _ _, HsAt.nil _ _, Nat.le_refl _⟩, hb⟩
theorem book_ok {w w' : World} {r : Bk × Int} {b : Bk} {a : Option Addr} {n c : Nat} {a2 : Option Addr} {n2 c2 : Nat} (hr : r = (b, 0)) (h : BkAt w' a n a2 n2 c2 b) (hb : Below w.heap.size w w') : BookR w r (.returned (.tuple #[.agg #[.slice a n c, .slice a2 n2 c2], .int .i64 0])) w' := by
  subst hr
  exact ⟨a, n, c, a2, n2, c2, rfl, h, hb⟩

theorem At2.lt {w : World} {b : Nat} {v0 v1 : Value} (h : At2 w b v0 v1) : b < w.heap.size := heap_lt h
theorem sk_off {w : World} {a : Option Addr} {n : Nat} {l : List Sk} (h : SkAt w a n l) {r : Nat} {p0 p1 : Option Addr} {m0 m1 d0 d1 : Nat} (hr : At2 w r (.slice p0 m0 d0) (.slice p1 m1 d1)) : n = 0 ∨ ∃ b off, a = some ⟨b, off, none⟩ ∧ b ≠ r := by
  rcases h.2.2 with h0 | ⟨b, off, e, hlt, hc⟩
  · exact .inl h0
  · by_cases h0 : n = 0
    · exact .inl h0
    · refine .inr ⟨b, off, e, fun k => ?_⟩
      subst k
      have h1 := (hc 0 (by omega)).1
      rw [cell_of_heap hr] at h1
      rcases Nat.lt_or_ge (off + 0 * 6) 2 with k | k
      · rcases (by omega : off + 0 * 6 = 0 ∨ off + 0 * 6 = 1) with k | k <;> (rw [k] at h1; cases h1)
      · rw [Array.getElem?_eq_none (by simpa using k)] at h1; cases h1
theorem sk_same {w w' : World} {a : Option Addr} {n : Nat} {l : List Sk} (h : SkAt w a n l) {r : Nat} (ho : n = 0 ∨ ∃ b off, a = some ⟨b, off, none⟩ ∧ b ≠ r) (hs : w.heap.size ≤ w'.heap.size) (hb : ∀ j, j ≠ r → w'.heap[j]? = w.heap[j]?) : SkAt w' a n l := by
  refine ⟨h.1, h.2.1, ?_⟩
  rcases h.2.2 with h0 | ⟨b, off, e, hlt, hc⟩
  · exact .inl h0
  · rcases ho with h0 | ⟨b', off', e', hne⟩
    · exact .inl h0
    · rw [e] at e'; cases e'
      refine .inr ⟨b, off, e, by omega, fun i hi => ?_⟩
      have := hc i hi
      unfold Row6 at this ⊢
      simp only [World.cell?, hb b hne] at this ⊢
      exact this
theorem ls_off {w : World} {a : Option Addr} {n : Nat} {l : List Ln} (h : LsAt w a n l) {r : Nat} {p0 p1 : Option Addr} {m0 m1 d0 d1 : Nat} (hr : At2 w r (.slice p0 m0 d0) (.slice p1 m1 d1)) : ∀ ad, a = some ad → 0 < n → ad.block ≠ r := by
  intro ad e h0 k
  rcases h.2.2 with h1 | ⟨b, off, e2, hlt, hc⟩
  · omega
  · rw [e] at e2; cases e2
    simp only at k
    subst k
    have h1 := (hc 0 h0).1
    rw [cell_of_heap hr] at h1
    rcases Nat.lt_or_ge (off + 0 * 2) 2 with k | k
    · rcases (by omega : off + 0 * 2 = 0 ∨ off + 0 * 2 = 1) with k | k <;> (rw [k] at h1; cases h1)
    · rw [Array.getElem?_eq_none (by simpa using k)] at h1; cases h1
theorem hs_same {w w' : World} {a : Option Addr} {n : Nat} {l : List Hd} (h : HsAt w a n l) {r : Nat} {p0 p1 : Option Addr} {m0 m1 d0 d1 : Nat} (hr : At2 w r (.slice p0 m0 d0) (.slice p1 m1 d1)) (hs : w.heap.size ≤ w'.heap.size) (hb : ∀ j, j ≠ r → w'.heap[j]? = w.heap[j]?) : HsAt w' a n l := by
  obtain ⟨zs, e, k1, k2, k3, k4⟩ := h
  refine ⟨zs, e, k1, k2, fun z hz => ?_, ?_⟩
  · refine Holds.ls_keepB (k3 z hz) hs fun j ad e hj h0 => hb j ?_
    have := ls_off (k3 z hz) hr ad e h0
    rw [← hj]; exact this
  · rcases k4 with h0 | ⟨b, off, e2, hlt, hc⟩
    · exact .inl h0
    · by_cases h0 : n = 0
      · exact .inl h0
      · have hne : b ≠ r := by
          intro k
          subst k
          have h1 := (hc 0 (by omega)).1
          rw [cell_of_heap hr] at h1
          rcases Nat.lt_or_ge (off + 0 * 3) 2 with k | k
          · rcases (by omega : off + 0 * 3 = 0 ∨ off + 0 * 3 = 1) with k | k <;> (rw [k] at h1; cases h1)
          · rw [Array.getElem?_eq_none (by simpa using k)] at h1; cases h1
        refine .inr ⟨b, off, e2, by omega, fun i hi => ?_⟩
        have := hc i hi
        simp only [World.cell?, hb b hne] at this ⊢
        exact this
theorem bk_same {w : World} {a : Option Addr} {n : Nat} {a2 : Option Addr} {n2 c2 : Nat} {b : Bk} (h : BkAt w a n a2 n2 c2 b) {r : Nat} (hr : At2 w r (.slice none 0 0) (.slice none 0 0)) (v0 v1 : Value) : BkAt (put2 w r v0 v1) a n a2 n2 c2 b :=
  ⟨sk_same h.sk (sk_off h.sk hr) (by rw [size_put2]; exact Nat.le_refl _) (fun j hj => put2_other v0 v1 hj), hs_same h.hd hr (by rw [size_put2]; exact Nat.le_refl _) (fun j hj => put2_other v0 v1 hj), h.room⟩

def countB (b : Bk) (p : Nat) (y : Sk × Int) : Bk × Int := if y.2 = 0 then (⟨b.sk.set p y.1, b.hd⟩, 0) else (bk0, y.2)
set_option maxHeartbeats 2000000 in
theorem count_any (a : Option Addr) (len cap : Nat) (a2 : Option Addr) (len2 cap2 : Nat) (b : Bk) (p : Nat) (n : Int) (g : Nat) (eg : ∀ args w, (callFunc g args).run Tryz.prog w = .ok (.enter g args) w) (y : Sk) (er : Int) (w : World)
    (h : BkAt w a len a2 len2 cap2 b) (hz : SzB b) (hp : p < len)
    (hg : ∀ x, b.sk.getD p sk0 = x → ∀ w, Calls Tryz.prog g #[skV x, .int .i64 n] w fun z w' => z = .returned (.tuple #[skV y, .int .i64 er]) ∧ Below w.heap.size w w') :
    Calls Tryz.prog 49 #[.agg #[.slice a len cap, .slice a2 len2 cap2], .int .i64 (p : Int), .int .i64 n, .func (.func g) #[] #[]] w (BookR w (countB b p (y, er))) := by
  obtain ⟨b1, o1, s, x0, x1, x2, x3, x4, rfl, g1, hx, hc1⟩ := h.sk.at hp
  have HG := Lib.hid (hg _ hx)
  have HC1 := Lib.hid hc1
  have hlen := h.sk.2.1
  obtain ⟨ys, y0, y1, y2, y3, y4⟩ := y
  have HRP := Lib.hid (fun (w' : World) (hb : Below w.heap.size w w') => replace_any (some ⟨b1, o1, none⟩) len cap b.sk p ys y0 y1 y2 y3 y4 w' (h.sk.keep hb) hp (by rw [← h.sk.1]; exact hz.ln))
  have HCP := Lib.hid (fun (w' : World) (hb : Below w.heap.size w w') => copies_any a2 len2 cap2 b.hd w' (h.hd.keep hb) (by rw [← h.hd.len]; exact hz.lh) hz.ls)
  have HHL := Lib.hid h.hd.len
  unfold skV at HG
  dsimp only at HG
  clear hg hx hc1 h g1
  have HF := Lib.hid (fb_new w (.slice (some ⟨b1, o1, none⟩) len cap) (.slice a2 len2 cap2) (.slice none 0 0) (.slice none 0 0))
  obtain ⟨d0, d1, d2, d3, d4, d5⟩ := HC1.out _ HF.out.bel
  go_enter Tryz.func49, Tryz.ntmps49
  go_wp2_with fail
  refine (HG.out _).mono ?_
  rintro e w1 ⟨rfl, hb1⟩
  have HF1 := Lib.hid (HF.out.keep hb1)
  clear d0 d1 d2 d3 d4 d5 hb1
  by_cases her : er = 0
  · subst her
    have HR : Hid (countB b p (⟨ys, y0, y1, y2, y3, y4⟩, 0) = (⟨b.sk.set p ⟨ys, y0, y1, y2, y3, y4⟩, b.hd⟩, 0)) := by show countB b p (⟨ys, y0, y1, y2, y3, y4⟩, 0) = _; unfold countB; rw [if_pos rfl]
    have hba := (Below.refl w1.heap.size w1).alloc (Nat.le_refl _) (.cells #[.string ys, .int .i64 y0, .int .i64 y1, .int .i64 y2, .int .i64 y3, .int .i64 y4] 41)
    have h6 := HF1.out.keep hba
    have hx6 := at6_new w1 (.string ys) (.int .i64 y0) (.int .i64 y1) (.int .i64 y2) (.int .i64 y3) (.int .i64 y4)
    obtain ⟨w2, hw2⟩ : ∃ w2, w1.alloc (.cells #[.string ys, .int .i64 y0, .int .i64 y1, .int .i64 y2, .int .i64 y3, .int .i64 y4] 41) = w2 := ⟨_, rfl⟩
    rw [hw2] at h6 hx6
    have HW2 := Lib.hid hw2
    have H6 := Lib.hid h6
    have HX6 : Hid (At6 w2 w1.heap.size (.string ys) (.int .i64 y0) (.int .i64 y1) (.int .i64 y2) (.int .i64 y3) (.int .i64 y4)) := hx6
    clear hw2 hx6 h6 hba
    go_wp2_with fail
    rw [show w1.alloc (.cells #[.string ys, .int .i64 y0, .int .i64 y1, .int .i64 y2, .int .i64 y3, .int .i64 y4] 41) = w2 from HW2.out]
    obtain ⟨bx, hbx⟩ : ∃ bx, w1.heap.size = bx := ⟨_, rfl⟩
    rw [hbx] at HX6 ⊢
    have HNB : Hid (bx ≠ w.heap.size + 1) := by show bx ≠ w.heap.size + 1; have := heap_lt HF1.out.res; omega
    clear hbx
    have HR4 := Lib.hid (fun w' hb => HRP.out w' (Lines.below_keep H6.out.bel hb H6.out.bel.size))
    have HC4 := Lib.hid (fun w' hb => HCP.out w' (Lines.below_keep H6.out.bel hb H6.out.bel.size))
    have b0 : Below w2.heap.size w2 w2.drew := (Below.refl _ w2).drew
    have K : Hid (∀ w', Below w2.heap.size w2 w' → (w'.cell? ⟨w.heap.size, 0, none⟩ = some (.slice (some ⟨b1, o1, none⟩) len cap) ∧ w'.cell? ⟨w.heap.size, 1, none⟩ = some (.slice a2 len2 cap2)) ∧ (w'.cell? ⟨bx, 0, none⟩ = some (.string ys) ∧ w'.cell? ⟨bx, 1, none⟩ = some (.int .i64 y0) ∧ w'.cell? ⟨bx, 2, none⟩ = some (.int .i64 y1) ∧ w'.cell? ⟨bx, 3, none⟩ = some (.int .i64 y2) ∧ w'.cell? ⟨bx, 4, none⟩ = some (.int .i64 y3) ∧ w'.cell? ⟨bx, 5, none⟩ = some (.int .i64 y4))) :=
      fun w' hb => ⟨cells2 (H6.out.keep hb).box, cells6 (HX6.out.keep hb)⟩
    have K6 : Hid (∀ w' v0 v1, Below w2.heap.size w2 w' → ((put2 w' (w.heap.size + 1) v0 v1).cell? ⟨w.heap.size, 0, none⟩ = some (.slice (some ⟨b1, o1, none⟩) len cap) ∧ (put2 w' (w.heap.size + 1) v0 v1).cell? ⟨w.heap.size, 1, none⟩ = some (.slice a2 len2 cap2)) ∧ ((put2 w' (w.heap.size + 1) v0 v1).cell? ⟨bx, 0, none⟩ = some (.string ys) ∧ (put2 w' (w.heap.size + 1) v0 v1).cell? ⟨bx, 1, none⟩ = some (.int .i64 y0) ∧ (put2 w' (w.heap.size + 1) v0 v1).cell? ⟨bx, 2, none⟩ = some (.int .i64 y1) ∧ (put2 w' (w.heap.size + 1) v0 v1).cell? ⟨bx, 3, none⟩ = some (.int .i64 y2) ∧ (put2 w' (w.heap.size + 1) v0 v1).cell? ⟨bx, 4, none⟩ = some (.int .i64 y3) ∧ (put2 w' (w.heap.size + 1) v0 v1).cell? ⟨bx, 5, none⟩ = some (.int .i64 y4))) :=
      fun w' v0 v1 hb => ⟨cells2 ((put2_other v0 v1 (by omega)).trans (H6.out.keep hb).box), cells6 ((put2_other v0 v1 HNB.out).trans (HX6.out.keep hb))⟩
    have k0 := K.out _ b0
    go_region_held3 (fun w' => (w'.cell? ⟨w.heap.size, 0, none⟩ = some (.slice (some ⟨b1, o1, none⟩) len cap) ∧ w'.cell? ⟨w.heap.size, 1, none⟩ = some (.slice a2 len2 cap2)) ∧ (w'.cell? ⟨bx, 0, none⟩ = some (.string ys) ∧ w'.cell? ⟨bx, 1, none⟩ = some (.int .i64 y0) ∧ w'.cell? ⟨bx, 2, none⟩ = some (.int .i64 y1) ∧ w'.cell? ⟨bx, 3, none⟩ = some (.int .i64 y2) ∧ w'.cell? ⟨bx, 4, none⟩ = some (.int .i64 y3) ∧ w'.cell? ⟨bx, 5, none⟩ = some (.int .i64 y4)))
      (first | with_reducible exact k0 | with_reducible exact k4 | with_reducible exact k5 | with_reducible exact k6)
      (first
        | (go_at_call 58; (with_reducible refine (HC4.out _ b4).mono ?_); rintro e w5 ⟨a5, c5, rfl, hc5, hs5, hb5⟩; have b5 := Lines.below_keep b4 hb5 b4.size; have k5 := K.out _ b5; have k6 := K6.out _ (.slice a4 len c4) (.slice a5 b.hd.length c5) b5; have hs4' := hs4.keep hb5; obtain ⟨z0, z1⟩ := cells2 (H6.out.keep b5).res; obtain ⟨f0, f1⟩ := free2 (H6.out.keep b5).res)
        | (go_at_call 88; (with_reducible refine (HR4.out _ b0).mono ?_); rintro e w4 ⟨a4, c4, rfl, hs4, hb4⟩; have b4 := Lines.below_keep b0 hb4 b0.size; have k4 := K.out _ b4))
    have HR5 := H6.out.keep b5
    have hbk : BkAt w5 a4 len a5 b.hd.length c5 ⟨b.sk.set p ⟨ys, y0, y1, y2, y3, y4⟩, b.hd⟩ := ⟨hs4', hs5, hc5⟩
    have HBK := Lib.hid (bk_same hbk HR5.res (.slice a4 len c4) (.slice a5 b.hd.length c5))
    have HRS := Lib.hid (heap_put2 HR5.res (.slice a4 len c4) (.slice a5 b.hd.length c5))
    have HB := Lib.hid (below_put2 HR5.bel (Nat.le_succ _) (.slice a4 len c4) (.slice a5 b.hd.length c5))
    clear hbk hs4' hs5 hs4 hb4 hb5 k0 k4 k5 k6 b0 b4 b5 z0 z1 f0 f1
    go_wp2_with fail
    exact bodyPost_ret (results_book (j := 8) (k := 9) rfl _ _ (w.heap.size + 1) _ _ rfl HRS.out) rfl (book_ok HR.out HBK.out HB.out)
  · have HR : Hid (countB b p (⟨ys, y0, y1, y2, y3, y4⟩, er) = (bk0, er)) := by show countB b p (⟨ys, y0, y1, y2, y3, y4⟩, er) = _; unfold countB; rw [if_neg her]
    have h6 := HF1.out.keep ((Below.refl w1.heap.size w1).alloc (Nat.le_refl _) (.cells #[.string ys, .int .i64 y0, .int .i64 y1, .int .i64 y2, .int .i64 y3, .int .i64 y4] 41))
    have H6 := Lib.hid h6
    obtain ⟨z0, z1⟩ := cells2 h6.res
    obtain ⟨f0, f1⟩ := free2 h6.res
    have hne : (er != 0) = true := by simpa using her
    clear h6 her
    go_wp2_with fail
    have HRS := Lib.hid (heap_put2 H6.out.res (.slice none 0 0) (.slice none 0 0))
    have HB := Lib.hid (below_put2 H6.out.bel (Nat.le_succ _) (.slice none 0 0) (.slice none 0 0))
    exact bodyPost_ret (results_book (j := 8) (k := 9) rfl _ _ (w.heap.size + 1) _ _ rfl HRS.out) rfl (book_err HR.out HB.out)
theorem bk_box {w : World} {a : Option Addr} {n : Nat} {a2 : Option Addr} {n2 c2 : Nat} {b : Bk} (h : BkAt w a n a2 n2 c2 b) {r : Nat} {p0 p1 : Option Addr} {m0 m1 d0 d1 : Nat} (hr : At2 w r (.slice p0 m0 d0) (.slice p1 m1 d1)) (i : Nat) (v : Value) : BkAt (w.setCell ⟨r, i, none⟩ v) a n a2 n2 c2 b :=
  ⟨sk_same h.sk (sk_off h.sk hr) (by simp [World.setCell]) (fun j hj => heap_setCell_other _ _ _ _ (by exact hj)), hs_same h.hd hr (by simp [World.setCell]) (fun j hj => heap_setCell_other _ _ _ _ (by exact hj)), h.room⟩
theorem FB.box0 {h r : Nat} {w w' : World} {v0 v1 r0 r1 : Value} (k : FB h w w' v0 v1 r r0 r1) (hh : w.heap.size ≤ h) (hr : h ≠ r) (v : Value) : FB h w (w'.setCell ⟨h, 0, none⟩ v) v v1 r r0 r1 :=
  ⟨k.bel.setCell (p := ⟨h, 0, none⟩) hh v, Lib.heap_setCell_same (i := 0) k.box v, (heap_setCell_other _ _ _ _ (by exact fun e => hr e.symm)).trans k.res⟩
theorem enters {f : FuncId} {fn : Func} {c : Code} (hf : Tryz.prog.funcs[f]? = some fn) (hname : (fn.name == "runtime.NumGoroutine") = false) (hb : fn.body = some c) (args : Array Value) (w : World) : (callFunc f args).run Tryz.prog w = .ok (.enter f args) w := by
  have h1 : fn.name ≠ "runtime.NumGoroutine" := by simpa using hname
  simp [callFunc, hf, h1, hb, mark]
theorem nm_small {s : ByteArray} (h : nm s = true) : s.size ≤ 300 := by
  have h1 := (NameP.fitV_iff.1 h).2.2.1
  have h2 := NameP.vals_four s.data.toList
  have h3 : s.data.toList.length = s.size := Array.length_toList
  omega
theorem fit_szb {b : Bk} (h : fitB b = true) : SzB b := by
  have k := fitB_iff.1 h
  obtain ⟨h1, h2, h3⟩ := fitH_iff.1 k.hd
  refine ⟨fun x hx => ?_, fun x hx => ?_, fun x hx => ?_, by have := k.len; omega, by omega⟩
  · exact nm_small ((k.each x hx).1.nm)
  · intro z hz
    have hf := fitL_mem (oneH_fit (h2 x hx).1) z hz
    have hq := qty_iff.1 hf.2
    exact ⟨nm_small hf.1, by omega, by omega⟩
  · have hf := oneH_fit (h2 x hx).1
    unfold fitL at hf
    rw [Bool.and_eq_true, decide_eq_true_eq] at hf
    omega
end Go.Proofs.YtjclkiabgemfpaaGreat.Ledger

/-
  The contracts of Restock and Adjust: any books; what was there stays as it was.
-/
set_option linter.unusedVariables false
set_option maxRecDepth 4000
namespace Go.Proofs.YtjclkiabgemfpaaGreat.Ledger
open Go.RowKit LinesP HoldsP LedgerP
open StockP (Sk sk0 fitS Fit fitS_iff restockV adjustV nmS restock_cases adjust_cases)
open Go.Proofs.YtjclkiabgemfpaaGreat.Lines (LsAt Sz SzM ret_bool ret_int below_keep below_drewN owns_form owns_cell owns_below)
open Go.Proofs.YtjclkiabgemfpaaGreat.Holds (HsAt SzH hmf MadeP add_at)

theorem set_posS {y : Sk} : ∀ {l : List Sk}, UpS l → posS y.nm l < l.length → (l.getD (posS y.nm l) sk0).nm = y.nm → l.set (posS y.nm l) y = insS y l
  | [], _, h, _ => by simp at h
  | x :: r, hp, h1, h2 => by
    have hp2 := List.pairwise_cons.1 hp
    rw [posS] at h1 h2 ⊢
    rw [insS]
    by_cases k : lss x.nm y.nm = true
    · rw [if_pos k] at h1 h2 ⊢
      rw [if_neg (lt_ne (lss_lt.1 k)), if_pos k, List.set_cons_succ, set_posS hp2.2 (by simpa using h1) (by simpa using h2)]
    · rw [if_neg k] at h2 ⊢
      rw [if_pos (by simpa using h2)]; rfl
theorem ins_posS {y : Sk} : ∀ {l : List Sk}, UpS l → findS y.nm l = none → insA (posS y.nm l) y l = insS y l
  | [], _, _ => rfl
  | x :: r, hp, h => by
    have hp2 := List.pairwise_cons.1 hp
    have hne : ¬ x.nm = y.nm := findS_none.1 h x List.mem_cons_self
    rw [posS, insS, if_neg hne]
    by_cases k : lss x.nm y.nm = true
    · rw [if_pos k, if_pos k]
      have h2 : findS y.nm r = none := findS_none.2 fun z hz => findS_none.1 h z (List.mem_cons_of_mem _ hz)
      rw [← ins_posS hp2.2 h2]
      rfl
    · rw [if_neg k, if_neg k]; rfl
theorem set_insA {p : Nat} {x y : Sk} {l : List Sk} (h : p ≤ l.length) : (insA p x l).set p y = insA p y l := by
  unfold insA
  rw [List.set_append_right _ _ (by rw [List.length_take]; omega)]
  congr 1
  rw [List.length_take, show p - min p l.length = 0 by omega]; rfl
theorem get_insA {p : Nat} {x : Sk} {l : List Sk} (h : p ≤ l.length) : (insA p x l).getD p sk0 = x := by
  unfold insA
  rw [List.getD_eq_getElem?_getD, List.getElem?_append_right (by rw [List.length_take]; omega), List.length_take, show p - min p l.length = 0 by omega]; rfl
theorem restock_nm (x : Sk) (n : Int) (h : (restockV x n).2 = 0) : (restockV x n).1.nm = x.nm := by
  rcases restock_cases x n with ⟨e, he, hne, _⟩ | ⟨he, _⟩
  · rw [he] at h; exact absurd h hne
  · rw [he]
theorem adjust_nm (x : Sk) (n : Int) (h : (adjustV x n).2 = 0) : (adjustV x n).1.nm = x.nm := by
  rcases adjust_cases x n with ⟨e, he, hne, _⟩ | ⟨he, _⟩
  · rw [he] at h; exact absurd h hne
  · rw [he]
theorem count_in {b : Bk} {s : ByteArray} {x : Sk} {r : Sk × Int} (hu : UpS b.sk) (hf : findS s b.sk = some x) (hn : r.2 = 0 → r.1.nm = x.nm) : countB b (posS s b.sk) r = putIn b r := by
  unfold countB putIn
  obtain ⟨h1, h2, h3⟩ := placeS_found hu hf
  by_cases h : r.2 = 0
  · rw [if_pos h, if_pos h]
    have e : s = r.1.nm := by rw [hn h]; exact h3.symm
    subst e
    rw [set_posS hu h1 (by rw [h2, h3])]
  · rw [if_neg h, if_neg h]
theorem count_new {b : Bk} {s : ByteArray} {r : Sk × Int} (x : Sk) (hu : UpS b.sk) (hf : findS s b.sk = none) (hn : r.2 = 0 → r.1.nm = s) : countB ⟨insA (posS s b.sk) x b.sk, b.hd⟩ (posS s b.sk) r = putIn b r := by
  unfold countB putIn
  by_cases h : r.2 = 0
  · rw [if_pos h, if_pos h]
    have e := hn h
    subst e
    simp only
    rw [set_insA (posS_le _ _), ins_posS hu hf]
  · rw [if_neg h, if_neg h]
theorem place_is (a : Option Addr) (len cap : Nat) (l : List Sk) (s : ByteArray) (p : Nat) (v : Bool) (hp : posS s l = p) (hv : (findS s l).isSome = v) (w : World) (h : SkAt w a len l) (hf : UpS l) :
    Calls Tryz.prog 46 #[.slice a len cap, .string s] w fun e w' => e = .returned (.tuple #[.int .i64 (p : Int), .bool v]) ∧ Below w.heap.size w w' := by
  have := place_any a len cap l s w h hf
  rw [hp, hv] at this
  exact this

set_option maxHeartbeats 2000000 in
theorem adjust_any (a : Option Addr) (len cap : Nat) (a2 : Option Addr) (len2 cap2 : Nat) (b : Bk) (s : ByteArray) (n : Int) (w : World) (h : BkAt w a len a2 len2 cap2 b) (hz : SzB b) :
    Calls Tryz.prog 24 #[.agg #[.slice a len cap, .slice a2 len2 cap2], .string s, .int .i64 n] w (BookR w (adjustB b s n)) := by
  have HF := Lib.hid (fb_new w (.slice a len cap) (.slice a2 len2 cap2) (.slice none 0 0) (.slice none 0 0))
  have HZ := Lib.hid hz
  have HX := Lib.hid h
  cases hfit : fitB b with
  | false =>
    have HR : Hid (adjustB b s n = (bk0, 12)) := by show adjustB b s n = _; unfold adjustB; rw [if_neg (by rw [hfit]; simp)]
    go_enter Tryz.func24, Tryz.ntmps24
    go_wp2_with fail
    refine (fit_any a len cap a2 len2 cap2 b false hfit _ (HX.out.keep HF.out.bel) HZ.out).mono ?_
    rintro e w1 ⟨rfl, hb1⟩
    have HF1 := Lib.hid (HF.out.keep hb1)
    clear hb1
    obtain ⟨z0, z1⟩ := cells2 HF1.out.res
    obtain ⟨f0, f1⟩ := free2 HF1.out.res
    go_wp2_with fail
    have HRS := Lib.hid (heap_put2 HF1.out.res (.slice none 0 0) (.slice none 0 0))
    have HB := Lib.hid (below_put2 HF1.out.bel (show w.heap.size ≤ w.heap.size + 1 by omega) (.slice none 0 0) (.slice none 0 0))
    exact bodyPost_ret (results_book (j := 6) (k := 7) rfl _ _ (w.heap.size + 1) _ _ rfl HRS.out) rfl (book_err HR.out HB.out)
  | true =>
    have k := fitB_iff.1 hfit
    have HU := Lib.hid k.up
    have HP := Lib.hid (fun (w' : World) (hb : Below w.heap.size w w') v hv => place_is a len cap b.sk s _ v rfl hv w' (h.sk.keep hb) k.up)
    have hlen := h.sk.1
    cases hfs : findS s b.sk with
    | none =>
      have HR : Hid (adjustB b s n = (bk0, 2)) := by show adjustB b s n = _; unfold adjustB; rw [if_pos hfit, hfs]
      have HP := Lib.hid (fun w' hb => HP.out w' hb false (by rw [hfs]; rfl))
      generalize posS s b.sk = p at HP
      clear hfs hlen k h hz
      go_enter Tryz.func24, Tryz.ntmps24
      go_wp2_with fail
      refine (fit_any a len cap a2 len2 cap2 b true hfit _ (HX.out.keep HF.out.bel) HZ.out).mono ?_
      rintro e w1 ⟨rfl, hb1⟩
      have HF1 := Lib.hid (HF.out.keep hb1)
      clear hb1
      clear hfit
      obtain ⟨q0, q1⟩ := cells2 HF1.out.box
      go_wp2_with fail
      refine (HP.out w1 HF1.out.bel).mono ?_
      rintro e w2 ⟨rfl, hb2⟩
      have HF2 := Lib.hid (HF1.out.keep hb2)
      clear hb2 q0 q1
      obtain ⟨z0, z1⟩ := cells2 HF2.out.res
      obtain ⟨f0, f1⟩ := free2 HF2.out.res
      go_wp2_with fail
      have HRS := Lib.hid (heap_put2 HF2.out.res (.slice none 0 0) (.slice none 0 0))
      have HB := Lib.hid (below_put2 HF2.out.bel (show w.heap.size ≤ w.heap.size + 1 by omega) (.slice none 0 0) (.slice none 0 0))
      exact bodyPost_ret (results_book (j := 6) (k := 7) rfl _ _ (w.heap.size + 1) _ _ rfl HRS.out) rfl (book_err HR.out HB.out)
    | some x =>
      have HP := Lib.hid (fun w' hb => HP.out w' hb true (by rw [hfs]; rfl))
      obtain ⟨h1, h2, h3⟩ := placeS_found k.up hfs
      have hR : adjustB b s n = countB b (posS s b.sk) (adjustV x n) := by
        rw [count_in k.up hfs (adjust_nm x n)]
        unfold adjustB; rw [if_pos hfit, hfs]
      obtain ⟨⟨y, er⟩, hv⟩ : ∃ q, adjustV x n = q := ⟨_, rfl⟩
      rw [hv] at hR
      rw [hR]
      have hxs : x.nm.size ≤ 4398046511104 := Nat.le_trans (hz.sk x (findS_mem hfs).1) (by decide)
      have HC := Lib.hid (fun (w' : World) (hb : Below w.heap.size w w') => count_any a len cap a2 len2 cap2 b (posS s b.sk) n 59 (enters Tryz.func59 (by kernel_rfl) rfl) y er w' (h.keep hb) hz (by rw [← hlen]; exact h1)
        (fun z hz w => by rw [h2] at hz; subst hz; exact sadjust_is x n y er w hxs hv))
      have hpl : posS s b.sk < 9223372036854775807 := by have := hz.ln; omega
      generalize posS s b.sk = p at HP HC hpl ⊢
      generalize countB b p (y, er) = r at HC ⊢
      clear hfs hlen k h hz h1 h2 h3 hR hv hxs
      go_enter Tryz.func24, Tryz.ntmps24
      go_wp2_with fail
      refine (fit_any a len cap a2 len2 cap2 b true hfit _ (HX.out.keep HF.out.bel) HZ.out).mono ?_
      rintro e w1 ⟨rfl, hb1⟩
      have HF1 := Lib.hid (HF.out.keep hb1)
      clear hb1
      clear hfit
      obtain ⟨q0, q1⟩ := cells2 HF1.out.box
      go_wp2_with fail
      refine (HP.out w1 HF1.out.bel).mono ?_
      rintro e w2 ⟨rfl, hb2⟩
      have HF2 := Lib.hid (HF1.out.keep hb2)
      clear hb2 q0 q1
      obtain ⟨q0, q1⟩ := cells2 HF2.out.box
      go_wp2_with fail
      refine (HC.out w2 HF2.out.bel).mono ?_
      rintro e w9 ⟨a9, n9, c9, b9, m9, d9, rfl, hbk, hb9⟩
      have HF9 := Lib.hid (HF2.out.keep hb9)
      obtain ⟨z0, z1⟩ := cells2 HF9.out.res
      obtain ⟨f0, f1⟩ := free2 HF9.out.res
      have HBK := Lib.hid (bk_same hbk HF9.out.res (.slice a9 n9 c9) (.slice b9 m9 d9))
      clear hbk hb9 q0 q1
      go_wp2_with fail
      have HRS := Lib.hid (heap_put2 HF9.out.res (.slice a9 n9 c9) (.slice b9 m9 d9))
      have HB := Lib.hid (below_put2 HF9.out.bel (show w.heap.size ≤ w.heap.size + 1 by omega) (.slice a9 n9 c9) (.slice b9 m9 d9))
      exact bodyPost_ret (results_book (j := 6) (k := 7) rfl _ _ (w.heap.size + 1) _ _ rfl HRS.out) rfl ⟨a9, n9, c9, b9, m9, d9, rfl, HBK.out, HB.out⟩
theorem insA_szb {b : Bk} {p : Nat} {x : Sk} (hz : SzB b) (hx : x.nm.size ≤ 300) (hl : b.sk.length ≤ 12) (hp : p ≤ b.sk.length) : SzB ⟨insA p x b.sk, b.hd⟩ := by
  refine ⟨fun y hy => ?_, hz.hd, hz.ls, by show (insA p x b.sk).length ≤ _; rw [insA_len hp]; omega, hz.lh⟩
  unfold insA at hy
  rcases List.mem_append.1 hy with hy | hy
  · exact hz.sk y (List.mem_of_mem_take hy)
  · rcases List.mem_cons.1 hy with rfl | hy
    · exact hx
    · exact hz.sk y (List.mem_of_mem_drop hy)

set_option maxHeartbeats 4000000 in
theorem restock_any (a : Option Addr) (len cap : Nat) (a2 : Option Addr) (len2 cap2 : Nat) (b : Bk) (s : ByteArray) (n : Int) (w : World) (h : BkAt w a len a2 len2 cap2 b) (hz : SzB b) (hs : s.size ≤ 300) :
    Calls Tryz.prog 20 #[.agg #[.slice a len cap, .slice a2 len2 cap2], .string s, .int .i64 n] w (BookR w (restockB b s n)) := by
  have HF := Lib.hid (fb_new w (.slice a len cap) (.slice a2 len2 cap2) (.slice none 0 0) (.slice none 0 0))
  have HZ := Lib.hid hz
  have HX := Lib.hid h
  have hs2 : s.size ≤ 4398046511104 := Nat.le_trans hs (by decide)
  cases hfit : fitB b with
  | false =>
    have HR : Hid (restockB b s n = (bk0, 12)) := by show restockB b s n = _; unfold restockB; rw [if_neg (by rw [hfit]; simp)]
    go_enter Tryz.func20, Tryz.ntmps20
    go_wp2_with fail
    refine (fit_any a len cap a2 len2 cap2 b false hfit _ (HX.out.keep HF.out.bel) HZ.out).mono ?_
    rintro e w1 ⟨rfl, hb1⟩
    have HF1 := Lib.hid (HF.out.keep hb1)
    clear hb1
    obtain ⟨z0, z1⟩ := cells2 HF1.out.res
    obtain ⟨f0, f1⟩ := free2 HF1.out.res
    go_wp2_with fail
    have HRS := Lib.hid (heap_put2 HF1.out.res (.slice none 0 0) (.slice none 0 0))
    have HB := Lib.hid (below_put2 HF1.out.bel (show w.heap.size ≤ w.heap.size + 1 by omega) (.slice none 0 0) (.slice none 0 0))
    exact bodyPost_ret (results_book (j := 6) (k := 7) rfl _ _ (w.heap.size + 1) _ _ rfl HRS.out) rfl (book_err HR.out HB.out)
  | true =>
    have k := fitB_iff.1 hfit
    have HU := Lib.hid k.up
    have HP := Lib.hid (fun (w' : World) (hb : Below w.heap.size w w') v hv => place_is a len cap b.sk s _ v rfl hv w' (h.sk.keep hb) k.up)
    have hlen := h.sk.1
    have hlen12 := k.len
    cases hnm : nmS s with
    | false =>
      have HR : Hid (restockB b s n = (bk0, 7)) := by show restockB b s n = _; unfold restockB; rw [if_pos hfit, if_neg (by rw [hnm]; simp)]
      have HN := Lib.hid (fun w => nfit_is s false w hs2 hnm)
      clear hlen k h hz hnm
      go_enter Tryz.func20, Tryz.ntmps20
      go_wp2_with fail
      refine (fit_any a len cap a2 len2 cap2 b true hfit _ (HX.out.keep HF.out.bel) HZ.out).mono ?_
      rintro e w1 ⟨rfl, hb1⟩
      have HF1 := Lib.hid (HF.out.keep hb1)
      clear hb1
      clear hfit
      go_wp2_with fail
      refine (HN.out w1).mono ?_
      rintro e w2 ⟨rfl, hb2⟩
      have HF2 := Lib.hid (HF1.out.keep hb2)
      clear hb2
      obtain ⟨z0, z1⟩ := cells2 HF2.out.res
      obtain ⟨f0, f1⟩ := free2 HF2.out.res
      go_wp2_with fail
      have HRS := Lib.hid (heap_put2 HF2.out.res (.slice none 0 0) (.slice none 0 0))
      have HB := Lib.hid (below_put2 HF2.out.bel (show w.heap.size ≤ w.heap.size + 1 by omega) (.slice none 0 0) (.slice none 0 0))
      exact bodyPost_ret (results_book (j := 6) (k := 7) rfl _ _ (w.heap.size + 1) _ _ rfl HRS.out) rfl (book_err HR.out HB.out)
    | true =>
      have HN := Lib.hid (fun w => nfit_is s true w hs2 hnm)
      cases hfs : findS s b.sk with
      | some x =>
        have HP := Lib.hid (fun w' hb => HP.out w' hb true (by rw [hfs]; rfl))
        obtain ⟨h1, h2, h3⟩ := placeS_found k.up hfs
        have hR : restockB b s n = countB b (posS s b.sk) (restockV x n) := by
          rw [count_in k.up hfs (restock_nm x n)]
          unfold restockB; rw [if_pos hfit, if_pos hnm, hfs]
        obtain ⟨⟨y, er⟩, hv⟩ : ∃ q, restockV x n = q := ⟨_, rfl⟩
        rw [hv] at hR
        rw [hR]
        have hxs : x.nm.size ≤ 4398046511104 := Nat.le_trans (hz.sk x (findS_mem hfs).1) (by decide)
        have HC := Lib.hid (fun (w' : World) (hb : Below w.heap.size w w') => count_any a len cap a2 len2 cap2 b (posS s b.sk) n 50 (enters Tryz.func50 (by kernel_rfl) rfl) y er w' (h.keep hb) hz (by rw [← hlen]; exact h1)
          (fun z hz w => by rw [h2] at hz; subst hz; exact srestock_is x n y er w hxs hv))
        generalize posS s b.sk = p at HP HC ⊢
        generalize countB b p (y, er) = r at HC ⊢
        clear hfs hlen k h hz h1 h2 h3 hR hv hxs hnm
        go_enter Tryz.func20, Tryz.ntmps20
        go_wp2_with fail
        refine (fit_any a len cap a2 len2 cap2 b true hfit _ (HX.out.keep HF.out.bel) HZ.out).mono ?_
        rintro e w1 ⟨rfl, hb1⟩
        have HF1 := Lib.hid (HF.out.keep hb1)
        clear hb1
        clear hfit
        go_wp2_with fail
        refine (HN.out w1).mono ?_
        rintro e w2 ⟨rfl, hb2⟩
        have HF2 := Lib.hid (HF1.out.keep hb2)
        clear hb2
        obtain ⟨q0, q1⟩ := cells2 HF2.out.box
        go_wp2_with fail
        refine (HP.out w2 HF2.out.bel).mono ?_
        rintro e w3 ⟨rfl, hb3⟩
        have HF3 := Lib.hid (HF2.out.keep hb3)
        clear hb3 q0 q1
        obtain ⟨q0, q1⟩ := cells2 HF3.out.box
        go_wp2_with fail
        refine (HC.out w3 HF3.out.bel).mono ?_
        rintro e w9 ⟨a9, n9, c9, b9, m9, d9, rfl, hbk, hb9⟩
        have HF9 := Lib.hid (HF3.out.keep hb9)
        obtain ⟨z0, z1⟩ := cells2 HF9.out.res
        obtain ⟨f0, f1⟩ := free2 HF9.out.res
        have HBK := Lib.hid (bk_same hbk HF9.out.res (.slice a9 n9 c9) (.slice b9 m9 d9))
        clear hbk hb9 q0 q1
        go_wp2_with fail
        have HRS := Lib.hid (heap_put2 HF9.out.res (.slice a9 n9 c9) (.slice b9 m9 d9))
        have HB := Lib.hid (below_put2 HF9.out.bel (show w.heap.size ≤ w.heap.size + 1 by omega) (.slice a9 n9 c9) (.slice b9 m9 d9))
        exact bodyPost_ret (results_book (j := 6) (k := 7) rfl _ _ (w.heap.size + 1) _ _ rfl HRS.out) rfl ⟨a9, n9, c9, b9, m9, d9, rfl, HBK.out, HB.out⟩
      | none =>
        have HP := Lib.hid (fun w' hb => HP.out w' hb false (by rw [hfs]; rfl))
        by_cases h12 : len = 12
        · have HR : Hid (restockB b s n = (bk0, 4)) := by show restockB b s n = _; unfold restockB; rw [if_pos hfit, if_pos hnm, hfs]; show (if b.sk.length = 12 then _ else _) = _; rw [if_pos (hlen.trans h12)]
          generalize posS s b.sk = p at HP
          clear hfs hlen k h hz hnm
          subst h12
          go_enter Tryz.func20, Tryz.ntmps20
          go_wp2_with fail
          refine (fit_any a 12 cap a2 len2 cap2 b true hfit _ (HX.out.keep HF.out.bel) HZ.out).mono ?_
          rintro e w1 ⟨rfl, hb1⟩
          have HF1 := Lib.hid (HF.out.keep hb1)
          clear hb1
          clear hfit
          go_wp2_with fail
          refine (HN.out w1).mono ?_
          rintro e w2 ⟨rfl, hb2⟩
          have HF2 := Lib.hid (HF1.out.keep hb2)
          clear hb2
          obtain ⟨q0, q1⟩ := cells2 HF2.out.box
          go_wp2_with fail
          refine (HP.out w2 HF2.out.bel).mono ?_
          rintro e w3 ⟨rfl, hb3⟩
          have HF3 := Lib.hid (HF2.out.keep hb3)
          clear hb3 q0 q1
          obtain ⟨q0, q1⟩ := cells2 HF3.out.box
          obtain ⟨z0, z1⟩ := cells2 HF3.out.res
          obtain ⟨f0, f1⟩ := free2 HF3.out.res
          go_wp2_with fail
          have HRS := Lib.hid (heap_put2 HF3.out.res (.slice none 0 0) (.slice none 0 0))
          have HB := Lib.hid (below_put2 HF3.out.bel (show w.heap.size ≤ w.heap.size + 1 by omega) (.slice none 0 0) (.slice none 0 0))
          exact bodyPost_ret (results_book (j := 6) (k := 7) rfl _ _ (w.heap.size + 1) _ _ rfl HRS.out) rfl (book_err HR.out HB.out)
        · have hR : restockB b s n = countB ⟨insA (posS s b.sk) ⟨s, 0, 0, 0, 0, 0⟩ b.sk, b.hd⟩ (posS s b.sk) (restockV ⟨s, 0, 0, 0, 0, 0⟩ n) := by
            rw [count_new ⟨s, 0, 0, 0, 0, 0⟩ k.up hfs (restock_nm ⟨s, 0, 0, 0, 0, 0⟩ n)]
            unfold restockB; rw [if_pos hfit, if_pos hnm, hfs]; show (if b.sk.length = 12 then _ else _) = _; rw [if_neg (fun e => h12 (hlen.symm.trans e))]
          obtain ⟨⟨y, er⟩, hv⟩ : ∃ q, restockV ⟨s, 0, 0, 0, 0, 0⟩ n = q := ⟨_, rfl⟩
          rw [hv] at hR
          rw [hR]
          have hple := posS_le s b.sk
          have hsz := insA_szb (x := ⟨s, 0, 0, 0, 0, 0⟩) hz hs hlen12 hple
          have hgd := get_insA (x := ⟨s, 0, 0, 0, 0, 0⟩) hple
          generalize posS s b.sk = p at HP hple hsz hgd ⊢
          have HC := Lib.hid (fun (w' : World) a' c' hk => count_any a' (len + 1) c' a2 len2 cap2 ⟨insA p ⟨s, 0, 0, 0, 0, 0⟩ b.sk, b.hd⟩ p n 50 (enters Tryz.func50 (by kernel_rfl) rfl) y er w' hk hsz (by omega)
            (fun z hz w => by rw [hgd] at hz; subst hz; exact srestock_is ⟨s, 0, 0, 0, 0, 0⟩ n y er w hs2 hv))
          generalize countB ⟨insA p ⟨s, 0, 0, 0, 0, 0⟩ b.sk, b.hd⟩ p (y, er) = r at HC ⊢
          have HCL := Lib.hid (fun (w' : World) (hb : Below w.heap.size w w') => cloneS a len cap b.sk w' (h.sk.keep hb) (by omega))
          have HLEN := Lib.hid hlen
          have hpl : p ≤ len := by rw [← hlen]; exact hple
          have hl12 : len ≤ 12 := by rw [← hlen]; exact hlen12
          have hn12 : ¬ ((len : Int) = 12) := by omega
          clear hfs hlen k h hz hR hv hnm hsz hgd hple h12
          go_enter Tryz.func20, Tryz.ntmps20
          go_wp2_with fail
          refine (fit_any a len cap a2 len2 cap2 b true hfit _ (HX.out.keep HF.out.bel) HZ.out).mono ?_
          rintro e w1 ⟨rfl, hb1⟩
          have HF1 := Lib.hid (HF.out.keep hb1)
          clear hb1
          clear hfit
          go_wp2_with fail
          refine (HN.out w1).mono ?_
          rintro e w2 ⟨rfl, hb2⟩
          have HF2 := Lib.hid (HF1.out.keep hb2)
          clear hb2
          obtain ⟨q0, q1⟩ := cells2 HF2.out.box
          go_wp2_with fail
          refine (HP.out w2 HF2.out.bel).mono ?_
          rintro e w3 ⟨rfl, hb3⟩
          have HF3 := Lib.hid (HF2.out.keep hb3)
          clear hb3 q0 q1
          obtain ⟨q0, q1⟩ := cells2 HF3.out.box
          go_wp2_with fail
          refine (HCL.out w3 HF3.out.bel).mono ?_
          rintro e w4 ⟨a4, c4, rfl, hO, hb4⟩
          have hbal := (Below.refl w4.heap.size w4).alloc (Nat.le_refl _) (.cells #[.string s, .int .i64 0, .int .i64 0, .int .i64 0, .int .i64 0, .int .i64 0] 41)
          have HI := Lib.hid (insert_any w3.heap.size (.slice a4 len c4) len p b.sk s 0 0 0 0 0 _ w4 hb4.size (by omega) HLEN.out hO hpl rfl)
          have HB45 := Lib.hid (Lines.below_keep hb4 hbal hb4.size)
          clear q0 q1 hO hbal hb4
          go_wp2_with fail
          refine HI.out.mono ?_
          rintro e w5 ⟨a5, c5, rfl, hsk5, hb5⟩
          have hb35 := HB45.out.trans hb5
          have HF5 := Lib.hid (HF3.out.keep hb35)
          have hbk5 : BkAt w5 a5 (len + 1) a2 len2 cap2 ⟨insA p ⟨s, 0, 0, 0, 0, 0⟩ b.sk, b.hd⟩ := ⟨hsk5, HX.out.hd.keep HF5.out.bel, HX.out.room⟩
          have hbk6 := bk_box hbk5 HF5.out.box 0 (.slice a5 (len + 1) c5)
          have HF6 := Lib.hid (HF5.out.box0 (Nat.le_refl _) (by omega) (.slice a5 (len + 1) c5))
          have HC6 := Lib.hid (HC.out _ a5 c5 hbk6)
          obtain ⟨q0, q1⟩ := cells2 HF5.out.box
          obtain ⟨p0, p1⟩ := free2 HF5.out.box
          obtain ⟨u0, u1⟩ := cells2 HF6.out.box
          clear hsk5 hb5 hb35 hbk5 hbk6
          go_wp2_with fail
          refine (HC6.out).mono ?_
          rintro e w9 ⟨a9, n9, c9, b9, m9, d9, rfl, hbk, hb9⟩
          have HF9 := Lib.hid (HF6.out.keep hb9)
          obtain ⟨z0, z1⟩ := cells2 HF9.out.res
          obtain ⟨f0, f1⟩ := free2 HF9.out.res
          have HBK := Lib.hid (bk_same hbk HF9.out.res (.slice a9 n9 c9) (.slice b9 m9 d9))
          clear hbk hb9 q0 q1 p0 p1 u0 u1
          go_wp2_with fail
          have HRS := Lib.hid (heap_put2 HF9.out.res (.slice a9 n9 c9) (.slice b9 m9 d9))
          have HB := Lib.hid (below_put2 HF9.out.bel (show w.heap.size ≤ w.heap.size + 1 by omega) (.slice a9 n9 c9) (.slice b9 m9 d9))
          exact bodyPost_ret (results_book (j := 6) (k := 7) rfl _ _ (w.heap.size + 1) _ _ rfl HRS.out) rfl ⟨a9, n9, c9, b9, m9, d9, rfl, HBK.out, HB.out⟩
end Go.Proofs.YtjclkiabgemfpaaGreat.Ledger

/-
  The contract of move: fit lines moved one by one, by whatever move of stock: any items in order that are fit; what was there stays as it was.
-/
set_option linter.unusedVariables false
set_option maxRecDepth 4000
namespace Go.Proofs.YtjclkiabgemfpaaGreat.Ledger
open Go.RowKit LinesP HoldsP LedgerP
open StockP (Sk sk0 fitS Fit fitS_iff fromV turnV moveV turn_fit)
open Go.Proofs.YtjclkiabgemfpaaGreat.Lines (LsAt Sz SzM ret_bool ret_int below_keep below_drewN owns_form owns_cell owns_below)
open Go.Proofs.YtjclkiabgemfpaaGreat.Holds (HsAt SzH hmf MadeP add_at)

theorem fb_one (w : World) (r0 r1 : Value) : FB w.heap.size w (w.alloc (.cells #[r0, r1] 33)) r0 r1 w.heap.size r0 r1 :=
  ⟨(Below.refl _ w).alloc (Nat.le_refl _) _, heap_alloc_new w _, heap_alloc_new w _⟩
def moveR (wh : Int) (ls : List Ln) (sk : List Sk) (hd : List Hd) : Bk × Int := if (movesV wh ls sk).2 = 0 then (⟨(movesV wh ls sk).1, hd⟩, 0) else (bk0, (movesV wh ls sk).2)
theorem moveR_err {wh er : Int} {ls : List Ln} {sk : List Sk} {hd : List Hd} {l : List Sk} (h : movesV wh ls sk = (l, er)) (hne : er ≠ 0) : moveR wh ls sk hd = (bk0, er) := by
  unfold moveR; rw [h, if_neg hne]
theorem moveR_ok {wh : Int} {ls : List Ln} {sk l : List Sk} {hd : List Hd} (h : movesV wh ls sk = (l, 0)) : moveR wh ls sk hd = (⟨l, hd⟩, 0) := by
  unfold moveR; rw [h, if_pos rfl]
def ActOf (g : Nat) (wh : Int) : Prop := (∀ args w, (callFunc g args).run Tryz.prog w = .ok (.enter g args) w) ∧ ∀ (x : Sk) (n : Int) (w : World), x.nm.size ≤ 4398046511104 →
  Calls Tryz.prog g #[skV x, .int .i64 n] w fun z w' => z = .returned (.tuple #[skV (moveV x wh n).1, .int .i64 (moveV x wh n).2]) ∧ Below w.heap.size w w'
theorem set_posV {y : Sk} {l : List Sk} {s : ByteArray} {x : Sk} (hu : UpS l) (hf : findS s l = some x) (hn : y.nm = s) : l.set (posS s l) y = setS y l := by
  subst hn
  obtain ⟨h1, h2, h3⟩ := placeS_found hu hf
  rw [set_posS hu h1 (by rw [h2, h3]), set_ins hu ⟨x, (findS_mem hf).1, h3⟩]
theorem join2 {G : Prop} {P F : World → Nat → Prop} (main : (∀ w g, F w g → P w g) → G) (pf : ∀ w g, F w g → P w g) : G := main pf
set_option maxHeartbeats 8000000 in
theorem move_any (a : Option Addr) (len cap : Nat) (sk : List Sk) (la : Option Addr) (n lc : Nat) (ls : List Ln) (g : Nat) (wh : Int) (hact : ActOf g wh) (a2 : Option Addr) (n2 c2 : Nat) (hd : List Hd) (w : World)
    (h : SkAt w a len sk) (hL : LsAt w la n ls) (hH : HsAt w a2 n2 hd) (hroom : n2 ≤ c2) (hu : UpS sk) (hf : ∀ x ∈ sk, Fit x) (hfl : fitL ls = true) (h12 : len ≤ 12) :
    Calls Tryz.prog 56 #[.slice a len cap, .slice la n lc, .func (.func g) #[] #[], .slice a2 n2 c2] w (BookR w (moveR wh ls sk hd)) := by
  obtain ⟨eg, hact⟩ := hact
  have HACT := Lib.hid hact
  obtain ⟨R, hR⟩ : ∃ R, movesV wh ls sk = R := ⟨_, rfl⟩
  have HRE : Hid (∀ er, R = ([], er) → er ≠ 0 → moveR wh ls sk hd = (bk0, er)) := fun er e hne => moveR_err (hR.trans e) hne
  have HRO : Hid (∀ l, R = (l, 0) → moveR wh ls sk hd = (⟨l, hd⟩, 0)) := fun l e => moveR_ok (hR.trans e)
  have h0 : Hid (R = movesV wh (ls.drop 0) sk) := hR.symm
  generalize moveR wh ls sk hd = MR at HRE HRO ⊢
  have HH := Lib.hid hH
  have HLL := Lib.hid hL
  have hn4 : n ≤ 4 := by
    have h1 := hfl
    unfold fitL at h1
    rw [Bool.and_eq_true, decide_eq_true_eq, hL.1] at h1
    exact h1.1
  have HFL := Lib.hid hfl
  have HF := Lib.hid (fb_one w (.slice none 0 0) (.slice none 0 0))
  have HS0 := Lib.hid (h.keep HF.out.bel)
  have HU0 := Lib.hid hu
  have HFIT0 := Lib.hid hf
  clear h hL hH hu hf hfl hR hact
  go_enter Tryz.func56, Tryz.ntmps56
  go_wp2_with fail
  go_loopw [0, 18] (fun v i wr => ∃ (k : Nat) (a' : Option Addr) (c' : Nat) (l : List Sk), k ≤ n ∧ v = .slice a' len c' ∧ i = .int .i64 (k : Int) ∧ Hid (R = movesV wh (ls.drop k) l) ∧ Hid (SkAt wr a' len l) ∧ Hid (UpS l) ∧ Hid (∀ x ∈ l, Fit x) ∧ Hid (FB w.heap.size w wr (.slice none 0 0) (.slice none 0 0) w.heap.size (.slice none 0 0) (.slice none 0 0))) (fun _ i _ => n - (intOf i).toNat)
  case atStart => exact ⟨0, a, cap, sk, Nat.zero_le _, rfl, rfl, h0, HS0, HU0, HFIT0, HF⟩
  case round =>
    obtain ⟨k, a', c', l, hk, rfl, rfl, hR, hS, hU, hFit, hFB⟩ := hrel
    by_cases hkn : k < n
    · have hkx : k < ls.length := by rw [HLL.out.1]; exact hkn
      rcases (HLL.out.keep hFB.out.bel).2.2 with h1 | ⟨b3, o3, rfl, g3, hc3⟩
      · omega
      obtain ⟨⟨s, q⟩, hz⟩ : ∃ z, ls.getD k ln0 = z := ⟨_, rfl⟩
      obtain ⟨y1, y2⟩ := hc3 k hkn
      rw [hz] at y1 y2
      simp only at y1 y2
      have hqz := qty_iff.1 (fitL_mem HFL.out (s, q) (by rw [← hz, show ls.getD k ln0 = ls[k] by simp [List.getD, hkx]]; exact List.getElem_mem hkx)).2
      simp only at hqz
      have hbb := Lines.boxed_below wr s q
      obtain ⟨z1, z2⟩ := Lines.boxed_cells wr s q
      rw [Lines.boxed_alloc] at hbb z1 z2
      obtain ⟨V, hV⟩ : ∃ V, wr.alloc (.cells #[.string s, .int .i64 q] 54) = V := ⟨_, rfl⟩
      rw [hV] at hbb z1 z2
      have HVV := Lib.hid hV
      have HSV := Lib.hid (hS.out.keep hbb)
      have HFV := Lib.hid (hFB.out.keep hbb)
      have HZ1 := Lib.hid z2
      have HHV : Hid (wr.heap.size < V.heap.size) := by
        show wr.heap.size < V.heap.size
        rw [← HVV.out, World.size_alloc]; omega
      cases hfs : findS s l with
      | none =>
        have HE := Lib.hid (HRE.out 6 (hR.out.trans (moves_drop_none hkx hz hfs)) (by decide))
        have CP := Lib.hid (place_is a' len c' l s _ false rfl (by rw [hfs]; rfl) V HSV.out hU.out)
        generalize posS s l = p at CP
        clear hc3 hz hfs hV hkx hbb
        go_wp2_with fail
        rw [show wr.alloc (.cells #[.string s, .int .i64 q] 54) = V from HVV.out]
        go_wp2_with fail
        refine CP.out.mono ?_
        rintro e w1 ⟨rfl, hb1⟩
        have HF1 := Lib.hid (HFV.out.keep hb1)
        clear hb1 y1 y2 z1 z2
        obtain ⟨z0, z1⟩ := cells2 HF1.out.res
        obtain ⟨f0, f1⟩ := free2 HF1.out.res
        go_wp2_with fail
        have HRS := Lib.hid (heap_put2 HF1.out.res (.slice none 0 0) (.slice none 0 0))
        have HB := Lib.hid (below_put2 HF1.out.bel (show w.heap.size ≤ w.heap.size by omega) (.slice none 0 0) (.slice none 0 0))
        exact bodyPost_ret (results_book (j := 8) (k := 9) rfl _ _ (w.heap.size) _ _ rfl HRS.out) rfl (book_err HE.out HB.out)
      | some y =>
        have CP := Lib.hid (place_is a' len c' l s _ true rfl (by rw [hfs]; rfl) V HSV.out hU.out)
        obtain ⟨hpl, hpy, hpn⟩ := placeS_found hU.out hfs
        have hfy := hFit.out y (findS_mem hfs).1
        have hml := move_line (w := wh) hfy hqz.1 hqz.2
        have HCG := Lib.hid (fun w => HACT.out y q w (Nat.le_trans (nm_small hfy.nm) (by decide)))
        have hset : ∀ y2 : Sk, y2.nm = s → l.set (posS s l) y2 = setS y2 l := fun y2 e => set_posV hU.out hfs e
        have hstep : ∀ r2, (if fromV y wh < q then (sk0, (6 : Int)) else (turnV y wh q, 0)) = r2 → (r2.2 ≠ 0 → r2.2 = 6 ∧ MR = (bk0, 6)) ∧ (r2.2 = 0 → R = movesV wh (ls.drop (k + 1)) (l.set (posS s l) r2.1) ∧ UpS (l.set (posS s l) r2.1) ∧ ∀ x ∈ l.set (posS s l) r2.1, Fit x) := by
          intro r2 hr2
          by_cases hfr : fromV y wh < q
          · rw [if_pos hfr] at hr2
            subst hr2
            exact ⟨fun _ => ⟨rfl, HRE.out 6 (hR.out.trans (moves_drop_less hkx hz hfs hfr)) (by decide)⟩, fun e => by cases e⟩
          · rw [if_neg hfr] at hr2
            subst hr2
            refine ⟨fun e => absurd rfl e, fun _ => ?_⟩
            have e1 := hset (turnV y wh q) ((turn_nm y wh q).trans hpn)
            simp only
            rw [e1]
            exact ⟨hR.out.trans (moves_drop_go hkx hz hfs hfr), set_up hU.out, set_fit hFit.out (findS_mem hfs).1 hqz.1 hfr⟩
        rw [← hml] at hstep
        obtain ⟨⟨yy, er⟩, hv⟩ : ∃ r2, moveV y wh q = r2 := ⟨_, rfl⟩
        have HST := Lib.hid (hstep _ hv)
        rw [hv] at HCG
        obtain ⟨p, hp⟩ : ∃ p, posS s l = p := ⟨_, rfl⟩
        rw [hp] at CP HST hpl hpy
        have hpn2 : p < len := by rw [← HSV.out.1]; exact hpl
        obtain ⟨b1, o1, t, x0, x1, x2, x3, x4, rfl, g1, hx, hc1⟩ := HSV.out.at hpn2
        rw [hpy] at hx
        subst hx
        have HC1 := Lib.hid hc1
        obtain ⟨ys, v0, v1, v2, v3, v4⟩ := yy
        unfold skV at HCG
        dsimp only at HCG
        clear hc3 hz hfs hV hkx hbb hpl hpy hpn hfy hml hset hstep hv hp hc1 g1
        go_wp2_with fail
        rw [show wr.alloc (.cells #[.string s, .int .i64 q] 54) = V from HVV.out]
        go_wp2_with fail
        refine CP.out.mono ?_
        rintro e w1 ⟨rfl, hb1⟩
        have HF1 := Lib.hid (HFV.out.keep hb1)
        have HS1 := Lib.hid (HSV.out.keep hb1)
        have HB1 := Lib.hid hb1
        have HZ2 := Lib.hid ((hb1.cell (p := ⟨wr.heap.size, 1, none⟩) HHV.out).trans HZ1.out)
        have HLT := Lib.hid (Nat.lt_of_lt_of_le HHV.out hb1.size)
        clear hb1 y1 y2 z1 z2
        go_wp2_with fail
        have K : Hid (∀ w', Below w1.heap.size w1 w' → (w'.cell? ⟨b1, o1 + p * 6, none⟩ = some (.string t) ∧ w'.cell? ⟨b1, o1 + p * 6 + 1, none⟩ = some (.int .i64 x0) ∧ w'.cell? ⟨b1, o1 + p * 6 + 2, none⟩ = some (.int .i64 x1) ∧ w'.cell? ⟨b1, o1 + p * 6 + 3, none⟩ = some (.int .i64 x2) ∧ w'.cell? ⟨b1, o1 + p * 6 + 4, none⟩ = some (.int .i64 x3) ∧ w'.cell? ⟨b1, o1 + p * 6 + 5, none⟩ = some (.int .i64 x4)) ∧ w'.cell? ⟨wr.heap.size, 1, none⟩ = some (.int .i64 q)) :=
          fun w' hb => ⟨HC1.out w' (Lines.below_keep HB1.out hb HB1.out.size), (hb.cell (p := ⟨wr.heap.size, 1, none⟩) HLT.out).trans HZ2.out⟩
        apply join2 (F := fun wz bx => Below w1.heap.size w1 wz ∧ At6 wz bx (.string ys) (.int .i64 v0) (.int .i64 v1) (.int .i64 v2) (.int .i64 v3) (.int .i64 v4))
        · intro hG
          have b0 : Below w1.heap.size w1 w1.drew := (Below.refl _ w1).drew
          have k0 := K.out _ b0
          have b00 : Below w1.heap.size w1 (w1.alloc (.cells #[.string ⟨#[]⟩, .int .i64 0, .int .i64 0, .int .i64 0, .int .i64 0, .int .i64 0] 41)).drew := ((Below.refl _ w1).alloc (Nat.le_refl _) _).drew
          have k00 := K.out _ b00
          have k01 := K.out _ ((Below.refl _ w1).alloc (Nat.le_refl _) (.cells #[.string ⟨#[]⟩, .int .i64 0, .int .i64 0, .int .i64 0, .int .i64 0, .int .i64 0] 41))
          go_region_held3 (fun w' => (w'.cell? ⟨b1, o1 + p * 6, none⟩ = some (.string t) ∧ w'.cell? ⟨b1, o1 + p * 6 + 1, none⟩ = some (.int .i64 x0) ∧ w'.cell? ⟨b1, o1 + p * 6 + 2, none⟩ = some (.int .i64 x1) ∧ w'.cell? ⟨b1, o1 + p * 6 + 3, none⟩ = some (.int .i64 x2) ∧ w'.cell? ⟨b1, o1 + p * 6 + 4, none⟩ = some (.int .i64 x3) ∧ w'.cell? ⟨b1, o1 + p * 6 + 5, none⟩ = some (.int .i64 x4)) ∧ w'.cell? ⟨wr.heap.size, 1, none⟩ = some (.int .i64 q))
            (first | with_reducible exact k0 | with_reducible exact k00 | with_reducible exact k01 | with_reducible exact k4 | with_reducible exact k5 | with_reducible exact k6)
            (first
              | ((with_reducible refine (HCG.out (w1.alloc (.cells #[.string ⟨#[]⟩, .int .i64 0, .int .i64 0, .int .i64 0, .int .i64 0, .int .i64 0] 41)).drew).mono ?_); rintro e w4 ⟨rfl, hb4⟩; have b4 := Lines.below_keep b00 hb4 b00.size; have k4 := K.out _ b4; have k5 := k4; have k6 := K.out _ (below_put6 b4 (Nat.le_refl _) (.string ys) (.int .i64 v0) (.int .i64 v1) (.int .i64 v2) (.int .i64 v3) (.int .i64 v4)); have hz4 := At6.keep (w := (w1.alloc (.cells #[.string ⟨#[]⟩, .int .i64 0, .int .i64 0, .int .i64 0, .int .i64 0, .int .i64 0] 41)).drew) (at6_new w1 (.string ⟨#[]⟩) (.int .i64 0) (.int .i64 0) (.int .i64 0) (.int .i64 0) (.int .i64 0)) hb4; obtain ⟨z0, z1, z2, z3, z4, z5⟩ := cells6 hz4; obtain ⟨f0, f1, f2, f3, f4, f5⟩ := free6 hz4)
              | ((with_reducible refine (HCG.out w1.drew).mono ?_); rintro e w4 ⟨rfl, hb4⟩; have b4 := Lines.below_keep b0 hb4 b0.size; have k4 := K.out _ b4; have k5 := K.out _ (b4.alloc b4.size (.cells #[.string ⟨#[]⟩, .int .i64 0, .int .i64 0, .int .i64 0, .int .i64 0, .int .i64 0] 41)); have k6 := K.out _ (b4.alloc b4.size (.cells #[.string ys, .int .i64 v0, .int .i64 v1, .int .i64 v2, .int .i64 v3, .int .i64 v4] 41))))
          · have hwz0 : Below w1.heap.size w1 (w4.alloc (.cells #[.string ys, .int .i64 v0, .int .i64 v1, .int .i64 v2, .int .i64 v3, .int .i64 v4] 41)) := b4.alloc b4.size _
            have hx0 := at6_new w4 (.string ys) (.int .i64 v0) (.int .i64 v1) (.int .i64 v2) (.int .i64 v3) (.int .i64 v4)
            clear k0 k00 k01 k4 k5 k6 b0 b00 b4 hb4
            generalize hwz : w4.alloc (.cells #[.string ys, .int .i64 v0, .int .i64 v1, .int .i64 v2, .int .i64 v3, .int .i64 v4] 41) = wz at hwz0 hx0 ⊢
            generalize hbx : w4.heap.size = bx at hx0 ⊢
            exact hG wz bx ⟨hwz0, hx0⟩
          · have hwz0 := below_put6 b4 (Nat.le_refl _) (.string ys) (.int .i64 v0) (.int .i64 v1) (.int .i64 v2) (.int .i64 v3) (.int .i64 v4)
            have hx0 := heap_put6 hz4 (.string ys) (.int .i64 v0) (.int .i64 v1) (.int .i64 v2) (.int .i64 v3) (.int .i64 v4)
            change At6 (put6 w4 w1.heap.size (.string ys) (.int .i64 v0) (.int .i64 v1) (.int .i64 v2) (.int .i64 v3) (.int .i64 v4)) w1.heap.size _ _ _ _ _ _ at hx0
            clear k0 k00 k01 k4 k5 k6 b0 b00 b4 hb4 hz4 z0 z1 z2 z3 z4 z5 f0 f1 f2 f3 f4 f5
            unfold put6 at hwz0 hx0
            generalize hwz : (((((w4.setCell ⟨w1.heap.size, 0, none⟩ (.string ys)).setCell ⟨w1.heap.size, 1, none⟩ (.int .i64 v0)).setCell ⟨w1.heap.size, 2, none⟩ (.int .i64 v1)).setCell ⟨w1.heap.size, 3, none⟩ (.int .i64 v2)).setCell ⟨w1.heap.size, 4, none⟩ (.int .i64 v3)).setCell ⟨w1.heap.size, 5, none⟩ (.int .i64 v4) = wz at hwz0 hx0 ⊢
            obtain ⟨bx, hbx⟩ : ∃ bx, w1.heap.size = bx := ⟨_, rfl⟩
            have hx1 : At6 wz bx (.string ys) (.int .i64 v0) (.int .i64 v1) (.int .i64 v2) (.int .i64 v3) (.int .i64 v4) := hbx ▸ hx0
            rw [hbx]
            exact hG wz bx ⟨hwz0, hx1⟩
        · intro wz bx hF
          have HFZ := Lib.hid (HF1.out.keep hF.1)
          have HX6 : Hid (At6 wz bx (.string ys) (.int .i64 v0) (.int .i64 v1) (.int .i64 v2) (.int .i64 v3) (.int .i64 v4)) := hF.2
          have HSZ := Lib.hid (HS1.out.keep hF.1)
          clear hF
          by_cases her : er = 0
          · subst her
            obtain ⟨e1, e2, e3⟩ := HST.out.2 rfl
            have HE1 := Lib.hid e1; have HE2 := Lib.hid e2; have HE3 := Lib.hid e3
            have HRP := Lib.hid (replace_any (some ⟨b1, o1, none⟩) len c' l p ys v0 v1 v2 v3 v4 wz HSZ.out hpn2 (by omega))
            obtain ⟨c0, c1, c2', c3, c4, c5⟩ := cells6 HX6.out
            clear e1 e2 e3
            go_wp2_with fail
            refine HRP.out.mono ?_
            rintro e w7 ⟨a7, c7, rfl, hs7, hb7⟩
            have HS7 := Lib.hid hs7
            have HF7 := Lib.hid (HFZ.out.keep hb7)
            clear hs7 hb7 c0 c1 c2' c3 c4 c5
            go_wp2_with fail
            go_roundw
            case rel => exact ⟨k + 1, a7, c7, _, by omega, rfl, by go_num, HE1, HS7, HE2, HE3, HF7⟩
            case measure => simp [intOf]; omega
          · obtain ⟨e1, e2⟩ := HST.out.1 her
            have HE2 := Lib.hid e2
            have e1 : er = 6 := e1
            subst e1
            clear e2 her
            obtain ⟨z0, z1⟩ := cells2 HFZ.out.res
            obtain ⟨f0, f1⟩ := free2 HFZ.out.res
            go_wp2_with fail
            have HRS := Lib.hid (heap_put2 HFZ.out.res (.slice none 0 0) (.slice none 0 0))
            have HB := Lib.hid (below_put2 HFZ.out.bel (show w.heap.size ≤ w.heap.size by omega) (.slice none 0 0) (.slice none 0 0))
            exact bodyPost_ret (results_book (j := 8) (k := 9) rfl _ _ (w.heap.size) _ _ rfl HRS.out) rfl (book_err HE2.out HB.out)
    · obtain rfl : k = n := by omega
      have he := HRO.out l (hR.out.trans (moves_drop_done (by rw [HLL.out.1]; exact hkn)))
      have HE := Lib.hid he
      have hbk : BkAt wr a' len a2 n2 c2 ⟨l, hd⟩ := ⟨hS.out, HH.out.keep hFB.out.bel, hroom⟩
      have HBK := Lib.hid (bk_same hbk hFB.out.res (.slice a' len c') (.slice a2 n2 c2))
      obtain ⟨z0, z1⟩ := cells2 hFB.out.res
      obtain ⟨f0, f1⟩ := free2 hFB.out.res
      clear he hbk hR
      go_wp2_with fail
      have HRS := Lib.hid (heap_put2 hFB.out.res (.slice a' len c') (.slice a2 n2 c2))
      have HB := Lib.hid (below_put2 hFB.out.bel (Nat.le_refl _) (.slice a' len c') (.slice a2 n2 c2))
      exact bodyPost_ret (results_book (j := 8) (k := 9) rfl _ _ w.heap.size _ _ rfl HRS.out) rfl (book_ok HE.out HBK.out HB.out)
end Go.Proofs.YtjclkiabgemfpaaGreat.Ledger
