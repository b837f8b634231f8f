/-
  The contracts of slices.AppendSeq and slices.Collect at entries, whatever iterator hands them out; of Drop and Since: any entries; what was there stays as it was.
-/
import Derived.Test.YtbgdbcofdkjocaaOutboxD
import Derived.RangeFuncBox
set_option linter.unusedVariables false
set_option linter.unusedSimpArgs false
set_option maxRecDepth 4000
namespace Go.Proofs.Ytbgdbcofdkjocaa.Outbox
open Go.RowKit OutP
open Go.Proofs.Ytbgdbcofdkjocaa.Kt
open Go.Proofs.Ytbgdbcofdkjocaa.It Go.Shelf
attribute [local go_sem] Oper.semAt_some

/-- A loop's own variable, an entry, in a block of its own. -/
def EBox (W : World) (B : Nat) (x : En) : Prop := W.heap[B]? = some (.cells (enS.c x).toArray 25 (0, 0))
theorem ebox_own {β : Type} (B C : Nat) (f : β → En) : OwnFrom C (fun s W => EBox W B (f s)) := fun s X Y row hs hg hr =>
  cells_kept hs hg (fun r e => (hr r e).2)
theorem ne_type_entry : (22 : Nat) ≠ 25 := by decide
theorem cells_new7 (W : World) (x0 x1 x2 : Int) (x3 : Bool) (x4 x5 : Int) (x6 : Bool) : ∀ (j : Nat) (u : Value), (enS.c ⟨x0, x1, x2, x3, x4, x5, x6⟩)[j]? = some u → (W.alloc (.cells #[.int .i64 x0, .int .i64 x1, .int .i64 x2, .bool x3, .int .i64 x4, .int .i64 x5, .bool x6] 25)).cell? ((⟨W.heap.size, 0, none⟩ : Addr).add j) = some u := fun j u hu => Rw.cells_new W (enS.c ⟨x0, x1, x2, x3, x4, x5, x6⟩) 25 j u hu
theorem info_entry : (Try.prog.info? 25).map (fun i => (i.zero, i.size, i.bytes)) = some (some (.agg #[.int .i64 0, .int .i64 0, .int .i64 0, .bool false, .int .i64 0, .int .i64 0, .bool false]), 7, 56) := by kernel_rfl
set_option maxRecDepth 100000 in
set_option maxHeartbeats 4000000 in
theorem appendSeq_any (g : Nat) (lb : Array Value) (eg : ∀ args w, (callFunc g args).run Try.prog w = .ok (.enter g args) w) (V : List En) (N : Nat) (gs : List Nat) (PX : List En → Prop) (w : World)
    (hseq : SeqStopsK Fence.wide 4 Try.prog g lb (fun x : En => #[enV x]) (But w.heap.size gs) (fun xs => xs = V) PX N w) (hN : N ≤ 1000000) :
    Calls Try.prog 31 #[.slice none 0 0, .func (.func g) #[] lb] w (RowP w V) := by
  refine (callsIn_wide (n := 5)).1 ?_
  obtain ⟨i0, hi, hz0, hz1, hz2⟩ := info_parts info_entry
  have HI := Lib.hid hi; have HZ0 := Lib.hid hz0; have HZ1 := Lib.hid hz1; have HZ2 := Lib.hid hz2
  have HSEQ := Lib.hid hseq
  clear hi hz0 hz1 hz2 hseq
  refine callsIn_of_wp_marks Try.func31 rfl trivial ?_ rfl
  simp only [Try.ntmps31, List.size_toArray, List.length_cons, List.length_nil, Nat.reduceAdd, Nat.reduceSub, Array.replicate_succ, Array.replicate_zero, List.push_toArray, List.append_toArray, List.nil_append, List.cons_append]
  gi_wp2
  have bO := Boxed.new w 22 (.slice none 0 0)
  have hB0 : Below w.heap.size w (w.alloc (.cells #[.slice none 0 0] 22)) := (Below.refl _ w).alloc (Nat.le_refl _) _
  refine wpIn_rangeFunc_ownH rfl (by omega) (gf := g) (lb := lb) rfl trivial eg HSEQ.out But.trans (but_b (by simp)) hB0 (fun _ => rfl)
    (fun pre W => (∃ v, Boxed W w.heap.size 22 v ∧ W.ownsRow w.heap.size 25 7 v pre.length (Rw.cells enS pre) ∧ True) ∧ Below w.heap.size w W)
    (fun _ _ _ => False)
    (OwnFrom.and (Own.from (holdsRow_own w.heap.size w.heap.size 22 25 7 (fun pre => pre.length) (fun pre => Rw.cells enS pre) (fun pre v => True)) _) (ownFrom_below (Nat.le_refl _) (by simp)))
    (fun _ _ _ _ _ hs _ _ => hs)
    ⟨⟨_, bO, World.ownsRow_nil _ _ _ _, trivial⟩, hB0⟩
    (fun x a' W => ∃ Bx, w.heap.size < Bx ∧ EBox W Bx x ∧ a' = { tmps := #[.slice none 0 0, .func (.func g) #[] lb, .pointer (some ⟨w.heap.size, 0, none⟩), undef, .slice none 0 0, .pointer (some ⟨Bx, 0, none⟩), .func (.func g) #[] lb, enV x, undef, undef, undef, undef, undef], defers := [] })
    ?hax ?assign ?body ?done ?stop
  case hax =>
    rintro x a' s X Y row ⟨Bx, h1, h2, h3⟩ hg hr
    exact ⟨Bx, h1, ebox_own Bx _ (fun _ : Unit => x) () X Y row h2 hg hr, h3⟩
  case assign =>
    rintro l pre ⟨x0, x1, x2, x3, x4, x5, x6⟩ W K ⟨⟨v, hv, hrow, _⟩, hB⟩ hK
    have hBW : Below w.heap.size W (W.alloc (.cells #[.int .i64 x0, .int .i64 x1, .int .i64 x2, .bool x3, .int .i64 x4, .int .i64 x5, .bool x6] 25)) := (Below.refl _ W).alloc hB.size _
    have hlt : w.heap.size < W.heap.size := hv.lt
    dsimp only [enV]
    gi_wp2
    exact hK _ _ ((KeepsOthers.alloc _ _).from _) (But.of_below hBW) ⟨⟨v, hv.alloc _, hrow.alloc _, trivial⟩, hB.trans hBW⟩ ⟨W.heap.size, hlt, World.alloc_heap_new W _, rfl⟩
  case body =>
    rintro l pre ⟨x0, x1, x2, x3, x4, x5, x6⟩ a' W hl hr ⟨⟨v, hv, hrow, _⟩, hB⟩ ⟨Bx, hBx, hxb, rfl⟩ hlt
    have hc := hv.cell
    obtain ⟨q0, q1, q2, q3, q4, q5, q6⟩ := cells7 (show At7 25 W Bx (.int .i64 x0) (.int .i64 x1) (.int .i64 x2) (.bool x3) (.int .i64 x4) (.int .i64 x5) (.bool x6) from hxb)
    dsimp only [enV] at *
    gi_wp2_with (gi_at_builtin; refine wpListIn_append_own _ rfl (.tmp 8) (.tmp 10) 22 rfl w.heap.size 25 i0 _ 7 56 Try.underlying22 HI.out HZ0.out HZ1.out HZ2.out rfl (by decide) v pre.length (Rw.cells enS pre) rfl (hrow.alloc _) ⟨W.heap.size, 0, none⟩ 1 1 (enS.c ⟨x0, x1, x2, x3, x4, x5, x6⟩) rfl rfl (cells_new7 W x0 x1 x2 x3 x4 x5 x6) (enS.one _) (by unfold maxLen; omega) (by omega) (by have := hB.size; simp; omega) ?_; intro v' w1 hown' hgrow _; obtain ⟨g', cap', rfl⟩ := ownsRow_succ hown'; obtain ⟨hv1, hv2, hr2, hk2, hb2⟩ := hv.appended (by decide) hrow hB.size (Nat.le_refl _) hown' hgrow; have hc1 := hv1.cell; have hf1 := hv1.frozen)
    exact ⟨hk2.from _, But.of_below hb2, ⟨⟨_, hv2, by rw [Rw.cells_append, Rw.cells_single, List.length_append]; exact hr2, trivial⟩, hB.trans hb2⟩⟩
  case done =>
    rintro D ys W hD rfl ⟨⟨v, hv, hrow, _⟩, hB⟩ hK
    have hc := hv.cell
    gi_wp2
    refine ⟨by simp, .inl ⟨_, _, rfl, run_takeDeferred hK, ?_⟩⟩
    exact ⟨_, results_tmp rfl _ _ _, v, rfl, ownsRow_putObj hrow _ hK rfl, hB.trans (belowK_b (w := w) (Nat.le_refl _) W D _ _ (by simp at hD; omega) hK rfl rfl)⟩
  case stop =>
    rintro D c pre W _ _ h _
    exact h.elim
theorem collect_any (g : Nat) (lb : Array Value) (eg : ∀ args w, (callFunc g args).run Try.prog w = .ok (.enter g args) w) (V : List En) (N : Nat) (gs : List Nat) (PX : List En → Prop) (w : World)
    (hseq : SeqStopsK Fence.wide 4 Try.prog g lb (fun x : En => #[enV x]) (But w.heap.size gs) (fun xs => xs = V) PX N w) (hN : N ≤ 1000000) :
    Calls Try.prog 24 #[.func (.func g) #[] lb] w (RowP w V) := by
  have HA := Lib.hid (appendSeq_any g lb eg V N gs PX w hseq hN)
  clear hseq
  go_enter Try.func24, Try.ntmps24
  go_wp2_with fail
  refine HA.out.mono ?_
  rintro e w1 ⟨v, rfl, hown, hb⟩
  have HO := Lib.hid hown; have HB := Lib.hid hb
  clear hown hb
  go_wp2_with fail
  go_ret
  exact ⟨v, rfl, HO.out, HB.out⟩

theorem drop_any (a : Option Addr) (len cap : Nat) (l : List En) (g : Int) (hlen : len ≤ 1000000) (w : World) (h : EnAt w a len l) :
    Calls Try.prog 12 #[.slice a len cap, .int .i64 g] w (RowP w (dropE g l)) := by
  have hl := h.2.1
  have HX := Lib.hid h
  have hb0 : Below w.heap.size w (w.alloc (.cells #[.int .i64 g] 3)) := (Below.refl _ w).alloc (Nat.le_refl _) _
  have hz0 : (w.alloc (.cells #[.int .i64 g] 3)).heap[w.heap.size]? = some (.cells #[.int .i64 g] 3 (0, 0)) := heap_alloc_new w _
  obtain ⟨w0, hw0⟩ : ∃ w0, w.alloc (.cells #[.int .i64 g] 3) = w0 := ⟨_, rfl⟩
  obtain ⟨Bg, hBg⟩ : ∃ Bg, w.heap.size = Bg := ⟨_, rfl⟩
  have hs0 : w0.heap.size = Bg + 1 := by rw [← hw0, ← hBg]; simp
  rw [hw0, hBg] at hz0
  rw [hw0] at hb0
  have HT := Lib.hid (those_any a len cap 25 #[.pointer (some ⟨Bg, 0, none⟩)] w0)
  have HW := Lib.hid hw0; have HBG := Lib.hid hBg; have HB0 := Lib.hid hb0; have HZ0 := Lib.hid hz0; have HS0 := Lib.hid hs0
  clear h hb0 hz0 hw0 hBg hs0
  go_enter Try.func12, Try.ntmps12
  go_wp2_with fail
  rw [show w.alloc (.cells #[.int .i64 g] 3) = w0 from HW.out, show w.heap.size = Bg from HBG.out]
  refine HT.out.mono ?_
  rintro e w1 ⟨rfl, hw1⟩
  have hc := cell_two (w := w0) (v1 := .slice a len cap) (v2 := .func (.func 25) #[] #[.pointer (some ⟨Bg, 0, none⟩)]) (t1 := 22) (t2 := 37)
  have hb1 : Below w0.heap.size w0 w1 := by rw [hw1]; exact ((Below.refl _ w0).alloc (Nat.le_refl _) _).alloc (by simp) _
  have hs1 : w1.heap.size = w0.heap.size + 2 := by rw [hw1]; simp
  rw [← hw1] at hc
  have hg1 : w1.heap[Bg]? = some (.cells #[.int .i64 g] 3 (0, 0)) := (hb1.block Bg (by have := HS0.out; omega)).trans HZ0.out
  have hbw : Below w.heap.size w w1 := below_keep HB0.out hb1 HB0.out.size
  have hseq := those_stops 25 #[.pointer (some ⟨Bg, 0, none⟩)] (fun x => !(x.saga == g)) (enters_of Try.func25 (by kernel_rfl) rfl) w0.heap.size (w0.heap.size + 1) w1.heap.size 4 [] a len cap l (by omega) w w1
    (fun x W' hb => by
      obtain ⟨x0, x1, x2, x3, x4, x5, x6⟩ := x
      exact callsIn_wide.2 (drop1_any x0 x1 x2 x3 x4 x5 x6 Bg g _ rfl W' (cell_of_heap (i := 0) ((hb.block Bg (by have := HS0.out; omega) (by simp)).trans hg1))))
    hc.1 hc.2 ⟨by omega, by simp⟩ HX.out (fun W' hb => hbw.trans (hb.below hbw.size (fun k hk => by simp at hk))) (Nat.le_refl _)
  have HC := Lib.hid (collect_any _ _ (enters_of Try.func28 (by kernel_rfl) rfl) _ _ [] _ w1 hseq hlen)
  have HBW := Lib.hid hbw
  clear hc hb1 hs1 hg1 hbw hseq hw1 HT
  go_wp2_with fail
  refine HC.out.mono ?_
  rintro e w2 ⟨v, rfl, hown, hb⟩
  have HO := Lib.hid (Rw.owns_base hown HBW.out.size); have HB := Lib.hid (below_keep HBW.out hb HBW.out.size)
  clear hown hb
  go_wp2_with fail
  go_ret
  exact ⟨v, rfl, HO.out, HB.out⟩

theorem since_any (a : Option Addr) (len cap : Nat) (l : List En) (g : Int) (hlen : len ≤ 1000000) (w : World) (h : EnAt w a len l) :
    Calls Try.prog 14 #[.slice a len cap, .int .i64 g] w (RowP w (sinceE g l)) := by
  have hl := h.2.1
  have HX := Lib.hid h
  have hb0 : Below w.heap.size w (w.alloc (.cells #[.int .i64 g] 3)) := (Below.refl _ w).alloc (Nat.le_refl _) _
  have hz0 : (w.alloc (.cells #[.int .i64 g] 3)).heap[w.heap.size]? = some (.cells #[.int .i64 g] 3 (0, 0)) := heap_alloc_new w _
  obtain ⟨w0, hw0⟩ : ∃ w0, w.alloc (.cells #[.int .i64 g] 3) = w0 := ⟨_, rfl⟩
  obtain ⟨Bg, hBg⟩ : ∃ Bg, w.heap.size = Bg := ⟨_, rfl⟩
  have hs0 : w0.heap.size = Bg + 1 := by rw [← hw0, ← hBg]; simp
  rw [hw0, hBg] at hz0
  rw [hw0] at hb0
  have HT := Lib.hid (those_any a len cap 26 #[.pointer (some ⟨Bg, 0, none⟩)] w0)
  have HW := Lib.hid hw0; have HBG := Lib.hid hBg; have HB0 := Lib.hid hb0; have HZ0 := Lib.hid hz0; have HS0 := Lib.hid hs0
  clear h hb0 hz0 hw0 hBg hs0
  go_enter Try.func14, Try.ntmps14
  go_wp2_with fail
  rw [show w.alloc (.cells #[.int .i64 g] 3) = w0 from HW.out, show w.heap.size = Bg from HBG.out]
  refine HT.out.mono ?_
  rintro e w1 ⟨rfl, hw1⟩
  have hc := cell_two (w := w0) (v1 := .slice a len cap) (v2 := .func (.func 26) #[] #[.pointer (some ⟨Bg, 0, none⟩)]) (t1 := 22) (t2 := 37)
  have hb1 : Below w0.heap.size w0 w1 := by rw [hw1]; exact ((Below.refl _ w0).alloc (Nat.le_refl _) _).alloc (by simp) _
  have hs1 : w1.heap.size = w0.heap.size + 2 := by rw [hw1]; simp
  rw [← hw1] at hc
  have hg1 : w1.heap[Bg]? = some (.cells #[.int .i64 g] 3 (0, 0)) := (hb1.block Bg (by have := HS0.out; omega)).trans HZ0.out
  have hbw : Below w.heap.size w w1 := below_keep HB0.out hb1 HB0.out.size
  have hseq := those_stops 26 #[.pointer (some ⟨Bg, 0, none⟩)] (fun x => decide (g < x.id)) (enters_of Try.func26 (by kernel_rfl) rfl) w0.heap.size (w0.heap.size + 1) w1.heap.size 4 [] a len cap l (by omega) w w1
    (fun x W' hb => by
      obtain ⟨x0, x1, x2, x3, x4, x5, x6⟩ := x
      exact callsIn_wide.2 (since1_any x0 x1 x2 x3 x4 x5 x6 Bg g _ rfl W' (cell_of_heap (i := 0) ((hb.block Bg (by have := HS0.out; omega) (by simp)).trans hg1))))
    hc.1 hc.2 ⟨by omega, by simp⟩ HX.out (fun W' hb => hbw.trans (hb.below hbw.size (fun k hk => by simp at hk))) (Nat.le_refl _)
  have HC := Lib.hid (collect_any _ _ (enters_of Try.func28 (by kernel_rfl) rfl) _ _ [] _ w1 hseq hlen)
  have HBW := Lib.hid hbw
  clear hc hb1 hs1 hg1 hbw hseq hw1 HT
  go_wp2_with fail
  refine HC.out.mono ?_
  rintro e w2 ⟨v, rfl, hown, hb⟩
  have HO := Lib.hid (Rw.owns_base hown HBW.out.size); have HB := Lib.hid (below_keep HBW.out hb HBW.out.size)
  clear hown hb
  go_wp2_with fail
  go_ret
  exact ⟨v, rfl, HO.out, HB.out⟩

end Go.Proofs.Ytbgdbcofdkjocaa.Outbox
