/-
  The contracts of slices.AppendSeq and slices.Collect at pending writes: whatever iterator hands them out.
-/
import Derived.Test.YtklklcohbfnpjaaDiskH
import Derived.RangeFuncBox
set_option linter.unusedVariables false
set_option maxRecDepth 4000
namespace Go.Proofs.Ytklklcohbfnpjaa
open Go.RowKit Go.Shelf DiskP
attribute [local go_sem] Oper.semAt_some

/-- A loop's own variable, a write, in a block of its own. -/
def WBox (W : World) (B : Nat) (x : Wr) : Prop := W.heap[B]? = some (.cells #[.int .i64 (x.1 : Int), .string x.2] 75 (0, 0))
theorem WBox.c0 {W : World} {B : Nat} {x : Wr} (h : WBox W B x) : W.cell? ⟨B, 0, none⟩ = some (.int .i64 (x.1 : Int)) := cell_of_heap h
theorem WBox.c1 {W : World} {B : Nat} {x : Wr} (h : WBox W B x) : W.cell? ⟨B, 1, none⟩ = some (.string x.2) := cell_of_heap h
theorem wbox_own {β : Type} (B C : Nat) (f : β → Wr) : OwnFrom C (fun s W => WBox W B (f s)) := fun s X Y row hs hg hr =>
  (hg.block B (heap_lt hs) (fun e => by obtain ⟨_, o, ho, hc⟩ := hr B e.symm; rw [show X.heap[B]? = _ from hs] at ho; cases ho; cases hc)).trans hs
theorem ne_type_write : (55 : Nat) ≠ 75 := by decide
/-- Behind it: a slice of the call's own, of just these. -/
def Gathers (w : World) (V : List Wr) (e : Ending) (w' : World) : Prop := ∃ v, e = .returned v ∧ w'.ownsRow w.heap.size 75 2 v V.length (wcells V) ∧ Below w.heap.size w w'
set_option maxRecDepth 100000 in
set_option maxHeartbeats 4000000 in
theorem appendSeq_any (g : Nat) (lb : Array Value) (eg : ∀ args w, (callFunc g args).run Try.prog w = .ok (.enter g args) w) (V : List Wr) (N : Nat) (gs : List Nat) (w : World)
    (hseq : SeqStopsK Fence.wide 4 Try.prog g lb (fun x : Wr => #[wval x]) (But w.heap.size gs) (fun xs => xs = V) (fun _ => True) N w) (hN : N ≤ 1000000000) :
    Calls Try.prog 64 #[.slice none 0 0, .func (.func g) #[] lb] w (Gathers w V) := by
  refine (callsIn_wide (n := 5)).1 ?_
  obtain ⟨i0, hi, hz0, hz1, hz2⟩ := info_parts info_write
  have HI := Lib.hid hi; have HZ0 := Lib.hid hz0; have HZ1 := Lib.hid hz1; have HZ2 := Lib.hid hz2
  have HSEQ := Lib.hid hseq
  clear hi hz0 hz1 hz2 hseq
  refine callsIn_of_wp_marks Try.func64 rfl trivial ?_ rfl
  simp only [Try.ntmps64, List.size_toArray, List.length_cons, List.length_nil, Nat.reduceAdd, Nat.reduceSub, Array.replicate_succ, Array.replicate_zero, List.push_toArray, List.append_toArray, List.nil_append, List.cons_append]
  gi_wp2
  have bO := Boxed.new w 55 (.slice none 0 0)
  have hB0 : Below w.heap.size w (w.alloc (.cells #[.slice none 0 0] 55)) := (Below.refl _ w).alloc (Nat.le_refl _) _
  refine wpIn_rangeFunc_ownH rfl (by omega) (gf := g) (lb := lb) rfl trivial eg HSEQ.out But.trans (but_b (by simp)) hB0 (fun _ => rfl)
    (fun pre W => (∃ v, Boxed W w.heap.size 55 v ∧ W.ownsRow w.heap.size 75 2 v pre.length (wcells pre) ∧ True) ∧ Below w.heap.size w W)
    (fun _ _ _ => False)
    (OwnFrom.and (Own.from (holdsRow_own w.heap.size w.heap.size 55 75 2 (fun pre => pre.length) (fun pre => wcells pre) (fun pre v => True)) _) (ownFrom_below (Nat.le_refl _) (by simp)))
    (fun _ _ _ _ _ hs _ _ => hs)
    ⟨⟨_, bO, World.ownsRow_nil _ _ _ _, trivial⟩, hB0⟩
    (fun x a' W => ∃ Bx, w.heap.size < Bx ∧ WBox W Bx x ∧ a' = { tmps := #[.slice none 0 0, .func (.func g) #[] lb, .pointer (some ⟨w.heap.size, 0, none⟩), undef, .slice none 0 0, .pointer (some ⟨Bx, 0, none⟩), .func (.func g) #[] lb, wval x, undef, undef, undef, undef, undef], defers := [] })
    ?hax ?assign ?body ?done ?stop
  case hax =>
    rintro x a' s X Y row ⟨Bx, h1, h2, h3⟩ hg hr
    exact ⟨Bx, h1, wbox_own Bx _ (fun _ : Unit => x) () X Y row h2 hg hr, h3⟩
  case assign =>
    rintro l pre x W K ⟨⟨v, hv, hrow, _⟩, hB⟩ hK
    have hBW : Below w.heap.size W (W.alloc (.cells #[.int .i64 (x.1 : Int), .string x.2] 75)) := (Below.refl _ W).alloc hB.size _
    have hlt : w.heap.size < W.heap.size := hv.lt
    gi_wp2
    exact hK _ _ ((KeepsOthers.alloc _ _).from _) (But.of_below hBW) ⟨⟨v, hv.alloc _, hrow.alloc _, trivial⟩, hB.trans hBW⟩ ⟨W.heap.size, hlt, World.alloc_heap_new W _, rfl⟩
  case body =>
    rintro l pre x a' W hl hr ⟨⟨v, hv, hrow, _⟩, hB⟩ ⟨Bx, hBx, hxb, rfl⟩ hlt
    have hc := hv.cell
    have x0 := hxb.c0
    have x1 := hxb.c1
    gi_wp2_with (gi_at_builtin; refine wpListIn_append_own _ rfl (.tmp 8) (.tmp 10) 55 rfl w.heap.size 75 i0 _ 2 24 Try.underlying55 HI.out HZ0.out HZ1.out HZ2.out rfl (by decide) v pre.length (wcells pre) rfl (hrow.alloc _) ⟨W.heap.size, 0, none⟩ 1 1 [.int .i64 (x.1 : Int), .string x.2] rfl rfl (cell_two_new _ _ _ _) (by simp [Value.oneCell']) (by unfold maxLen; omega) (by omega) (by have := hB.size; simp; omega) ?_; intro v' w1 hown' hgrow _; obtain ⟨g', cap', rfl⟩ := ownsRow_succ hown'; obtain ⟨hv1, hv2, hr2, hk2, hb2⟩ := hv.appended (by decide) hrow hB.size (Nat.le_refl _) hown' hgrow; have hc1 := hv1.cell; have hf1 := hv1.frozen)
    exact ⟨hk2.from _, But.of_below hb2, ⟨⟨_, hv2, by rw [wcells_append, List.length_append]; exact hr2, trivial⟩, hB.trans hb2⟩⟩
  case done =>
    rintro D ys W hD rfl ⟨⟨v, hv, hrow, _⟩, hB⟩ hK
    have hc := hv.cell
    gi_wp2
    refine ⟨by simp, .inl ⟨_, _, rfl, run_takeDeferred hK, ?_⟩⟩
    exact ⟨_, results_tmp rfl _ _ _, v, rfl, ownsRow_putObj hrow _ hK rfl, hB.trans (belowK_b (w := w) (Nat.le_refl _) W D _ _ (by simp at hD; omega) hK rfl rfl)⟩
  case stop =>
    rintro D c pre W _ _ h _
    exact h.elim
theorem collect_any (g : Nat) (lb : Array Value) (eg : ∀ args w, (callFunc g args).run Try.prog w = .ok (.enter g args) w) (V : List Wr) (N : Nat) (gs : List Nat) (w : World)
    (hseq : SeqStopsK Fence.wide 4 Try.prog g lb (fun x : Wr => #[wval x]) (But w.heap.size gs) (fun xs => xs = V) (fun _ => True) N w) (hN : N ≤ 1000000000) :
    Calls Try.prog 53 #[.func (.func g) #[] lb] w (Gathers w V) := by
  have HA := Lib.hid (appendSeq_any g lb eg V N gs w hseq hN)
  clear hseq
  go_enter Try.func53, Try.ntmps53
  go_wp2_with fail
  refine HA.out.mono ?_
  rintro e w1 ⟨v, rfl, hown, hb⟩
  have HO := Lib.hid hown; have HB := Lib.hid hb
  clear hown hb
  go_wp2_with fail
  go_ret
  exact ⟨v, rfl, HO.out, HB.out⟩
end Go.Proofs.Ytklklcohbfnpjaa
