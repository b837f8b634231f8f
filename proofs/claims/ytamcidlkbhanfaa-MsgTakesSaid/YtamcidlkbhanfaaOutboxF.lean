/-
  The contract of Find: any entries; what was there stays as it was.
-/
import Derived.Test.YtamcidlkbhanfaaOutboxE
set_option linter.unusedVariables false
set_option linter.unusedSimpArgs false
set_option maxRecDepth 4000
set_option maxRecDepth 4000
namespace Go.Proofs.Ytamcidlkbhanfaa.Outbox
open Go.RowKit OutP
open Go.Proofs.Ytamcidlkbhanfaa.Kt
open Go.Proofs.Ytamcidlkbhanfaa.It Go.Shelf
attribute [local go_sem] Oper.semAt_some

theorem findE_filter (g : Int) : ∀ l : List En, findE g l = (l.filter fun x => x.saga == g).head?
  | [] => rfl
  | y :: r => by
    rw [findE, List.filter_cons]
    by_cases h : y.saga = g
    · simp [h]
    · simp [h, findE_filter g r]
theorem findE_take {g : Int} {l : List En} {k : Nat} {x : En} {r : List En} (h : x :: r = (l.take k).filter fun x => x.saga == g) : findE g l = some x := by
  rw [findE_filter]
  conv => lhs; rw [← List.take_append_drop k l, List.filter_append, ← h]
  rfl
theorem grown_put7 (w : World) (k : Nat) (v0 v1 v2 v3 v4 v5 v6 : Value) : w.grownBy (put7 w k v0 v1 v2 v3 v4 v5 v6) (some k) := by
  have tr : ∀ {a b c : World}, a.grownBy b (some k) → b.grownBy c (some k) → a.grownBy c (some k) := fun h k => h.andThen k (fun j e => .inr e)
  exact tr (tr (tr (tr (tr (tr (Lib.grownBy_setCell _ k 0 v0) (Lib.grownBy_setCell _ k 1 v1)) (Lib.grownBy_setCell _ k 2 v2)) (Lib.grownBy_setCell _ k 3 v3)) (Lib.grownBy_setCell _ k 4 v4)) (Lib.grownBy_setCell _ k 5 v5)) (Lib.grownBy_setCell _ k 6 v6)
theorem keeps_put7 (w : World) (k : Nat) (v0 v1 v2 v3 v4 v5 v6 : Value) : KeepsOthers w (put7 w k v0 v1 v2 v3 v4 v5 v6) :=
  ((((((KeepsOthers.setCell _ _ _).trans (KeepsOthers.setCell _ _ _)).trans (KeepsOthers.setCell _ _ _)).trans (KeepsOthers.setCell _ _ _)).trans (KeepsOthers.setCell _ _ _)).trans (KeepsOthers.setCell _ _ _)).trans (KeepsOthers.setCell _ _ _)
/-- The block of what is found, and of whether. -/
abbrev fdW (w : World) (g : Int) : World := ((w.alloc (.cells #[.int .i64 g] 3)).alloc (.cells #[.int .i64 0, .int .i64 0, .int .i64 0, .bool false, .int .i64 0, .int .i64 0, .bool false] 23)).alloc (.cells #[.bool false] 4)
set_option maxRecDepth 100000 in
set_option maxHeartbeats 4000000 in
theorem find_any (a : Option Addr) (len cap : Nat) (l : List En) (g : Int) (o : Option En) (ho : findE g l = o) (hlen : len ≤ 1000000) (w : World) (h : EnAt w a len l) :
    Calls Try.prog 51 #[.slice a len cap, .int .i64 g] w fun e w' => e = .returned (.tuple #[enV (getE o), .bool o.isSome]) ∧ Below w.heap.size w w' := by
  have hl := h.2.1
  have HX := Lib.hid h
  have HO := Lib.hid ho
  have hb3 : Below w.heap.size w (fdW w g) := (((Below.refl w.heap.size w).alloc (Nat.le_refl _) _).alloc (by simp) _).alloc (by simp; omega) _
  obtain ⟨Bg, hBg⟩ : ∃ Bg, w.heap.size = Bg := ⟨_, rfl⟩
  have z0 : (fdW w g).heap[Bg]? = some (.cells #[.int .i64 g] 3 (0, 0)) := by
    rw [← hBg, Below.heap_alloc _ _ _ (by simp; omega), Below.heap_alloc _ _ _ (by simp)]; exact heap_alloc_new w _
  have z1 : At7 23 (fdW w g) (Bg + 1) (.int .i64 0) (.int .i64 0) (.int .i64 0) (.bool false) (.int .i64 0) (.int .i64 0) (.bool false) := by
    have hn := heap_alloc_new (w.alloc (.cells #[.int .i64 g] 3)) (.cells #[.int .i64 0, .int .i64 0, .int .i64 0, .bool false, .int .i64 0, .int .i64 0, .bool false] 23)
    rw [World.size_alloc, hBg] at hn
    show (fdW w g).heap[Bg + 1]? = _
    rw [Below.heap_alloc _ _ _ (by simp; omega)]
    exact hn
  have z2 : (fdW w g).heap[Bg + 1 + 1]? = some (.cells #[.bool false] 4 (0, 0)) := by
    have hn := heap_alloc_new ((w.alloc (.cells #[.int .i64 g] 3)).alloc (.cells #[.int .i64 0, .int .i64 0, .int .i64 0, .bool false, .int .i64 0, .int .i64 0, .bool false] 23)) (.cells #[.bool false] 4)
    rw [World.size_alloc, World.size_alloc, hBg] at hn
    exact hn
  have hs3 : (fdW w g).heap.size = Bg + 3 := by rw [← hBg]; simp
  obtain ⟨w3, hw3⟩ : ∃ w3, fdW w g = w3 := ⟨_, rfl⟩
  rw [hw3] at hb3 z0 z1 z2 hs3
  have HT := Lib.hid (those_any a len cap 64 #[.pointer (some ⟨Bg, 0, none⟩)] w3)
  have HW := Lib.hid hw3; have HBG := Lib.hid hBg; have HB3 := Lib.hid hb3; have HZ0 := Lib.hid z0; have HZ1 := Lib.hid z1; have HZ2 := Lib.hid z2; have HS3 := Lib.hid hs3
  clear h ho hb3 z0 z1 z2 hw3 hs3 hBg
  refine (callsIn_wide (n := 6)).1 ?_
  refine callsIn_of_wp_marks Try.func51 rfl trivial ?_ rfl
  simp only [Try.ntmps51, List.size_toArray, List.length_cons, List.length_nil, Nat.reduceAdd, Nat.reduceSub, Array.replicate_succ, Array.replicate_zero, List.push_toArray, List.append_toArray, List.nil_append, List.cons_append]
  gi_wp2_with fail
  refine ⟨trivial, ?_⟩
  rw [show ((w.alloc (.cells #[.int .i64 g] 3)).alloc (.cells #[.int .i64 0, .int .i64 0, .int .i64 0, .bool false, .int .i64 0, .int .i64 0, .bool false] 23)).alloc (.cells #[.bool false] 4) = w3 from HW.out, show w.heap.size = Bg from HBG.out]
  refine (callsIn_wide.2 HT.out).mono ?_
  rintro e w5 ⟨rfl, hw5⟩
  have hc := cell_two (w := w3) (v1 := .slice a len cap) (v2 := .func (.func 64) #[] #[.pointer (some ⟨Bg, 0, none⟩)]) (t1 := 57) (t2 := 58)
  have hb5 : Below w3.heap.size w3 w5 := by rw [hw5]; exact ((Below.refl _ w3).alloc (Nat.le_refl _) _).alloc (by simp) _
  have hs5 : w5.heap.size = Bg + 5 := by rw [hw5]; have := HS3.out; simp; omega
  rw [← hw5] at hc
  have hg5 : w5.heap[Bg]? = some (.cells #[.int .i64 g] 3 (0, 0)) := (hb5.block Bg (by have := HS3.out; omega)).trans HZ0.out
  have h15 : At7 23 w5 (Bg + 1) (.int .i64 0) (.int .i64 0) (.int .i64 0) (.bool false) (.int .i64 0) (.int .i64 0) (.bool false) := (hb5.block (Bg + 1) (by have := HS3.out; omega)).trans HZ1.out
  have h25 : w5.heap[Bg + 1 + 1]? = some (.cells #[.bool false] 4 (0, 0)) := (hb5.block (Bg + 1 + 1) (by have := HS3.out; omega)).trans HZ2.out
  have hbw : Below w.heap.size w w5 := below_keep HB3.out hb5 HB3.out.size
  have hseq := those_stops 64 #[.pointer (some ⟨Bg, 0, none⟩)] (fun x => x.saga == g) (enters_of Try.func64 (by kernel_rfl) rfl) w3.heap.size (w3.heap.size + 1) w5.heap.size 5 [] a len cap l (by omega) w w5
    (fun x W' hb => by
      obtain ⟨x0, x1, x2, x3, x4, x5, x6⟩ := x
      exact callsIn_wide.2 (find1_any x0 x1 x2 x3 x4 x5 x6 Bg g _ rfl W' (cell_of_heap (i := 0) ((hb.block Bg (by omega) (by simp)).trans hg5))))
    hc.1 hc.2 ⟨by have := HS3.out; omega, by simp⟩ HX.out (fun W' hb => hbw.trans (hb.below hbw.size (fun k hk => by simp at hk))) (Nat.le_refl _)
  have HSEQ := Lib.hid hseq; have HBW := Lib.hid hbw; have H15 := Lib.hid h15; have H25 := Lib.hid h25; have HS5 := Lib.hid hs5
  clear hc hb5 hg5 h15 h25 hbw hseq hw5 HT hs5
  gi_wp2_with fail
  refine wpIn_rangeFunc_ownH rfl (by omega) (gf := 67) (lb := #[.pointer (some ⟨w3.heap.size, 0, none⟩), .pointer (some ⟨w3.heap.size + 1, 0, none⟩)]) rfl trivial (enters_of Try.func67 (by kernel_rfl) rfl) HSEQ.out But.trans (but_b (Nat.le_refl _)) (Below.refl _ _) (fun _ => rfl)
    (fun pre W => (pre = [] ∧ At7 23 W (Bg + 1) (.int .i64 0) (.int .i64 0) (.int .i64 0) (.bool false) (.int .i64 0) (.int .i64 0) (.bool false) ∧ W.heap[Bg + 1 + 1]? = some (.cells #[.bool false] 4 (0, 0))) ∧ But w5.heap.size [] w5 W)
    (fun c pre W => ((∃ x, pre = [x] ∧ EBox W (Bg + 1) x ∧ W.heap[Bg + 1 + 1]? = some (.cells #[.bool true] 4 (0, 0))) ∧ c = .ret) ∧ But w5.heap.size [Bg + 1, Bg + 1 + 1] w5 W)
    ?hi ?hix
    ⟨⟨rfl, H15.out, H25.out⟩, But.refl _ _ _⟩
    (fun x a' W => ∃ Bx, w5.heap.size ≤ Bx ∧ EBox W Bx x ∧ a' = { tmps := #[.slice a len cap, .int .i64 g, undef, .pointer (some ⟨Bg, 0, none⟩), .pointer (some ⟨Bg + 1, 0, none⟩), .pointer (some ⟨Bg + 1 + 1, 0, none⟩), .pointer (some ⟨Bx, 0, none⟩), .slice a len cap, .func (.func 64) #[] #[.pointer (some ⟨Bg, 0, none⟩)], .func (.func 67) #[] #[.pointer (some ⟨w3.heap.size, 0, none⟩), .pointer (some ⟨w3.heap.size + 1, 0, none⟩)], enV x, undef, undef], defers := [] })
    ?hax ?assign ?body ?done ?stop
  case hi =>
    rintro pre X Y row ⟨⟨h0, h1, h2⟩, hB⟩ hg hr
    have hr2 : ∀ r, row = some r → ∃ o : Obj, X.heap[r]? = some o ∧ o.isCells = false := fun r e => (hr r e).2
    exact ⟨⟨h0, cells_kept h1 hg hr2, cells_kept h2 hg hr2⟩, hB.trans (But.of_grown hg hB.size (fun k e => .inl (hr k e).1))⟩
  case hix =>
    rintro c pre X Y row ⟨⟨⟨x, h0, h1, h2⟩, hc⟩, hB⟩ hg hr
    have hr2 : ∀ r, row = some r → ∃ o : Obj, X.heap[r]? = some o ∧ o.isCells = false := fun r e => (hr r e).2
    exact ⟨⟨⟨x, h0, cells_kept h1 hg hr2, cells_kept h2 hg hr2⟩, hc⟩, hB.trans (But.of_grown hg hB.size (fun k e => .inl (hr k e).1))⟩
  case hax =>
    rintro x a' s X Y row ⟨Bx, h1, h2, h3⟩ hg hr
    exact ⟨Bx, h1, ebox_own Bx _ (fun _ : Unit => x) () X Y row h2 hg hr, h3⟩
  case assign =>
    rintro l' pre ⟨x0, x1, x2, x3, x4, x5, x6⟩ W K ⟨⟨hpre, h1, h2⟩, hB⟩ hK
    have hBW : Below W.heap.size W (W.alloc (.cells #[.int .i64 x0, .int .i64 x1, .int .i64 x2, .bool x3, .int .i64 x4, .int .i64 x5, .bool x6] 23)) := (Below.refl _ W).alloc (Nat.le_refl _) _
    have hsz := hB.size
    have HBB := Lib.hid (But.of_below (gs := []) (hBW.mono hsz))
    have HBN := Lib.hid (hB.trans HBB.out)
    have H1 := Lib.hid (h1.keep hBW)
    have H2 := Lib.hid ((hBW.block _ (heap_lt h2)).trans h2)
    clear h1 h2 hBW
    dsimp only [enV]
    gi_wp2
    exact hK _ _ ((KeepsOthers.alloc _ _).from _) HBB.out ⟨⟨hpre, H1.out, H2.out⟩, HBN.out⟩ ⟨W.heap.size, hsz, World.alloc_heap_new W _, rfl⟩
  case body =>
    rintro l' pre ⟨x0, x1, x2, x3, x4, x5, x6⟩ a' W hl' hr ⟨⟨hpre, h1, h2⟩, hB⟩ ⟨Bx, hBx, hxb, rfl⟩ hlt
    subst hpre
    obtain ⟨q0, q1, q2, q3, q4, q5, q6⟩ := cells7 (show At7 23 W Bx (.int .i64 x0) (.int .i64 x1) (.int .i64 x2) (.bool x3) (.int .i64 x4) (.int .i64 x5) (.bool x6) from hxb)
    obtain ⟨c0, c1, c2, c3, c4, c5, c6⟩ := cells7 h1
    obtain ⟨f0, f1, f2, f3, f4, f5, f6⟩ := free7 h1
    have hp7 := heap_put7 h1 (.int .i64 x0) (.int .i64 x1) (.int .i64 x2) (.bool x3) (.int .i64 x4) (.int .i64 x5) (.bool x6)
    obtain ⟨wz, hwz⟩ : ∃ wz, put7 W (Bg + 1) (.int .i64 x0) (.int .i64 x1) (.int .i64 x2) (.bool x3) (.int .i64 x4) (.int .i64 x5) (.bool x6) = wz := ⟨_, rfl⟩
    have hg7 := grown_put7 W (Bg + 1) (.int .i64 x0) (.int .i64 x1) (.int .i64 x2) (.bool x3) (.int .i64 x4) (.int .i64 x5) (.bool x6)
    have hk7 := keeps_put7 W (Bg + 1) (.int .i64 x0) (.int .i64 x1) (.int .i64 x2) (.bool x3) (.int .i64 x4) (.int .i64 x5) (.bool x6)
    rw [hwz] at hp7 hg7 hk7
    have hw2 : wz.heap[Bg + 1 + 1]? = some (.cells #[.bool false] 4 (0, 0)) := (hg7.block _ (heap_lt h2) (by simp)).trans h2
    have k0 := cell_of_heap (i := 0) hw2
    have k1 := frozen_of_heap (i := 0) hw2
    have hwb := Lib.heap_setCell_same (i := 0) hw2 (.bool true)
    have hgb := Lib.grownBy_setCell wz (Bg + 1 + 1) 0 (.bool true)
    have HP7 := Lib.hid ((hgb.block (Bg + 1) (heap_lt hp7) (by simp)).trans hp7)
    have HWB := Lib.hid hwb
    have hs := hB.size
    have HBN : Hid (But w5.heap.size [Bg + 1, Bg + 1 + 1] w5 (wz.setCell ⟨Bg + 1 + 1, 0, none⟩ (.bool true))) :=
      ((hB.mono (fun k hk => by simp at hk)).trans (But.of_grown hg7 hs (fun k e => by cases e; exact .inr (by simp)))).trans (But.of_grown hgb (Nat.le_trans hs hg7.size) (fun k e => by cases e; exact .inr (by simp)))
    have HKK := Lib.hid (hk7.trans (KeepsOthers.setCell wz ⟨Bg + 1 + 1, 0, none⟩ (.bool true)))
    unfold put7 at hwz
    clear h1 h2 hxb hp7 hg7 hk7 hw2 hwb hgb hB
    dsimp only [enV]
    gi_wp2_with fail
    exact ⟨HKK.out.from _, ⟨⟨_, rfl, HP7.out, HWB.out⟩, rfl⟩, HBN.out⟩
  case done =>
    rintro D ys W hD hys ⟨⟨h0, h1, h2⟩, hB⟩ hK
    subst h0
    have ho : o = none := by rw [← HO.out, findE_filter, ← hys]; rfl
    subst ho
    obtain ⟨c0, c1, c2, c3, c4, c5, c6⟩ := cells7 h1
    obtain ⟨f0, f1, f2, f3, f4, f5, f6⟩ := free7 h1
    have hp7 := heap_put7 h1 (.int .i64 0) (.int .i64 0) (.int .i64 0) (.bool false) (.int .i64 0) (.int .i64 0) (.bool false)
    obtain ⟨wz, hwz⟩ : ∃ wz, put7 W (Bg + 1) (.int .i64 0) (.int .i64 0) (.int .i64 0) (.bool false) (.int .i64 0) (.int .i64 0) (.bool false) = wz := ⟨_, rfl⟩
    have hg7 := grown_put7 W (Bg + 1) (.int .i64 0) (.int .i64 0) (.int .i64 0) (.bool false) (.int .i64 0) (.int .i64 0) (.bool false)
    have hk7 := keeps_put7 W (Bg + 1) (.int .i64 0) (.int .i64 0) (.int .i64 0) (.bool false) (.int .i64 0) (.int .i64 0) (.bool false)
    rw [hwz] at hp7 hg7 hk7
    have hw2 : wz.heap[Bg + 1 + 1]? = some (.cells #[.bool false] 4 (0, 0)) := (hg7.block _ (heap_lt h2) (by simp)).trans h2
    have k0 := cell_of_heap (i := 0) hw2
    have k1 := frozen_of_heap (i := 0) hw2
    have hwb := Lib.heap_setCell_same (i := 0) hw2 (.bool false)
    have hgb := Lib.grownBy_setCell wz (Bg + 1 + 1) 0 (.bool false)
    have hp8 := (hgb.block (Bg + 1) (heap_lt hp7) (by simp)).trans hp7
    have hs := hB.size
    have hKK := (hk7.trans (KeepsOthers.setCell wz ⟨Bg + 1 + 1, 0, none⟩ (.bool false))).same D _ hK rfl
    have hgD := grownBy_putObj' (wz.setCell ⟨Bg + 1 + 1, 0, none⟩ (.bool false)) D (.deferred none)
    have hp9 : At7 23 ((wz.setCell ⟨Bg + 1 + 1, 0, none⟩ (.bool false)).putObj D (.deferred none)) (Bg + 1) (.int .i64 0) (.int .i64 0) (.int .i64 0) (.bool false) (.int .i64 0) (.int .i64 0) (.bool false) := (hgD.block (Bg + 1) (heap_lt hp8) (fun e => by have := HS5.out; cases e; omega)).trans hp8
    have hw9 := (hgD.block (Bg + 1 + 1) (heap_lt hwb) (fun e => by have := HS5.out; cases e; omega)).trans hwb
    have HBE : Hid (Below w.heap.size w ((wz.setCell ⟨Bg + 1 + 1, 0, none⟩ (.bool false)).putObj D (.deferred none))) := by
      have h5 := HS5.out; have hbg := HBG.out
      exact (((HBW.out.trans (hB.below (B := w.heap.size) (by omega) (fun k hk => by simp at hk))).grown hg7 (by omega) (fun k e => by cases e; omega)).grown hgb (Nat.le_trans (by omega) hg7.size) (fun k e => by cases e; omega)).grown hgD (Nat.le_trans (Nat.le_trans (by omega) hg7.size) hgb.size) (fun k e => by cases e; omega)
    have HP9 := Lib.hid hp9; have HW9 := Lib.hid hw9; have HKK := Lib.hid hKK
    unfold put7 at hwz
    clear h1 h2 hp7 hg7 hk7 hw2 hwb hgb hB hp8 hp9 hw9 hKK hgD hK
    gi_wp2_with fail
    refine ⟨by simp, .inl ⟨_, _, rfl, run_takeDeferred HKK.out, ?_⟩⟩
    exact ⟨_, results_en2 (j := 4) (k := 5) rfl _ _ (Bg + 1) (Bg + 1 + 1) _ _ _ _ _ _ _ _ rfl rfl HP9.out (cell_of_heap (i := 0) HW9.out), rfl, HBE.out⟩
  case stop =>
    rintro D c pre W hD ⟨k, hk, hpre⟩ ⟨⟨⟨⟨x0, x1, x2, x3, x4, x5, x6⟩, h0, h1, h2⟩, hc⟩, hB⟩ hK
    subst hc
    have ho : o = some ⟨x0, x1, x2, x3, x4, x5, x6⟩ := by rw [← HO.out]; exact findE_take (h0.symm.trans hpre)
    subst ho
    have hgD := grownBy_putObj' W D (.deferred none)
    have hp9 : At7 23 (W.putObj D (.deferred none)) (Bg + 1) (.int .i64 x0) (.int .i64 x1) (.int .i64 x2) (.bool x3) (.int .i64 x4) (.int .i64 x5) (.bool x6) := (hgD.block (Bg + 1) (heap_lt h1) (fun e => by have := HS5.out; cases e; omega)).trans h1
    have hw9 := (hgD.block (Bg + 1 + 1) (heap_lt h2) (fun e => by have := HS5.out; cases e; omega)).trans h2
    have HBE : Hid (Below w.heap.size w (W.putObj D (.deferred none))) := by
      have h5 := HS5.out; have hbg := HBG.out; have hs := hB.size
      exact (HBW.out.trans (hB.below (B := w.heap.size) (by omega) (fun k hk => by simp at hk; omega))).grown hgD (by omega) (fun k e => by cases e; omega)
    have HP9 := Lib.hid hp9; have HW9 := Lib.hid hw9; have HK := Lib.hid hK
    clear h0 h1 h2 hB hp9 hw9 hgD hK hpre
    gi_wp2_with fail
    refine ⟨by simp, .inl ⟨_, _, rfl, run_takeDeferred HK.out, ?_⟩⟩
    exact ⟨_, results_en2 (j := 4) (k := 5) rfl _ _ (Bg + 1) (Bg + 1 + 1) _ _ _ _ _ _ _ _ rfl rfl HP9.out (cell_of_heap (i := 0) HW9.out), rfl, HBE.out⟩
end Go.Proofs.Ytamcidlkbhanfaa.Outbox
