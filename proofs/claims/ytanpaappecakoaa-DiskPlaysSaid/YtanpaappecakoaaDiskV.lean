/-
  A disk of the call's own; the chapter's examples (awake); do at a disk that nobody made.
-/
import Derived.Test.YtanpaappecakoaaDiskU
set_option linter.unusedVariables false
namespace Go.Proofs.Ytanpaappecakoaa
open Go.RowKit DiskP

/-- A disk in memory that is new since w0. -/
def Own (w0 w : World) (b : Nat) (st : St) : Prop := ∃ L, Dk w L b st ∧ (∀ k ∈ L, w0.heap.size ≤ k) ∧ Below w0.heap.size w0 w
theorem Own.step {w0 w : World} {b : Nat} {st st' : St} {f : Nat} {args : Array Value} {v : Value} (h : Own w0 w b st) (hc : ∀ L, Dk w L b st → Calls Try.prog f args w (Did w L b st' v)) :
    Calls Try.prog f args w fun e w' => e = .returned v ∧ Own w0 w' b st' := by
  obtain ⟨L, hD, hL, hB⟩ := h
  refine (hc L hD).mono ?_
  rintro e w' ⟨rfl, L', hD', hU⟩
  exact ⟨rfl, L', hD', fun k hk => (hU.sub k hk).elim (hL k) (fun h => Nat.le_trans hB.size h), hB.trans (hU.below hL hB.size)⟩
theorem Own.below {w0 w w' : World} {b : Nat} {st : St} (h : Own w0 w b st) (hb : Below w.heap.size w w') : Own w0 w' b st := by
  obtain ⟨L, hD, hL, hB⟩ := h
  exact ⟨L, dk_below hD hb, hL, hB.trans (hb.mono hB.size)⟩
theorem Own.bel {w0 w : World} {b : Nat} {st : St} (h : Own w0 w b st) : Below w0.heap.size w0 w := h.choose_spec.2.2
theorem Own.still {w0 w : World} {b : Nat} {st : St} {f : Nat} {args : Array Value} {v : Value} (h : Own w0 w b st) (hc : ∀ L, Dk w L b st → Calls Try.prog f args w fun e w' => e = .returned v ∧ Below w.heap.size w w') :
    Calls Try.prog f args w fun e w' => e = .returned v ∧ Own w0 w' b st := by
  obtain ⟨L, hD, hL, hB⟩ := h
  refine (hc L hD).mono ?_
  rintro e w' ⟨rfl, hb⟩
  exact ⟨rfl, L, dk_below hD hb, hL, hB.trans (hb.mono hB.size)⟩
theorem own_new (n : Nat) (w0 w : World) (h1 : 2 ≤ n) (h2 : n ≤ 512) (hB : Below w0.heap.size w0 w) :
    Calls Try.prog 10 #[.int .i64 (n : Int)] w fun e w' => ∃ b, e = .returned (.tuple #[.pointer (some ⟨b, 0, none⟩), .int .i64 0]) ∧ Own w0 w' b (fresh (List.replicate n DiskP.blank)) := by
  refine (new_yes n w h1 h2).mono ?_
  rintro e w' ⟨b, L, rfl, hD, hL, hb⟩
  exact ⟨b, rfl, L, hD, fun k hk => Nat.le_trans hB.size (hL k hk), hB.trans (hb.mono hB.size)⟩
theorem new_ok (n : Nat) (h1 : 2 ≤ n) (h2 : n ≤ 512) : Ok 0 (fresh (List.replicate n DiskP.blank)) :=
  fresh_ok (by simpa using h1) (by simpa using h2) (fun s hs => by rw [(List.mem_replicate.1 hs).2]; exact fill_size 0 128)

def exA : ByteArray := dat 97 128
def exB : ByteArray := dat 98 128
def ex0 : St := fresh (List.replicate 2 DiskP.blank)
def ex1 : St := (wr ex0 1 exA).2
def ex2 : St := cr ex1 [] 0
def ex3 : St := (wr ex2 1 exA).2
def ex4 : St := (fl ex3).2
def ex5 : St := (wr ex4 1 exB).2
def ex6 : St := cr ex5 [true] 1
theorem ok0 : Ok 0 ex0 := new_ok 2 (by decide) (by decide)
theorem ok1 : Ok 1 ex1 := wr_ok ok0 _ _
theorem ok2 : Ok 1 ex2 := cr_ok ok1 _ _
theorem ok3 : Ok 2 ex3 := wr_ok ok2 _ _
theorem ok4 : Ok 3 ex4 := fl_ok ok3
theorem ok5 : Ok 4 ex5 := wr_ok ok4 _ _
theorem ok6 : Ok 4 ex6 := cr_ok ok5 _ _
theorem exw1 : (wr ex0 1 exA).1 = 0 := by kernel_rfl
theorem exw3 : (wr ex2 1 exA).1 = 0 := by kernel_rfl
theorem exf4 : (fl ex3).1 = 0 := by kernel_rfl
theorem exw5 : (wr ex4 1 exB).1 = 0 := by kernel_rfl
theorem exr1 : rd ex6 1 = (⟨#[98]⟩ ++ exA.extract 1 exA.size, 0) := by kernel_rfl
theorem exr0 : rd ex6 0 = (DiskP.blank, 0) := by kernel_rfl
theorem exo : ex6.ops = 4 := by kernel_rfl
theorem exw7 : (wr ex6 2 exA).1 = 11 := by kernel_rfl
theorem exa : exA.size = 128 := by kernel_rfl
theorem exb : exB.size = 128 := by kernel_rfl
set_option maxRecDepth 100000 in
set_option maxHeartbeats 4000000 in
theorem awake_any (w : World) : Calls Try.prog 9 #[] w fun e w' => e = .returned (.bool true) ∧ Below w.heap.size w w' := by
  have hn := own_new 2 w w (by decide) (by decide) (Below.refl _ w)
  have hda := fun w => data_any 0 0 97 128 (.slice none 0 0) w rfl
  have hdb := fun w => data_any 0 0 98 128 (.slice none 0 0) w rfl
  change Calls _ _ _ _ (fun e w' => ∃ b, e = .returned (.tuple #[.pointer (some ⟨b, 0, none⟩), .int .i64 0]) ∧ Own w w' b ex0) at hn
  change ∀ w, Calls _ _ _ _ (fun e w' => e = .returned (.string exA) ∧ _) at hda
  change ∀ w, Calls _ _ _ _ (fun e w' => e = .returned (.string exB) ∧ _) at hdb
  have h1 := fun w b L (h : Dk w L b ex0) => write_dk b 0 ex0 L 1 exA w h ok0 (by decide) (by rw [exa]; decide)
  rw [exw1] at h1
  change ∀ w b L, Dk w L b ex0 → Calls _ _ _ _ (Did w L b ex1 _) at h1
  have h2 := fun w b L (h : Dk w L b ex1) => crash_dk b 1 ex1 L none 0 0 [] 0 w h ok1 (by decide) ⟨rfl, .inl rfl⟩ (by decide)
  change ∀ w b L, Dk w L b ex1 → Calls _ _ _ _ (Did w L b ex2 _) at h2
  have h3 := fun w b L (h : Dk w L b ex2) => write_dk b 1 ex2 L 1 exA w h ok2 (by decide) (by rw [exa]; decide)
  rw [exw3] at h3
  change ∀ w b L, Dk w L b ex2 → Calls _ _ _ _ (Did w L b ex3 _) at h3
  have h4 := fun w b L (h : Dk w L b ex3) => flush_dk b 2 ex3 L w h ok3 (by decide)
  rw [exf4] at h4
  change ∀ w b L, Dk w L b ex3 → Calls _ _ _ _ (Did w L b ex4 _) at h4
  have h5 := fun w b L (h : Dk w L b ex4) => write_dk b 3 ex4 L 1 exB w h ok4 (by decide) (by rw [exb]; decide)
  rw [exw5] at h5
  change ∀ w b L, Dk w L b ex4 → Calls _ _ _ _ (Did w L b ex5 _) at h5
  have h6 := fun w b L g (h : Dk w L b ex5) (hk : BoolsAt w (some ⟨g, 0, none⟩) 1 [true]) => crash_dk b 4 ex5 L (some ⟨g, 0, none⟩) 1 1 [true] 1 w h ok5 (by decide) hk (by decide)
  change ∀ w b L g, Dk w L b ex5 → _ → Calls _ _ _ _ (Did w L b ex6 _) at h6
  have h7 := fun w b L (h : Dk w L b ex6) => read_dk b 4 ex6 L 1 w h ok6 (by decide)
  rw [exr1] at h7
  have h8 := fun w b L (h : Dk w L b ex6) => read_dk b 4 ex6 L 0 w h ok6 (by decide)
  rw [exr0] at h8
  have h9 := fun w b L (h : Dk w L b ex6) => ops_dk b ex6 L w h
  rw [exo] at h9
  have h10 := fun w b L (h : Dk w L b ex6) => write_dk b 4 ex6 L 2 exA w h ok6 (by decide) (by rw [exa]; decide)
  rw [exw7] at h10
  have hbk := blank_rk
  have HN := Lib.hid hn; have HDA := Lib.hid hda; have HDB := Lib.hid hdb
  have H1 := Lib.hid h1; have H2 := Lib.hid h2; have H3 := Lib.hid h3; have H4 := Lib.hid h4; have H5 := Lib.hid h5; have H6 := Lib.hid h6
  have H7 := Lib.hid h7; have H8 := Lib.hid h8; have H9 := Lib.hid h9; have H10 := Lib.hid h10; have HBK := Lib.hid hbk
  have hsz : exA.size = 128 := exa
  clear hn hda hdb h1 h2 h3 h4 h5 h6 h7 h8 h9 h10 hbk
  generalize exA = A at *
  generalize DiskP.blank = bl at *
  go_enter Try.func9, Try.ntmps9
  go_wp2_with fail
  refine HN.out.mono ?_
  rintro e w1 ⟨b, rfl, hO⟩
  have HO1 := Lib.hid hO
  clear hO HN
  go_wp2_with fail
  refine (HDA.out _).mono ?_
  rintro e w2 ⟨rfl, hb⟩
  have HO2 := Lib.hid (HO1.out.below hb)
  clear hb HDA HO1
  go_wp2_with fail
  refine (HDB.out _).mono ?_
  rintro e w3 ⟨rfl, hb⟩
  have HO3 := Lib.hid (HO2.out.below hb)
  clear hb HDB HO2
  go_wp2_with fail
  refine (HO3.out.step (H1.out _ b)).mono ?_
  rintro e w4 ⟨rfl, hO⟩
  have HO4 := Lib.hid hO
  clear hO HO3 H1
  go_wp2_with fail
  refine (HO4.out.step (H2.out _ b)).mono ?_
  rintro e w5 ⟨rfl, hO⟩
  have HO5 := Lib.hid hO
  clear hO HO4 H2
  go_wp2_with fail
  refine (HO5.out.step (H3.out _ b)).mono ?_
  rintro e w6 ⟨rfl, hO⟩
  have HO6 := Lib.hid hO
  clear hO HO5 H3
  go_wp2_with fail
  refine (HO6.out.step (H4.out _ b)).mono ?_
  rintro e w7 ⟨rfl, hO⟩
  have HO7 := Lib.hid hO
  clear hO HO6 H4
  go_wp2_with fail
  refine (HO7.out.step (H5.out _ b)).mono ?_
  rintro e w8 ⟨rfl, hO⟩
  have HO8 := Lib.hid (hO.below ((Below.refl _ w8).alloc (Nat.le_refl _) (.cells #[.bool true] 4)))
  have HK8 := Lib.hid (show BoolsAt (w8.alloc (.cells #[.bool true] 4)) (some ⟨w8.heap.size, 0, none⟩) 1 [true] from ⟨rfl, .inr ⟨w8.heap.size, 0, rfl, by simp, fun i hi => by
    obtain rfl : i = 0 := by omega
    rw [Nat.zero_add, World.cell?_alloc_new]; rfl⟩⟩)
  clear hO HO7 H5
  go_wp2_with fail
  refine (HO8.out.step (fun L h => H6.out _ b L _ h HK8.out)).mono ?_
  rintro e w9 ⟨rfl, hO⟩
  have HO9 := Lib.hid hO
  clear hO HO8 H6 HK8
  go_wp2_with fail
  refine (HO9.out.still (H7.out _ b)).mono ?_
  rintro e w10 ⟨rfl, hO⟩
  have HO10 := Lib.hid hO
  clear hO HO9 H7
  go_wp2_with fail
  refine (HO10.out.still (H8.out _ b)).mono ?_
  rintro e w11 ⟨rfl, hO⟩
  have HO11 := Lib.hid hO
  clear hO HO10 H8
  go_wp2_with fail
  refine (HBK.out _).mono ?_
  rintro e w12 ⟨rfl, hb⟩
  have HO12 := Lib.hid (HO11.out.below hb)
  clear hb HO11 HBK
  go_wp2_with fail
  refine (H9.out w12 b _ HO12.out.choose_spec.1).mono ?_
  rintro e w13 ⟨rfl, rfl⟩
  go_wp2_with fail
  refine (HO12.out.step (H10.out _ b)).mono ?_
  rintro e w14 ⟨rfl, hO⟩
  have HB := Lib.hid hO.bel
  clear hO HO12 H10
  go_wp2_with fail
  go_ret
  exact ⟨rfl, HB.out⟩
/-! do at a disk that nobody made. -/
theorem noDisk_below {w w' : World} {p : Option Addr} (h : NoDisk w p) (hb : Below w.heap.size w w') : NoDisk w' p := by
  rcases h with rfl | ⟨b, rfl, hc⟩
  · exact .inl rfl
  · exact .inr ⟨b, rfl, (hb.cell (World.block_lt_of_cell? w _ hc)).trans hc⟩

set_option maxRecDepth 100000 in
set_option maxHeartbeats 2000000 in
theorem do_no (p : Option Addr) (x : AVal) (w : World) (h : NoDisk w p) :
    Calls Try.prog 12 #[.pointer p, .agg (actV x.kind x.at_ x.fil x.size (.slice x.ka x.kl x.kc))] w fun e w' => e = .returned (.tuple #[.string ⟨#[]⟩, .int .i64 (if x.kind = 3 then 0 else 1)]) ∧ Below w.heap.size w w' := by
  obtain ⟨kind, at_, fil, size, ka, kl, kc, kb⟩ := x
  simp only
  have hb0 : Below w.heap.size w (w.alloc (.cells (actV kind at_ fil size (.slice ka kl kc)) 36)) := (Below.refl _ w).alloc (Nat.le_refl _) _
  have HB0 := Lib.hid hb0
  have HD0 := Lib.hid (noDisk_below h hb0)
  clear hb0 h
  by_cases h1 : kind = 1
  · subst h1
    rw [if_neg (by decide)]
    have HDA := Lib.hid (fun w => data_any 1 at_ fil size (.slice ka kl kc) w rfl)
    unfold actV at *
    generalize dat fil size = dt at *
    go_enter Try.func12, Try.ntmps12
    go_wp2_with fail
    refine wp_region_any (by kernel_rfl) ?_
    change wpAny _ _ _ _ _ _ _ (World.drew _)
    refine wpAny_take (i := 0) (v := ?_) rfl (by kernel_rfl) (by kernel_rfl) (by kernel_rfl) (fun _ _ _ h => h) (Or.inl ⟨by rfl, ?_⟩) ?_; rotate_left; focus ((intro w'); go_simp; (try with_reducible rfl))
    refine wpAny_take (i := 1) (v := ?_) rfl (by kernel_rfl) (by kernel_rfl) (by kernel_rfl) (fun _ _ _ h => h) (Or.inl ⟨by rfl, ?_⟩) ?_; rotate_left; focus ((intro w'); go_simp; (try with_reducible rfl))
    have m0 : (w.alloc (.cells #[.int .i64 1, .int .i64 at_, .int .u8 fil, .int .i64 size, .slice ka kl kc] 36)).cell? ⟨w.heap.size, 0, none⟩ = some (.int .i64 1) := by rw [World.cell?_alloc_new]; rfl
    have m1 : (w.alloc (.cells #[.int .i64 1, .int .i64 at_, .int .u8 fil, .int .i64 size, .slice ka kl kc] 36)).cell? ⟨w.heap.size, 1, none⟩ = some (.int .i64 at_) := by rw [World.cell?_alloc_new]; rfl
    have m2 : (w.alloc (.cells #[.int .i64 1, .int .i64 at_, .int .u8 fil, .int .i64 size, .slice ka kl kc] 36)).cell? ⟨w.heap.size, 2, none⟩ = some (.int .u8 fil) := by rw [World.cell?_alloc_new]; rfl
    have m3 : (w.alloc (.cells #[.int .i64 1, .int .i64 at_, .int .u8 fil, .int .i64 size, .slice ka kl kc] 36)).cell? ⟨w.heap.size, 3, none⟩ = some (.int .i64 size) := by rw [World.cell?_alloc_new]; rfl
    have m4 : (w.alloc (.cells #[.int .i64 1, .int .i64 at_, .int .u8 fil, .int .i64 size, .slice ka kl kc] 36)).cell? ⟨w.heap.size, 4, none⟩ = some (.slice ka kl kc) := by rw [World.cell?_alloc_new]; rfl
    have hsz : w.heap.size < (w.alloc (.cells #[.int .i64 1, .int .i64 at_, .int .u8 fil, .int .i64 size, .slice ka kl kc] 36)).heap.size := by simp
    generalize w.alloc (.cells #[.int .i64 1, .int .i64 at_, .int .u8 fil, .int .i64 size, .slice ka kl kc] 36) = w0 at *
    refine wpAny_ready (rs := [2, 3]) (by kernel_rfl) (by simp) ?_
    refine AllReady.cons rfl (fun K hK => ?_) (AllReady.cons rfl (fun K hK => ?_) AllReady.nil)
    · go_simp
      refine hK _ _ ?_
      clear hK K
      refine wpAny_ready (rs := [3]) (by kernel_rfl) (by simp) ?_
      refine AllReady.cons rfl (fun K hK => ?_) AllReady.nil
      go_simp
      refine hK _ _ ?_
      clear hK K
      refine wpAny_ready (rs := [4]) (by kernel_rfl) (by simp) ?_
      refine AllReady.cons rfl (fun K hK => ?_) AllReady.nil
      go_simp
      refine (HDA.out _).mono ?_
      rintro e w1 ⟨rfl, hb1⟩
      have n1 : w1.cell? ⟨w.heap.size, 1, none⟩ = some (.int .i64 at_) := (hb1.cell (p := ⟨w.heap.size, 1, none⟩) hsz).trans m1
      have HB1 := Lib.hid (HB0.out.drew.trans (hb1.mono HB0.out.size))
      have HD1 := Lib.hid (noDisk_below (w := w0.drew) HD0.out hb1)
      clear hb1
      refine hK _ _ ?_
      clear hK K
      refine Mix.wpAny_of_seqV [5, 6, 7] _ _ _ (by kernel_rfl) ?_
      simp only [Mix.pick, List.filterMap_cons, List.filterMap_nil, List.getElem?_cons_zero, List.getElem?_cons_succ]
      clear HDA
      go_wp2_with fail
      refine (write_no p at_ dt _ HD1.out).mono ?_
      rintro e w2 ⟨rfl, rfl⟩
      go_wp2_with fail
      go_ret2
      exact ⟨rfl, HB1.out⟩
    · go_simp
      refine hK _ _ ?_
      clear hK K
      refine wpAny_ready (rs := [2, 4]) (by kernel_rfl) (by simp) ?_
      refine AllReady.cons rfl (fun K hK => ?_) (AllReady.cons rfl (fun K hK => ?_) AllReady.nil)
      · go_simp
        refine hK _ _ ?_
        clear hK K
        refine wpAny_ready (rs := [4]) (by kernel_rfl) (by simp) ?_
        refine AllReady.cons rfl (fun K hK => ?_) AllReady.nil
        go_simp
        refine (HDA.out _).mono ?_
        rintro e w1 ⟨rfl, hb1⟩
        have n1 : w1.cell? ⟨w.heap.size, 1, none⟩ = some (.int .i64 at_) := (hb1.cell (p := ⟨w.heap.size, 1, none⟩) hsz).trans m1
        have HB1 := Lib.hid (HB0.out.drew.trans (hb1.mono HB0.out.size))
        have HD1 := Lib.hid (noDisk_below (w := w0.drew) HD0.out hb1)
        clear hb1
        refine hK _ _ ?_
        clear hK K
        refine Mix.wpAny_of_seqV [5, 6, 7] _ _ _ (by kernel_rfl) ?_
        simp only [Mix.pick, List.filterMap_cons, List.filterMap_nil, List.getElem?_cons_zero, List.getElem?_cons_succ]
        clear HDA
        go_wp2_with fail
        refine (write_no p at_ dt _ HD1.out).mono ?_
        rintro e w2 ⟨rfl, rfl⟩
        go_wp2_with fail
        go_ret2
        exact ⟨rfl, HB1.out⟩
      · go_simp
        refine (HDA.out _).mono ?_
        rintro e w1 ⟨rfl, hb1⟩
        have n1 : w1.cell? ⟨w.heap.size, 1, none⟩ = some (.int .i64 at_) := (hb1.cell (p := ⟨w.heap.size, 1, none⟩) hsz).trans m1
        have HB1 := Lib.hid (HB0.out.drew.trans (hb1.mono HB0.out.size))
        have HD1 := Lib.hid (noDisk_below (w := w0.drew) HD0.out hb1)
        clear hb1
        refine hK _ _ ?_
        clear hK K
        refine wpAny_ready (rs := [2]) (by kernel_rfl) (by simp) ?_
        refine AllReady.cons rfl (fun K hK => ?_) AllReady.nil
        go_simp
        refine hK _ _ ?_
        clear hK K
        refine Mix.wpAny_of_seqV [5, 6, 7] _ _ _ (by kernel_rfl) ?_
        simp only [Mix.pick, List.filterMap_cons, List.filterMap_nil, List.getElem?_cons_zero, List.getElem?_cons_succ]
        clear HDA
        go_wp2_with fail
        refine (write_no p at_ dt _ HD1.out).mono ?_
        rintro e w2 ⟨rfl, rfl⟩
        go_wp2_with fail
        go_ret2
        exact ⟨rfl, HB1.out⟩
  by_cases h2 : kind = 2
  · subst h2
    rw [if_neg (by decide)]
    unfold actV at *
    go_enter Try.func12, Try.ntmps12
    go_wp2_with fail
    refine (flush_no p _ HD0.out).mono ?_
    rintro e w2 ⟨rfl, hb2⟩
    have HR := Lib.hid (HB0.out.trans (hb2.mono HB0.out.size))
    clear hb2
    go_wp2_with fail
    go_ret2
    exact ⟨rfl, HR.out⟩
  by_cases h3 : kind = 3
  · subst h3
    rw [if_pos rfl]
    unfold actV at *
    go_enter Try.func12, Try.ntmps12
    go_wp2_with fail
    refine (fuse_no p at_ _ HD0.out).mono ?_
    rintro e w2 ⟨rfl, rfl⟩
    go_wp2_with fail
    go_ret2
    exact ⟨rfl, HB0.out⟩
  by_cases h4 : kind = 4
  · subst h4
    rw [if_neg (by decide)]
    unfold actV at *
    go_enter Try.func12, Try.ntmps12
    go_wp2_with fail
    refine (crash_no_disk p ka kl kc at_ _ HD0.out).mono ?_
    rintro e w2 ⟨rfl, hb2⟩
    have HR := Lib.hid (HB0.out.trans (hb2.mono HB0.out.size))
    clear hb2
    go_wp2_with fail
    go_ret2
    exact ⟨rfl, HR.out⟩
  · rw [if_neg h3]
    have e1 : (kind == 1) = false := beq_eq_false_iff_ne.2 h1
    have e2 : (kind == 2) = false := beq_eq_false_iff_ne.2 h2
    have e3 : (kind == 3) = false := beq_eq_false_iff_ne.2 h3
    have e4 : (kind == 4) = false := beq_eq_false_iff_ne.2 h4
    clear h1 h2 h3 h4
    unfold actV at *
    go_enter Try.func12, Try.ntmps12
    go_wp2_with fail
    refine (read_no p at_ _ HD0.out).mono ?_
    rintro e w2 ⟨rfl, hb2⟩
    have HR := Lib.hid (HB0.out.trans (hb2.mono HB0.out.size))
    clear hb2
    go_wp2_with fail
    go_ret2
    exact ⟨rfl, HR.out⟩
end Go.Proofs.Ytanpaappecakoaa
