/-
  The contract of the document's Read: any text of up to 300 octets; what was there stays as it was.
-/
import Derived.Test.YtaffjecnpclliaaDoorStepH
set_option linter.unusedVariables false
set_option linter.unusedSimpArgs false
set_option maxRecDepth 4000
namespace Go.Proofs.YtaffjecnpclliaaDoor.Step
open Go.RowKit StP
open Go.Proofs.YtaffjecnpclliaaDoor.Kt

/-- What stands while the document's Read reads: its result's cell and its step in two blocks, the parts. -/
structure RD (w W : World) (b h : Nat) (P : List ByteArray) (v0 v1 v2 v3 v4 v5 : Value) : Prop where
  bel : Below w.heap.size w W
  res : At6 23 W w.heap.size (.int .i64 0) (.int .i64 0) (.int .i64 0) (.int .i64 0) (.int .i64 0) (.int .i64 0)
  box : At6 23 W b v0 v1 v2 v3 v4 v5
  prt : PaAt W h P
  bne : w.heap.size < b
  hne : h ≠ b
theorem RD.keep {w W W' : World} {b h : Nat} {P : List ByteArray} {v0 v1 v2 v3 v4 v5 : Value} (r : RD w W b h P v0 v1 v2 v3 v4 v5) (hb : Below W.heap.size W W') : RD w W' b h P v0 v1 v2 v3 v4 v5 :=
  ⟨below_keep r.bel hb r.bel.size, r.res.keep hb, r.box.keep hb, r.prt.keep hb, r.bne, r.hne⟩

theorem RD.set0 {w W : World} {b h : Nat} {P : List ByteArray} {v0 v1 v2 v3 v4 v5 : Value} (r : RD w W b h P v0 v1 v2 v3 v4 v5) (u : Value) : RD w (W.setCell ⟨b, 0, none⟩ u) b h P u v1 v2 v3 v4 v5 := by
  have hs : (W.setCell ⟨b, 0, none⟩ u).heap.size = W.heap.size := by simp
  have ho : ∀ k, k ≠ b → (W.setCell ⟨b, 0, none⟩ u).heap[k]? = W.heap[k]? := fun k hk => heap_setCell_other _ _ _ _ (by exact hk)
  have hg := r.bne
  have hh := r.hne
  refine ⟨r.bel.setCell (p := ⟨b, 0, none⟩) (Nat.le_of_lt hg) _, (ho _ (by omega)).trans r.res, ?_, r.prt.keepH (Nat.le_of_eq hs.symm) (ho _ hh), r.bne, r.hne⟩
  have h1 := Lib.heap_setCell_same (i := 0) r.box u
  unfold At6
  rw [h1]
  rfl

theorem RD.set1 {w W : World} {b h : Nat} {P : List ByteArray} {v0 v1 v2 v3 v4 v5 : Value} (r : RD w W b h P v0 v1 v2 v3 v4 v5) (u : Value) : RD w (W.setCell ⟨b, 1, none⟩ u) b h P v0 u v2 v3 v4 v5 := by
  have hs : (W.setCell ⟨b, 1, none⟩ u).heap.size = W.heap.size := by simp
  have ho : ∀ k, k ≠ b → (W.setCell ⟨b, 1, none⟩ u).heap[k]? = W.heap[k]? := fun k hk => heap_setCell_other _ _ _ _ (by exact hk)
  have hg := r.bne
  have hh := r.hne
  refine ⟨r.bel.setCell (p := ⟨b, 1, none⟩) (Nat.le_of_lt hg) _, (ho _ (by omega)).trans r.res, ?_, r.prt.keepH (Nat.le_of_eq hs.symm) (ho _ hh), r.bne, r.hne⟩
  have h1 := Lib.heap_setCell_same (i := 1) r.box u
  unfold At6
  rw [h1]
  rfl

theorem RD.set2 {w W : World} {b h : Nat} {P : List ByteArray} {v0 v1 v2 v3 v4 v5 : Value} (r : RD w W b h P v0 v1 v2 v3 v4 v5) (u : Value) : RD w (W.setCell ⟨b, 2, none⟩ u) b h P v0 v1 u v3 v4 v5 := by
  have hs : (W.setCell ⟨b, 2, none⟩ u).heap.size = W.heap.size := by simp
  have ho : ∀ k, k ≠ b → (W.setCell ⟨b, 2, none⟩ u).heap[k]? = W.heap[k]? := fun k hk => heap_setCell_other _ _ _ _ (by exact hk)
  have hg := r.bne
  have hh := r.hne
  refine ⟨r.bel.setCell (p := ⟨b, 2, none⟩) (Nat.le_of_lt hg) _, (ho _ (by omega)).trans r.res, ?_, r.prt.keepH (Nat.le_of_eq hs.symm) (ho _ hh), r.bne, r.hne⟩
  have h1 := Lib.heap_setCell_same (i := 2) r.box u
  unfold At6
  rw [h1]
  rfl

theorem RD.set3 {w W : World} {b h : Nat} {P : List ByteArray} {v0 v1 v2 v3 v4 v5 : Value} (r : RD w W b h P v0 v1 v2 v3 v4 v5) (u : Value) : RD w (W.setCell ⟨b, 3, none⟩ u) b h P v0 v1 v2 u v4 v5 := by
  have hs : (W.setCell ⟨b, 3, none⟩ u).heap.size = W.heap.size := by simp
  have ho : ∀ k, k ≠ b → (W.setCell ⟨b, 3, none⟩ u).heap[k]? = W.heap[k]? := fun k hk => heap_setCell_other _ _ _ _ (by exact hk)
  have hg := r.bne
  have hh := r.hne
  refine ⟨r.bel.setCell (p := ⟨b, 3, none⟩) (Nat.le_of_lt hg) _, (ho _ (by omega)).trans r.res, ?_, r.prt.keepH (Nat.le_of_eq hs.symm) (ho _ hh), r.bne, r.hne⟩
  have h1 := Lib.heap_setCell_same (i := 3) r.box u
  unfold At6
  rw [h1]
  rfl

theorem RD.set4 {w W : World} {b h : Nat} {P : List ByteArray} {v0 v1 v2 v3 v4 v5 : Value} (r : RD w W b h P v0 v1 v2 v3 v4 v5) (u : Value) : RD w (W.setCell ⟨b, 4, none⟩ u) b h P v0 v1 v2 v3 u v5 := by
  have hs : (W.setCell ⟨b, 4, none⟩ u).heap.size = W.heap.size := by simp
  have ho : ∀ k, k ≠ b → (W.setCell ⟨b, 4, none⟩ u).heap[k]? = W.heap[k]? := fun k hk => heap_setCell_other _ _ _ _ (by exact hk)
  have hg := r.bne
  have hh := r.hne
  refine ⟨r.bel.setCell (p := ⟨b, 4, none⟩) (Nat.le_of_lt hg) _, (ho _ (by omega)).trans r.res, ?_, r.prt.keepH (Nat.le_of_eq hs.symm) (ho _ hh), r.bne, r.hne⟩
  have h1 := Lib.heap_setCell_same (i := 4) r.box u
  unfold At6
  rw [h1]
  rfl

theorem RD.set5 {w W : World} {b h : Nat} {P : List ByteArray} {v0 v1 v2 v3 v4 v5 : Value} (r : RD w W b h P v0 v1 v2 v3 v4 v5) (u : Value) : RD w (W.setCell ⟨b, 5, none⟩ u) b h P v0 v1 v2 v3 v4 u := by
  have hs : (W.setCell ⟨b, 5, none⟩ u).heap.size = W.heap.size := by simp
  have ho : ∀ k, k ≠ b → (W.setCell ⟨b, 5, none⟩ u).heap[k]? = W.heap[k]? := fun k hk => heap_setCell_other _ _ _ _ (by exact hk)
  have hg := r.bne
  have hh := r.hne
  refine ⟨r.bel.setCell (p := ⟨b, 5, none⟩) (Nat.le_of_lt hg) _, (ho _ (by omega)).trans r.res, ?_, r.prt.keepH (Nat.le_of_eq hs.symm) (ho _ hh), r.bne, r.hne⟩
  have h1 := Lib.heap_setCell_same (i := 5) r.box u
  unfold At6
  rw [h1]
  rfl

theorem rd_new {w W : World} {h : Nat} {P : List ByteArray} (hb : Below (w.alloc (.cells #[.int .i64 0, .int .i64 0, .int .i64 0, .int .i64 0, .int .i64 0, .int .i64 0] 23)).heap.size (w.alloc (.cells #[.int .i64 0, .int .i64 0, .int .i64 0, .int .i64 0, .int .i64 0, .int .i64 0] 23)) W) (hp : PaAt W h P) : RD w (W.alloc (.cells #[.int .i64 0, .int .i64 0, .int .i64 0, .int .i64 0, .int .i64 0, .int .i64 0] 23)) W.heap.size h P (.int .i64 0) (.int .i64 0) (.int .i64 0) (.int .i64 0) (.int .i64 0) (.int .i64 0) := by
  have a0 := at6_new 23 w (.int .i64 0) (.int .i64 0) (.int .i64 0) (.int .i64 0) (.int .i64 0) (.int .i64 0)
  have hz : (w.alloc (.cells #[.int .i64 0, .int .i64 0, .int .i64 0, .int .i64 0, .int .i64 0, .int .i64 0] 23)).heap.size = w.heap.size + 1 := by simp
  have hs := hb.size
  rw [hz] at hs
  have hb0 : Below w.heap.size w (w.alloc (.cells #[.int .i64 0, .int .i64 0, .int .i64 0, .int .i64 0, .int .i64 0, .int .i64 0] 23)) := (Below.refl _ _).alloc (Nat.le_refl _) _
  have hb1 := below_keep hb0 hb (by omega)
  exact ⟨hb1.alloc (by omega) _, (a0.keep hb).alloc _, at6_new 23 W _ _ _ _ _ _, hp.keep ((Below.refl _ _).alloc (Nat.le_refl _) _), by omega, by have := hp.1; omega⟩
theorem up_hit {L : Int → List UInt8} {p : List UInt8} {k : Nat} (h : p = L ((k : Int) + 1)) : upO L p (k + 1) = (k : Int) + 1 := by rw [upO, if_pos h]
theorem up_miss {L : Int → List UInt8} {p : List UInt8} {k : Nat} (h : ¬ p = L ((k : Int) + 1)) : upO L p (k + 1) = upO L p k := by rw [upO, if_neg h]
theorem bs_ne {p : ByteArray} {l : List UInt8} (h : ¬ p.data.toList = l) : (p.toList == (bs l).toList) = false := by
  rw [beq_eq_false_iff_ne, ByteArray.toList_eq, ByteArray.toList_eq, data_bs]; exact h
theorem bs_eq {p : ByteArray} {l : List UInt8} (h : p.data.toList = l) : (p.toList == (bs l).toList) = true := by
  rw [beq_iff_eq, ByteArray.toList_eq, ByteArray.toList_eq, data_bs]; exact h

set_option maxHeartbeats 8000000 in
theorem rread_any (s : ByteArray) (w : World) (hs : s.size ≤ 300) : Calls Tryd.prog 17 #[.string s] w fun e w' => e = .returned (.tuple #[stV (gotS (readS s.data.toList)), .int .i64 (errS (readS s.data.toList))]) ∧ Below w.heap.size w w' := by
  obtain ⟨R, hR⟩ : ∃ R, readS s.data.toList = R := ⟨_, rfl⟩
  rw [hR]
  have hR2 := (readD_eq s.data.toList).trans hR
  obtain ⟨ps, hps⟩ : ∃ ps, parts 47 s.data.toList = ps := ⟨_, rfl⟩
  have CS := Lib.hid (rsplit_any s 47 47 rfl (w.alloc (.cells #[.int .i64 0, .int .i64 0, .int .i64 0, .int .i64 0, .int .i64 0, .int .i64 0] 23)) hs)
  rw [hps] at hR2 CS
  have HSM : Hid (∀ p ∈ ps, p.length ≤ 300) := by
    show ∀ p ∈ ps, _
    rw [← hps]
    intro p hp
    have := partsF_small 47 _ _ p hp
    have h2 : s.data.toList.length = s.size := Array.length_toList
    omega
  have HR := Lib.hid hR2
  clear hR hR2 hps
  go_enter Tryd.func17, Tryd.ntmps17
  go_wp2_with fail
  refine CS.out.mono ?_
  rintro e w1 ⟨hb, P, h, cp, rfl, rfl, hP⟩
  clear CS
  have HS := Lib.hid (rd_new hb hP)
  obtain ⟨n, hn⟩ : ∃ n, P.length = n := ⟨_, rfl⟩
  rw [hn]
  by_cases h6 : n = 6
  rotate_left
  · have HN : Hid (R = none) := by show _ = _; rw [← HR.out]; exact readD_long (by rw [List.length_map, hn]; exact h6)
    have hq : ((n : Int) != 6) = true := by simp; omega
    have a0 : At6 23 w1 w.heap.size (.int .i64 0) (.int .i64 0) (.int .i64 0) (.int .i64 0) (.int .i64 0) (.int .i64 0) := (at6_new 23 w _ _ _ _ _ _).keep hb
    have hb2 : Below w.heap.size w w1 := below_keep ((Below.refl _ _).alloc (Nat.le_refl _) (.cells #[.int .i64 0, .int .i64 0, .int .i64 0, .int .i64 0, .int .i64 0, .int .i64 0] 23)) hb (by simp)
    clear HR HS
    obtain ⟨z0, z1, z2, z3, z4, z5⟩ := cells6 a0
    obtain ⟨f0, f1, f2, f3, f4, f5⟩ := free6 a0
    have HQ := Lib.hid (heap_put6 a0 (.int .i64 0) (.int .i64 0) (.int .i64 0) (.int .i64 0) (.int .i64 0) (.int .i64 0))
    have HBQ := Lib.hid (below_put6 hb2 (Nat.le_refl _) (.int .i64 0) (.int .i64 0) (.int .i64 0) (.int .i64 0) (.int .i64 0) (.int .i64 0))
    clear hb hP a0 hb2
    go_wp2_with fail
    exact bodyPost_ret (results_st (j := 2) (k := 3) rfl _ _ w.heap.size _ _ _ _ _ _ rfl HQ.out) rfl ⟨read_no HN.out, HBQ.out⟩
  subst h6
  obtain ⟨p0, p1, p2, p3, p4, p5, rfl⟩ : ∃ p0 p1 p2 p3 p4 p5, P = [p0, p1, p2, p3, p4, p5] := by
    match P, hn with
    | [p0, p1, p2, p3, p4, p5], _ => exact ⟨p0, p1, p2, p3, p4, p5, rfl⟩
  clear hn hb hP
  go_wp2_with fail
  generalize w1.alloc (.cells #[.int .i64 0, .int .i64 0, .int .i64 0, .int .i64 0, .int .i64 0, .int .i64 0] 23) = w2 at *
  generalize w1.heap.size = b at *
  go_loopw [6] (fun i wr => ∃ k : Nat, k ≤ 6 ∧ i = .int .i64 ((k : Int) + 1) ∧ Hid (RD w wr b h [p0, p1, p2, p3, p4, p5] (.int .i64 (upO opL p0.data.toList k)) (.int .i64 0) (.int .i64 0) (.int .i64 0) (.int .i64 0) (.int .i64 0))) (fun i _ => 7 - (intOf i).toNat)
  case atStart => exact ⟨0, by omega, rfl, HS⟩
  case round =>
    obtain ⟨k, hk, rfl, hS⟩ := hrel
    by_cases hlk : k < 6
    · have hki : (k : Int) + 1 ≤ 6 := by omega
      obtain ⟨W0, hW0⟩ : ∃ W0, bs (opL ((k : Int) + 1)) = W0 := ⟨_, rfl⟩
      have C0 := Lib.hid (fun d os => Calls.regrown_of (rop_below ((k : Int) + 1) W0 hW0 (Sort.grow (redrawn wr d) os)))
      have r0 := fun d os => cell_regrown (hS.out.prt.2 0 p0 rfl) d os
      by_cases he : p0.data.toList = opL ((k : Int) + 1)
      · have hq := bs_eq he
        have HU : Hid (upO opL p0.data.toList (k + 1) = (k : Int) + 1) := up_hit he
        rw [hW0] at hq
        clear he hW0
        go_wp2_with fail
        refine wp_region_qw (by kernel_rfl) (by kernel_rfl) ?_
        iterate 6 (refine qw_take (by kernel_rfl) (fun K hK => ?_); go_simp; first | (refine hK _ ?_; clear hK K) | (apply Exists.intro; refine ⟨fun _ => ?_, hK _ ?_⟩; (first | with_reducible exact C0.out _ _); clear hK K))
        refine qw_nil ?_
        intro _ hw'
        obtain ⟨⟨dq, osq⟩, hw''⟩ := hw'
        subst hw''
        have HSL := Lib.hid (hS.out.keep (below_regrown wr dq osq))
        clear r0 C0 hS
        generalize Sort.grow (redrawn wr dq) osq = wl at *
        obtain ⟨z0, _, _, _, _, _⟩ := cells6 HSL.out.box
        obtain ⟨f0, _, _, _, _, _⟩ := free6 HSL.out.box
        have HS9 := Lib.hid (HSL.out.set0 (.int .i64 ((k : Int) + 1)))
        go_wp2_with fail
        go_roundw
        case rel => exact ⟨k + 1, by omega, by go_num, by show RD _ _ _ _ _ _ _ _ _ _ _; rw [HU.out]; exact HS9.out⟩
        case measure => simp [intOf]; omega
      · have hq := bs_ne he
        have HU : Hid (upO opL p0.data.toList (k + 1) = upO opL p0.data.toList k) := up_miss he
        rw [hW0] at hq
        clear he hW0
        go_wp2_with fail
        refine wp_region_qw (by kernel_rfl) (by kernel_rfl) ?_
        iterate 6 (refine qw_take (by kernel_rfl) (fun K hK => ?_); go_simp; first | (refine hK _ ?_; clear hK K) | (apply Exists.intro; refine ⟨fun _ => ?_, hK _ ?_⟩; (first | with_reducible exact C0.out _ _); clear hK K))
        refine qw_nil ?_
        intro _ hw'
        obtain ⟨⟨dq, osq⟩, hw''⟩ := hw'
        subst hw''
        have HSL := Lib.hid (hS.out.keep (below_regrown wr dq osq))
        clear r0 C0 hS
        generalize Sort.grow (redrawn wr dq) osq = wl at *
        go_wp2_with fail
        go_roundw
        case rel => exact ⟨k + 1, by omega, by go_num, by show RD _ _ _ _ _ _ _ _ _ _ _; rw [HU.out]; exact HSL.out⟩
        case measure => simp [intOf]; omega
    · obtain rfl : k = 6 := by omega
      rw [show ((6 : Nat) : Int) + 1 = 7 from rfl]
      have HS := Lib.hid hS.out
      clear hS
      go_wp2_with fail
      go_loopw [7] (fun i wr => ∃ k : Nat, k ≤ 3 ∧ i = .int .i64 ((k : Int) + 1) ∧ Hid (RD w wr b h [p0, p1, p2, p3, p4, p5] (.int .i64 (upO opL p0.data.toList 6)) (.int .i64 (upO clL p1.data.toList k)) (.int .i64 0) (.int .i64 0) (.int .i64 0) (.int .i64 0))) (fun i _ => 4 - (intOf i).toNat)
      case atStart => exact ⟨0, by omega, rfl, HS⟩
      case round =>
        obtain ⟨k, hk, rfl, hS⟩ := hrel
        by_cases hlk : k < 3
        · have hki : (k : Int) + 1 ≤ 3 := by omega
          obtain ⟨W0, hW0⟩ : ∃ W0, bs (clL ((k : Int) + 1)) = W0 := ⟨_, rfl⟩
          have C0 := Lib.hid (fun d os => Calls.regrown_of (rcl_below ((k : Int) + 1) W0 hW0 (Sort.grow (redrawn wr d) os)))
          have r0 := fun d os => cell_regrown (hS.out.prt.2 1 p1 rfl) d os
          by_cases he : p1.data.toList = clL ((k : Int) + 1)
          · have hq := bs_eq he
            have HU : Hid (upO clL p1.data.toList (k + 1) = (k : Int) + 1) := up_hit he
            rw [hW0] at hq
            clear he hW0
            go_wp2_with fail
            refine wp_region_qw (by kernel_rfl) (by kernel_rfl) ?_
            iterate 6 (refine qw_take (by kernel_rfl) (fun K hK => ?_); go_simp; first | (refine hK _ ?_; clear hK K) | (apply Exists.intro; refine ⟨fun _ => ?_, hK _ ?_⟩; (first | with_reducible exact C0.out _ _); clear hK K))
            refine qw_nil ?_
            intro _ hw'
            obtain ⟨⟨dq, osq⟩, hw''⟩ := hw'
            subst hw''
            have HSL := Lib.hid (hS.out.keep (below_regrown wr dq osq))
            clear r0 C0 hS
            generalize Sort.grow (redrawn wr dq) osq = wl at *
            obtain ⟨_, z0, _, _, _, _⟩ := cells6 HSL.out.box
            obtain ⟨_, f0, _, _, _, _⟩ := free6 HSL.out.box
            have HS9 := Lib.hid (HSL.out.set1 (.int .i64 ((k : Int) + 1)))
            go_wp2_with fail
            go_roundw
            case rel => exact ⟨k + 1, by omega, by go_num, by show RD _ _ _ _ _ _ _ _ _ _ _; rw [HU.out]; exact HS9.out⟩
            case measure => simp [intOf]; omega
          · have hq := bs_ne he
            have HU : Hid (upO clL p1.data.toList (k + 1) = upO clL p1.data.toList k) := up_miss he
            rw [hW0] at hq
            clear he hW0
            go_wp2_with fail
            refine wp_region_qw (by kernel_rfl) (by kernel_rfl) ?_
            iterate 6 (refine qw_take (by kernel_rfl) (fun K hK => ?_); go_simp; first | (refine hK _ ?_; clear hK K) | (apply Exists.intro; refine ⟨fun _ => ?_, hK _ ?_⟩; (first | with_reducible exact C0.out _ _); clear hK K))
            refine qw_nil ?_
            intro _ hw'
            obtain ⟨⟨dq, osq⟩, hw''⟩ := hw'
            subst hw''
            have HSL := Lib.hid (hS.out.keep (below_regrown wr dq osq))
            clear r0 C0 hS
            generalize Sort.grow (redrawn wr dq) osq = wl at *
            go_wp2_with fail
            go_roundw
            case rel => exact ⟨k + 1, by omega, by go_num, by show RD _ _ _ _ _ _ _ _ _ _ _; rw [HU.out]; exact HSL.out⟩
            case measure => simp [intOf]; omega
        · obtain rfl : k = 3 := by omega
          rw [show ((3 : Nat) : Int) + 1 = 4 from rfl]
          have HS := Lib.hid hS.out
          clear hS
          obtain ⟨O, hO⟩ : ∃ O, upO opL p0.data.toList 6 = O := ⟨_, rfl⟩
          obtain ⟨C, hC⟩ : ∃ C, upO clL p1.data.toList 3 = C := ⟨_, rfl⟩
          rw [hO, hC] at HS
          obtain ⟨m0, e0, hn0⟩ : ∃ m e, NumP.numP p2.data.toList = (m, e) := ⟨_, _, rfl⟩
          have CN0 := Lib.hid (fun W => rnumber_is p2 m0 e0 W (by have := HSM.out p2.data.toList (by simp); have h2 : p2.data.toList.length = p2.size := Array.length_toList; omega) hn0)
          obtain ⟨m1, e1, hn1⟩ : ∃ m e, NumP.numP p3.data.toList = (m, e) := ⟨_, _, rfl⟩
          have CN1 := Lib.hid (fun W => rnumber_is p3 m1 e1 W (by have := HSM.out p3.data.toList (by simp); have h2 : p3.data.toList.length = p3.size := Array.length_toList; omega) hn1)
          obtain ⟨m2, e2, hn2⟩ : ∃ m e, NumP.numP p4.data.toList = (m, e) := ⟨_, _, rfl⟩
          have CN2 := Lib.hid (fun W => rnumber_is p4 m2 e2 W (by have := HSM.out p4.data.toList (by simp); have h2 : p4.data.toList.length = p4.size := Array.length_toList; omega) hn2)
          obtain ⟨m3, e3, hn3⟩ : ∃ m e, NumP.numP p5.data.toList = (m, e) := ⟨_, _, rfl⟩
          have CN3 := Lib.hid (fun W => rnumber_is p5 m3 e3 W (by have := HSM.out p5.data.toList (by simp); have h2 : p5.data.toList.length = p5.size := Array.length_toList; omega) hn3)
          have HD : Hid (R = if fitS ⟨O, C, m0, m1, m2, m3⟩ = true ∧ textS ⟨O, C, m0, m1, m2, m3⟩ = s.data.toList then some ⟨O, C, m0, m1, m2, m3⟩ else none) := by
            show _ = _
            rw [← HR.out, ← hO, ← hC]
            show readD _ [p0.data.toList, p1.data.toList, p2.data.toList, p3.data.toList, p4.data.toList, p5.data.toList] = _
            unfold readD
            simp only [hn0, hn1, hn2, hn3]
          clear hO hC hn0 hn1 hn2 hn3 HR HSM
          have t0 := HS.out.prt.2 2 p2 rfl
          have t1 := HS.out.prt.2 3 p3 rfl
          have t2 := HS.out.prt.2 4 p4 rfl
          have t3 := HS.out.prt.2 5 p5 rfl
          go_wp2_with fail
          refine (CN0.out _).mono ?_
          rintro e w3 ⟨rfl, rfl⟩
          go_wp2_with fail
          refine (CN1.out _).mono ?_
          rintro e w3 ⟨rfl, rfl⟩
          go_wp2_with fail
          refine (CN2.out _).mono ?_
          rintro e w3 ⟨rfl, rfl⟩
          go_wp2_with fail
          refine (CN3.out _).mono ?_
          rintro e w3 ⟨rfl, rfl⟩
          clear t0 t1 t2 t3 CN0 CN1 CN2 CN3
          have HT0 := Lib.hid (HS.out.set2 (.int .i64 m0))
          obtain ⟨_, _, z2, _, _, _⟩ := cells6 HS.out.box
          obtain ⟨_, _, f2, _, _, _⟩ := free6 HS.out.box
          have HT1 := Lib.hid (HT0.out.set3 (.int .i64 m1))
          obtain ⟨_, _, _, z3, _, _⟩ := cells6 HT0.out.box
          obtain ⟨_, _, _, f3, _, _⟩ := free6 HT0.out.box
          have HT2 := Lib.hid (HT1.out.set4 (.int .i64 m2))
          obtain ⟨_, _, _, _, z4, _⟩ := cells6 HT1.out.box
          obtain ⟨_, _, _, _, f4, _⟩ := free6 HT1.out.box
          have HT3 := Lib.hid (HT2.out.set5 (.int .i64 m3))
          obtain ⟨_, _, _, _, _, z5⟩ := cells6 HT2.out.box
          obtain ⟨_, _, _, _, _, f5⟩ := free6 HT2.out.box
          obtain ⟨wq, hwq⟩ : ∃ wq, ((((wr.setCell ⟨b, 2, none⟩ (.int .i64 m0)).setCell ⟨b, 3, none⟩ (.int .i64 m1)).setCell ⟨b, 4, none⟩ (.int .i64 m2)).setCell ⟨b, 5, none⟩ (.int .i64 m3)) = wq := ⟨_, rfl⟩
          have HT : Hid (RD w wq b h [p0, p1, p2, p3, p4, p5] (.int .i64 O) (.int .i64 C) (.int .i64 m0) (.int .i64 m1) (.int .i64 m2) (.int .i64 m3)) := by show RD _ _ _ _ _ _ _ _ _ _ _; rw [← hwq]; exact HT3.out
          obtain ⟨d0, d1, d2, d3, d4, d5⟩ := cells6 HT3.out.box
          have HWQ := Lib.hid hwq
          clear HT0 HT1 HT2 HT3 HS hwq
          cases hf : fitS ⟨O, C, m0, m1, m2, m3⟩ with
          | false =>
            have HN : Hid (R = none) := by show _ = _; rw [HD.out, hf]; rfl
            have CF := Lib.hid (rfit_is O C m0 m1 m2 m3 false hf wq)
            go_wp2_with fail
            rw [show ((((wr.setCell ⟨b, 2, none⟩ (.int .i64 m0)).setCell ⟨b, 3, none⟩ (.int .i64 m1)).setCell ⟨b, 4, none⟩ (.int .i64 m2)).setCell ⟨b, 5, none⟩ (.int .i64 m3)) = wq from HWQ.out]
            refine CF.out.mono ?_
            rintro e w8 ⟨rfl, hb⟩
            have HS8 := Lib.hid (HT.out.keep hb)
            clear hb CF
            clear hf d0 d1 d2 d3 d4 d5 z2 z3 z4 z5 f2 f3 f4 f5
            obtain ⟨z0, z1, z2, z3, z4, z5⟩ := cells6 HS8.out.res
            obtain ⟨f0, f1, f2, f3, f4, f5⟩ := free6 HS8.out.res
            have HQ := Lib.hid (heap_put6 HS8.out.res (.int .i64 0) (.int .i64 0) (.int .i64 0) (.int .i64 0) (.int .i64 0) (.int .i64 0))
            have HBQ := Lib.hid (below_put6 HS8.out.bel (Nat.le_refl _) (.int .i64 0) (.int .i64 0) (.int .i64 0) (.int .i64 0) (.int .i64 0) (.int .i64 0))
            go_wp2_with fail
            exact bodyPost_ret (results_st (j := 2) (k := 3) rfl _ _ w.heap.size _ _ _ _ _ _ rfl HQ.out) rfl ⟨read_no HN.out, HBQ.out⟩
          | true =>
            have CF := Lib.hid (rfit_is O C m0 m1 m2 m3 true hf wq)
            go_wp2_with fail
            rw [show ((((wr.setCell ⟨b, 2, none⟩ (.int .i64 m0)).setCell ⟨b, 3, none⟩ (.int .i64 m1)).setCell ⟨b, 4, none⟩ (.int .i64 m2)).setCell ⟨b, 5, none⟩ (.int .i64 m3)) = wq from HWQ.out]
            refine CF.out.mono ?_
            rintro e w8 ⟨rfl, hb⟩
            have HS8 := Lib.hid (HT.out.keep hb)
            clear hb CF
            clear d0 d1 d2 d3 d4 d5 z2 z3 z4 z5 f2 f3 f4 f5
            obtain ⟨d0, d1, d2, d3, d4, d5⟩ := cells6 HS8.out.box
            have CT := Lib.hid (rtext_any O C m0 m1 m2 m3 w8)
            obtain ⟨X, hX⟩ : ∃ X, bs (textS ⟨O, C, m0, m1, m2, m3⟩) = X := ⟨_, rfl⟩
            rw [hX] at CT
            by_cases ht : textS ⟨O, C, m0, m1, m2, m3⟩ = s.data.toList
            · have HN : Hid (R = some ⟨O, C, m0, m1, m2, m3⟩) := by show _ = _; rw [HD.out, if_pos ⟨hf, ht⟩]
              have hXs : X = s := by rw [← hX, ht]; exact bs_data s
              have hq : (s.toList == s.toList) = true := by simp
              rw [hXs] at CT
              clear hf ht hX hXs
              go_wp2_with fail
              refine CT.out.mono ?_
              rintro e w9 ⟨rfl, hb⟩
              have HS9 := Lib.hid (HS8.out.keep hb)
              clear hb CT d0 d1 d2 d3 d4 d5
              obtain ⟨d0, d1, d2, d3, d4, d5⟩ := cells6 HS9.out.box
              obtain ⟨z0, z1, z2, z3, z4, z5⟩ := cells6 HS9.out.res
              obtain ⟨f0, f1, f2, f3, f4, f5⟩ := free6 HS9.out.res
              have HQ := Lib.hid (heap_put6 HS9.out.res (.int .i64 O) (.int .i64 C) (.int .i64 m0) (.int .i64 m1) (.int .i64 m2) (.int .i64 m3))
              have HBQ := Lib.hid (below_put6 HS9.out.bel (Nat.le_refl _) (.int .i64 O) (.int .i64 C) (.int .i64 m0) (.int .i64 m1) (.int .i64 m2) (.int .i64 m3))
              go_wp2_with fail
              exact bodyPost_ret (results_st (j := 2) (k := 3) rfl _ _ w.heap.size _ _ _ _ _ _ rfl HQ.out) rfl ⟨read_yes HN.out, HBQ.out⟩
            · have HN : Hid (R = none) := by show _ = _; rw [HD.out, if_neg (fun e => ht e.2)]
              have hXs : ¬ X = s := fun e => ht (by rw [← e, ← hX, data_bs])
              have hq : (X.toList == s.toList) = false := by rw [beq_eq_false_iff_ne, ByteArray.toList_eq, ByteArray.toList_eq]; exact fun e => hXs (str_eq e)
              clear hf ht hX hXs
              go_wp2_with fail
              refine CT.out.mono ?_
              rintro e w9 ⟨rfl, hb⟩
              have HS9 := Lib.hid (HS8.out.keep hb)
              clear hb CT d0 d1 d2 d3 d4 d5
              obtain ⟨z0, z1, z2, z3, z4, z5⟩ := cells6 HS9.out.res
              obtain ⟨f0, f1, f2, f3, f4, f5⟩ := free6 HS9.out.res
              have HQ := Lib.hid (heap_put6 HS9.out.res (.int .i64 0) (.int .i64 0) (.int .i64 0) (.int .i64 0) (.int .i64 0) (.int .i64 0))
              have HBQ := Lib.hid (below_put6 HS9.out.bel (Nat.le_refl _) (.int .i64 0) (.int .i64 0) (.int .i64 0) (.int .i64 0) (.int .i64 0) (.int .i64 0))
              go_wp2_with fail
              exact bodyPost_ret (results_st (j := 2) (k := 3) rfl _ _ w.heap.size _ _ _ _ _ _ rfl HQ.out) rfl ⟨read_no HN.out, HBQ.out⟩

end Go.Proofs.YtaffjecnpclliaaDoor.Step
