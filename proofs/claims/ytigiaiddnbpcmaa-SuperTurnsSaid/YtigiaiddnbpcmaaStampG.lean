/-
  The contract of the document's Open: any sector.
-/
import Derived.Test.YtigiaiddnbpcmaaStampF
set_option linter.unusedVariables false
set_option maxRecDepth 4000
namespace Go.Proofs.Ytigiaiddnbpcmaa
open Go.RowKit CrcP StampP

theorem ropen_len (s : ByteArray) (w : World) (h : ¬ s.size = 128) (hs : s.size ≤ 9223372036854775807) : Calls Try.prog 32 #[.string s] w fun e w' => e = .returned (opV none) ∧ Below w.heap.size w w' := by
  have h1 : ((s.size : Int) != 128) = true := by simp; omega
  go_enter Try.func32, Try.ntmps32
  go_wp2_with fail
  refine bodyPost_ret (results_stamp rfl _ _ w.heap.size _ _ _ rfl (by rw [World.cell?_alloc_new]; rfl) (by rw [World.cell?_alloc_new]; rfl) (by rw [World.cell?_alloc_new]; rfl)) rfl ?_
  exact ⟨rfl, (Below.refl _ w).alloc (Nat.le_refl _) _⟩
set_option maxHeartbeats 8000000 in
theorem ropen_yes (s : ByteArray) (w : World) (h : s.size = 128) : Calls Try.prog 32 #[.string s] w fun e w' => e = .returned (opV (opn s.data.toList)) ∧ Below w.heap.size w w' := by
  have h1 : ((s.size : Int) != 128) = false := by simp; omega
  obtain ⟨n, i, c, z, t, er, ⟨e1, e2, e3, e4⟩, _, hs, hn1, hn2, hn3, hy⟩ := anew s h
  obtain ⟨p, hp⟩ : ∃ p, 16 + z = p := ⟨_, rfl⟩
  rw [hp] at hs hy
  have k1 := fun w => told_fld s 0 6 w (by decide)
  have k2 := fun w => told_fld s 6 8 w (by decide)
  have k3 := fun w => told_fld s 8 10 w (by decide)
  have k4 := fun w => told_fld s 10 12 w (by decide)
  rw [e1] at k1
  rw [e2] at k2
  rw [e3] at k3
  rw [e4] at k4
  clear e1 e2 e3 e4
  generalize opn s.data.toList = op at *
  have hzz : opV none = .tuple #[stV 0 0 0, .string ⟨#[]⟩, .int .i64 12] := rfl
  unfold stV at *
  have K1 := Lib.hid k1; have K2 := Lib.hid k2; have K3 := Lib.hid k3; have K4 := Lib.hid k4; have HS := Lib.hid hs
  have HN1 := Lib.hid hn1; have HN2 := Lib.hid hn2; have HN3 := Lib.hid hn3; have HY := Lib.hid hy; have HZZ := Lib.hid hzz
  clear k1 k2 k3 k4 hs hn1 hn2 hn3 hy hzz
  go_enter Try.func32, Try.ntmps32
  go_wp2_with fail
  refine (K4.out _).mono ?_
  rintro e w' ⟨rfl, rfl⟩
  by_cases hz : z ≤ 104
  · have hw : IntKind.i64.wrap (16 + (z : Int)) = (p : Int) := by
      simp only [IntKind.wrap, IntKind.bits, IntKind.signed]
      simp
      omega
    have p1 : (p : Int) ≤ 128 := by omega
    have p2 : (16 : Int) ≤ (p : Int) := by omega
    have p3 : p ≤ 128 := by omega
    have p4 : 16 ≤ p := by omega
    clear hp
    go_wp2_with fail
    go_region_with (first
      | (with_reducible refine (K1.out _).mono ?_; rintro e w' ⟨rfl, rfl⟩)
      | (with_reducible refine (K2.out _).mono ?_; rintro e w' ⟨rfl, rfl⟩)
      | (with_reducible refine (K3.out _).mono ?_; rintro e w' ⟨rfl, rfl⟩))
    all_goals
      go_wp2_with fail
      obtain ⟨hA, hB, hW⟩ := two_blocks (Below.refl ((w.alloc (.cells #[.int .i64 0, .int .i64 0, .int .i64 0] 46)).alloc (.cells #[.int .i64 n, .int .i64 i, .int .i64 c] 46)).drew.heap.size _)
      have HW := Lib.hid hW; have HA := Lib.hid hA; have HBB := Lib.hid hB
      clear hA hB hW
      generalize ((w.alloc (.cells #[.int .i64 0, .int .i64 0, .int .i64 0] 46)).alloc (.cells #[.int .i64 n, .int .i64 i, .int .i64 c] 46)).drew = W at *
      have b0 : W.drew.cell? ⟨w.heap.size + 1, 0, none⟩ = some (.int .i64 n) := cell_of_heap (w := W) HBB.out
      have b1 : W.drew.cell? ⟨w.heap.size + 1, 1, none⟩ = some (.int .i64 i) := cell_of_heap (w := W) HBB.out
      have b2 : W.drew.cell? ⟨w.heap.size + 1, 2, none⟩ = some (.int .i64 c) := cell_of_heap (w := W) HBB.out
      refine wp_region_any (by kernel_rfl) ?_
      change wpAny _ _ _ _ _ _ _ (World.drew _)
      refine wpAny_take (i := 1) (v := ?_) rfl (by kernel_rfl) (by kernel_rfl) (by kernel_rfl) (fun _ _ _ h => h) (Or.inl ⟨by rfl, ?_⟩) ?_; rotate_left; focus ((intro w'); go_simp; (try with_reducible rfl))
      refine wpAny_take (i := 2) (v := ?_) rfl (by kernel_rfl) (by kernel_rfl) (by kernel_rfl) (fun _ _ _ h => h) (Or.inl ⟨by rfl, ?_⟩) ?_; rotate_left; focus ((intro w'); go_simp; (try with_reducible rfl))
      refine wpAny_take (i := 3) (v := ?_) rfl (by kernel_rfl) (by kernel_rfl) (by kernel_rfl) (fun _ _ _ h => h) (Or.inl ⟨by rfl, ?_⟩) ?_; rotate_left; focus ((intro w'); go_simp; (try with_reducible rfl))
      refine wpAny_take (i := 4) (v := ?_) rfl (by kernel_rfl) (by kernel_rfl) (by kernel_rfl) (fun _ _ _ h => h) (Or.inl ⟨by rfl, ?_⟩) ?_; rotate_left; focus ((intro w'); go_simp; (try with_reducible rfl))
      refine wpAny_ready (rs := [0]) (by kernel_rfl) (by simp) ?_
      refine AllReady.cons rfl (fun K hK => ?_) AllReady.nil
      go_simp
      refine hK _ _ ?_
      clear hK K
      refine wpAny_ready (rs := [5]) (by kernel_rfl) (by simp) ?_
      refine AllReady.cons rfl (fun K hK => ?_) AllReady.nil
      go_simp
      refine (HS.out hz _).mono ?_
      rintro e w6 ⟨rfl, hb6⟩
      have HA6 := Lib.hid ((hb6.block _ (Array.getElem?_eq_some_iff.1 HA.out).1).trans HA.out)
      have hB6 := (hb6.block _ (Array.getElem?_eq_some_iff.1 HBB.out).1).trans HBB.out
      have HW6 := Lib.hid (HW.out.drew.trans (hb6.mono HW.out.size))
      clear hb6 b0 b1 b2 HA HBB HW
      have a0 : w6.cell? ⟨w.heap.size, 0, none⟩ = some (.int .i64 0) := cell_of_heap HA6.out
      have a1 : w6.cell? ⟨w.heap.size, 1, none⟩ = some (.int .i64 0) := cell_of_heap HA6.out
      have a2 : w6.cell? ⟨w.heap.size, 2, none⟩ = some (.int .i64 0) := cell_of_heap HA6.out
      have b0 : w6.cell? ⟨w.heap.size + 1, 0, none⟩ = some (.int .i64 n) := cell_of_heap hB6
      have b1 : w6.cell? ⟨w.heap.size + 1, 1, none⟩ = some (.int .i64 i) := cell_of_heap hB6
      have b2 : w6.cell? ⟨w.heap.size + 1, 2, none⟩ = some (.int .i64 c) := cell_of_heap hB6
      have f0 : w6.frozen? ⟨w.heap.size, 0, none⟩ = false := frozen_of_heap HA6.out
      have f1 : w6.frozen? ⟨w.heap.size, 1, none⟩ = false := frozen_of_heap HA6.out
      have f2 : w6.frozen? ⟨w.heap.size, 2, none⟩ = false := frozen_of_heap HA6.out
      clear hB6
      refine hK _ _ ?_
      clear hK K
      refine wpAny_take (i := 6) (v := ?_) rfl (by kernel_rfl) (by kernel_rfl) (by kernel_rfl) (fun _ _ _ h => h) (Or.inl ⟨by rfl, ?_⟩) ?_; rotate_left; focus ((intro w'); go_simp; (try with_reducible rfl))
      refine wpAny_take (i := 7) (v := ?_) rfl (by kernel_rfl) (by kernel_rfl) (by kernel_rfl) (fun _ _ _ h => h) (Or.inl ⟨by rfl, ?_⟩) ?_; rotate_left; focus ((intro w'); go_simp; (try with_reducible rfl))
      refine wpAny_take (i := 8) (v := ?_) rfl (by kernel_rfl) (by kernel_rfl) (by kernel_rfl) (fun _ _ _ h => h) (Or.inl ⟨by rfl, ?_⟩) ?_; rotate_left; focus ((intro w'); go_simp; (try with_reducible rfl))
      refine wpAny_take (i := 9) (v := ?_) rfl (by kernel_rfl) (by kernel_rfl) (by kernel_rfl) (fun _ _ _ h => h) (Or.inl ⟨by rfl, ?_⟩) ?_; rotate_left; focus ((intro w'); go_simp; (try with_reducible rfl))
      refine Mix.wpAny_of_seqV [10] _ _ _ (by kernel_rfl) ?_
      simp only [Mix.pick, List.filterMap_cons, List.filterMap_nil, List.getElem?_cons_zero, List.getElem?_cons_succ]
      by_cases he : er = 0
      · have he2 : (er != 0) = false := by rw [he]; rfl
        by_cases ht : t = s
        · have ht2 : (t.toList == s.toList) = true := by rw [ht]; simp
          have HV := Lib.hid (HY.out hz he ht)
          clear HY HN1 HN2 HN3 he ht
          go_wp2_with fail
          go_region
          go_wp2_with fail
          exact bodyPost_ret (results_stamp rfl _ _ w.heap.size _ _ _ rfl (cell_of_heap (set3 HA6.out)) (cell_of_heap (set3 HA6.out)) (cell_of_heap (set3 HA6.out))) rfl ⟨by rw [HV.out]; rfl, (below_set3 HW6.out (Nat.le_refl _) _ _ _).drew⟩
        · have ht2 : (t.toList == s.toList) = false := by
            apply beq_eq_false_iff_ne.2
            intro e
            rw [ByteArray.toList_eq, ByteArray.toList_eq] at e
            exact ht (text_inj e)
          have hv := HN3.out ht
          subst hv
          clear HY HN1 HN2 HN3 he ht
          go_wp2_with fail
          exact bodyPost_ret (results_stamp rfl _ _ w.heap.size _ _ _ rfl (cell_of_heap (set3 HA6.out)) (cell_of_heap (set3 HA6.out)) (cell_of_heap (set3 HA6.out))) rfl ⟨rfl, below_set3 HW6.out (Nat.le_refl _) _ _ _⟩
      · have he2 : (er != 0) = true := by simp; exact he
        have hv := HN2.out he
        subst hv
        clear HY HN1 HN2 HN3 he
        go_wp2_with fail
        exact bodyPost_ret (results_stamp rfl _ _ w.heap.size _ _ _ rfl (cell_of_heap (set3 HA6.out)) (cell_of_heap (set3 HA6.out)) (cell_of_heap (set3 HA6.out))) rfl ⟨rfl, below_set3 HW6.out (Nat.le_refl _) _ _ _⟩
  · have hv := HN1.out hz
    subst hv
    go_wp2_with fail
    exact bodyPost_ret (results_stamp rfl _ _ w.heap.size _ _ _ rfl (by rw [World.cell?_alloc_new]; rfl) (by rw [World.cell?_alloc_new]; rfl) (by rw [World.cell?_alloc_new]; rfl)) rfl ⟨rfl, (Below.refl _ w).alloc (Nat.le_refl _) _⟩
end Go.Proofs.Ytigiaiddnbpcmaa
