/-
  The walk of DiskNobody: any act; its contract in the frame's form.
-/
import Derived.Test.YtanpaappecakoaaDiskAct
import Derived.Test.YtanpaappecakoaaMix
set_option linter.unusedVariables false
namespace Go.Proofs.Ytanpaappecakoaa
open Go.RowKit DiskP

theorem nb_drewN {B : Nat} {w0 w : World} (h : Below B w0 w) (n : Nat) : Below B w0 (w.drewN n) := ⟨h.os, h.tape, h.output, h.size, h.block⟩
theorem noDisk_drew {w : World} {p : Option Addr} (h : NoDisk w p) (n : Nat) : NoDisk (w.drewN n) p := h
theorem quiet_no {f : Nat} {args : Array Value} {w : World} {n : Nat} {v : Value} (h : Calls Try.prog f args (w.drewN n) fun e w' => e = .returned v ∧ w.drewN n = w') : Calls Try.prog f args (w.drewN n) fun e w'' => e = .returned v ∧ ∃ m, w'' = w.drewN m :=
  h.mono fun _ _ ⟨he, hw⟩ => ⟨he, n, hw.symm⟩
/-- An act's cells, and the two disks that nobody made. -/
structure Nb (w0 w : World) (x : AVal) (bx b1 b2 : Nat) : Prop where
  bel : Below w0.heap.size w0 w
  act : w.heap[bx]? = some (.cells (actV x.kind x.at_ x.fil x.size (.slice x.ka x.kl x.kc)) 36 (0, 0))
  ptr : w.heap[b2]? = some (.cells #[.pointer none, .pointer (some ⟨b1, 0, none⟩)] 25 (0, 0))
  dsk : w.cell? ⟨b1, 3, none⟩ = some (.slice none 0 0)
theorem Nb.keep {w0 w w' : World} {x : AVal} {bx b1 b2 : Nat} (h : Nb w0 w x bx b1 b2) (hb : Below w.heap.size w w') : Nb w0 w' x bx b1 b2 :=
  ⟨h.bel.trans (hb.mono h.bel.size), (hb.block _ (Array.getElem?_eq_some_iff.1 h.act).1).trans h.act, (hb.block _ (Array.getElem?_eq_some_iff.1 h.ptr).1).trans h.ptr, (hb.cell (World.block_lt_of_cell? w _ h.dsk)).trans h.dsk⟩
theorem Nb.ptr_at {w0 w : World} {x : AVal} {bx b1 b2 : Nat} (h : Nb w0 w x bx b1 b2) {j : Nat} (hj : j < 2) : ∃ p, w.cell? ⟨b2, j, none⟩ = some (.pointer p) ∧ NoDisk w p := by
  obtain rfl | rfl : j = 0 ∨ j = 1 := by omega
  · exact ⟨none, cell_of_heap h.ptr, .inl rfl⟩
  · exact ⟨_, cell_of_heap h.ptr, .inr ⟨b1, rfl, h.dsk⟩⟩
theorem nb_new (w : World) (x : AVal) (d : Array Value) (ty : TypeId) (hd : d[3]? = some (.slice none 0 0)) :
    Nb w (((w.alloc (.cells (actV x.kind x.at_ x.fil x.size (.slice x.ka x.kl x.kc)) 36)).alloc (.cells d ty)).alloc (.cells #[.pointer none, .pointer (some ⟨w.heap.size + 1, 0, none⟩)] 25)) x w.heap.size (w.heap.size + 1) (w.heap.size + 1 + 1) := by
  have h2 := heap_alloc_new ((w.alloc (.cells (actV x.kind x.at_ x.fil x.size (.slice x.ka x.kl x.kc)) 36)).alloc (.cells d ty)) (.cells #[.pointer none, .pointer (some ⟨w.heap.size + 1, 0, none⟩)] 25)
  rw [World.size_alloc, World.size_alloc] at h2
  have h1 := heap_alloc_new (w.alloc (.cells (actV x.kind x.at_ x.fil x.size (.slice x.ka x.kl x.kc)) 36)) (.cells d ty)
  rw [World.size_alloc] at h1
  refine ⟨(((Below.refl _ w).alloc (Nat.le_refl _) _).alloc (by simp) _).alloc (by simp; omega) _, ?_, h2, Lib.cell?_alloc_some _ ((cell_of_heap h1).trans hd)⟩
  exact (Below.heap_alloc _ _ _ (by simp; omega)).trans ((Below.heap_alloc _ _ _ (by simp)).trans (heap_alloc_new w _))
theorem diskNobody_long (x : AVal) (w : World) (h : 100 < x.kl) (hl : x.kl ≤ 9223372036854775807) :
    Calls Try.prog 7 #[.agg (actV x.kind x.at_ x.fil x.size (.slice x.ka x.kl x.kc))] w (TrueIn w) := by
  obtain ⟨kind, at_, fil, size, ka, kl, kc, kb⟩ := x
  simp only at h hl ⊢
  have hb0 : Below w.heap.size w (w.alloc (.cells (actV kind at_ fil size (.slice ka kl kc)) 36)) := (Below.refl _ w).alloc (Nat.le_refl _) _
  unfold actV at *
  have HB0 := Lib.hid hb0
  clear hb0
  go_enter Try.func7, Try.ntmps7
  go_wp2_with fail
  refine (awake_in HB0.out).mono ?_
  rintro e w' ⟨rfl, hb⟩
  have HB := Lib.hid hb
  clear hb
  go_wp2_with fail
  go_ret
  exact ⟨rfl, HB.out⟩
set_option maxRecDepth 100000 in
set_option maxHeartbeats 8000000 in
theorem diskNobody_walk (x : AVal) (w : World) (h : x.kl ≤ 100) :
    Calls Try.prog 7 #[.agg (actV x.kind x.at_ x.fil x.size (.slice x.ka x.kl x.kc))] w (TrueIn w) := by
  have hnb := fun d hd => nb_new w x d 59 hd
  have hdo := fun p w h => do_no p x w h
  obtain ⟨kind, at_, fil, size, ka, kl, kc, kb⟩ := x
  simp only at h hdo ⊢
  have HNB := Lib.hid hnb; have HDF := Lib.hid hdo
  clear hnb hdo
  obtain ⟨ev, hev⟩ : ∃ ev : Int, (if kind = 3 then (0 : Int) else 1) = ev := ⟨_, rfl⟩
  have hcase : ev = 1 ∨ (ev = 0 ∧ kind = 3) := by
    rw [← hev]
    by_cases h3 : kind = 3
    · exact .inr ⟨if_pos h3, h3⟩
    · exact .inl (if_neg h3)
  simp only [hev] at HDF
  have HCASE := Lib.hid hcase
  clear hev hcase
  have HN0 := Lib.hid (HNB.out #[.int .i64 0, .int .i64 0, .bool false, .slice none 0 0, .slice none 0 0] rfl)
  clear HNB
  unfold actV at *
  go_enter Try.func7, Try.ntmps7
  go_wp2_with fail
  generalize ((w.alloc (.cells #[.int .i64 kind, .int .i64 at_, .int .u8 fil, .int .i64 size, .slice ka kl kc] 36)).alloc (.cells #[.int .i64 0, .int .i64 0, .bool false, .slice none 0 0, .slice none 0 0] 59)).alloc (.cells #[.pointer none, .pointer (some ⟨w.heap.size + 1, 0, none⟩)] 25) = w3 at *
  generalize w.heap.size + 1 + 1 = b2 at *
  generalize w.heap.size + 1 = b1 at *
  go_loopw [4] (fun i wr => ∃ j : Nat, j ≤ 2 ∧ i = .int .i64 (j : Int) ∧ Hid (Nb w wr ⟨kind, at_, fil, size, ka, kl, kc, kb⟩ w.heap.size b1 b2)) (fun i _ => 2 - (intOf i).toNat)
  case atStart => exact ⟨0, by omega, rfl, HN0⟩
  case round =>
    obtain ⟨j, hj, rfl, hN⟩ := hrel
    by_cases hlt : j < 2
    · obtain ⟨p, hp, hnd⟩ := hN.out.ptr_at hlt
      have HP := Lib.hid hp; have HND := Lib.hid hnd
      have HDO := Lib.hid (HDF.out p wr.drew hnd)
      have y0 : wr.drew.cell? ⟨b2, j, none⟩ = some (.pointer p) := hp
      have x0 : wr.drew.cell? ⟨w.heap.size, 0, none⟩ = some (.int .i64 kind) := cell_of_heap (w := wr) hN.out.act
      have x1 : wr.drew.cell? ⟨w.heap.size, 1, none⟩ = some (.int .i64 at_) := cell_of_heap (w := wr) hN.out.act
      have x2 : wr.drew.cell? ⟨w.heap.size, 2, none⟩ = some (.int .u8 fil) := cell_of_heap (w := wr) hN.out.act
      have x3 : wr.drew.cell? ⟨w.heap.size, 3, none⟩ = some (.int .i64 size) := cell_of_heap (w := wr) hN.out.act
      have x4 : wr.drew.cell? ⟨w.heap.size, 4, none⟩ = some (.slice ka kl kc) := cell_of_heap (w := wr) hN.out.act
      have hj2 : (j : Int) < 2 := by omega
      clear hp hnd
      go_wp2_with fail
      refine wp_region_any (by kernel_rfl) ?_
      change wpAny _ _ _ _ _ _ _ (World.drew _)
      refine wpAny_take (i := 0) (v := ?_) rfl (by kernel_rfl) (by kernel_rfl) (by kernel_rfl) (fun _ _ _ h => h) (Or.inl ⟨by rfl, ?_⟩) ?_; rotate_left; focus ((intro w'); go_simp; (try with_reducible rfl))
      refine wpAny_take (i := 1) (v := ?_) rfl (by kernel_rfl) (by kernel_rfl) (by kernel_rfl) (fun _ _ _ h => h) (Or.inl ⟨by rfl, ?_⟩) ?_; rotate_left; focus ((intro w'); go_simp; (try with_reducible rfl))
      refine wpAny_take (i := 2) (v := ?_) rfl (by kernel_rfl) (by kernel_rfl) (by kernel_rfl) (fun _ _ _ h => h) (Or.inl ⟨by rfl, ?_⟩) ?_; rotate_left; focus ((intro w'); go_simp; (try with_reducible rfl))
      refine wpAny_ready (rs := [3, 4]) (by kernel_rfl) (by simp) ?_
      refine AllReady.cons rfl (fun K hK => ?_) (AllReady.cons rfl (fun K hK => ?_) AllReady.nil)
      · go_simp
        refine hK _ _ ?_
        clear hK K
        refine wpAny_ready (rs := [4]) (by kernel_rfl) (by simp) ?_
        refine AllReady.cons rfl (fun K hK => ?_) AllReady.nil
        go_simp
        refine hK _ _ ?_
        clear hK K
        refine wpAny_ready (rs := [5]) (by kernel_rfl) (by simp) ?_
        refine AllReady.cons rfl (fun K hK => ?_) AllReady.nil
        go_simp
        refine HDO.out.mono ?_
        rintro e w4 ⟨rfl, hb⟩
        refine hK _ _ ?_
        clear hK K
        refine wpAny_take (i := 6) (v := ?_) rfl (by kernel_rfl) (by kernel_rfl) (by kernel_rfl) (fun _ _ _ h => h) (Or.inl ⟨by rfl, ?_⟩) ?_; rotate_left; focus ((intro w'); go_simp; (try with_reducible rfl))
        refine wpAny_take (i := 7) (v := ?_) rfl (by kernel_rfl) (by kernel_rfl) (by kernel_rfl) (fun _ _ _ h => h) (Or.inl ⟨by rfl, ?_⟩) ?_; rotate_left; focus ((intro w'); go_simp; (try with_reducible rfl))
        refine wpAny_take (i := 8) (v := ?_) rfl (by kernel_rfl) (by kernel_rfl) (by kernel_rfl) (fun _ _ _ h => h) (Or.inl ⟨by rfl, ?_⟩) ?_; rotate_left; focus ((intro w'); go_simp; (try with_reducible rfl))
        refine wpAny_take (i := 9) (v := ?_) rfl (by kernel_rfl) (by kernel_rfl) (by kernel_rfl) (fun _ _ _ h => h) (Or.inl ⟨by rfl, ?_⟩) ?_; rotate_left; focus ((intro w'); go_simp; (try with_reducible rfl))
        refine Mix.wpAny_of_seqV [10] _ _ _ (by kernel_rfl) ?_
        simp only [Mix.pick, List.filterMap_cons, List.filterMap_nil, List.getElem?_cons_zero, List.getElem?_cons_succ]
        clear x0 x1 x2 x3 x4 y0
        have hb4 : Below wr.heap.size wr w4 := (Below.refl _ wr).drew.trans hb
        have HN4 := Lib.hid (hN.out.keep hb4)
        have hp4 : w4.cell? ⟨b2, j, none⟩ = some (.pointer p) := (hb4.cell (World.block_lt_of_cell? _ _ HP.out)).trans HP.out
        have hnd4 := noDisk_below HND.out hb4
        have x0 : w4.cell? ⟨w.heap.size, 0, none⟩ = some (.int .i64 kind) := cell_of_heap HN4.out.act
        clear hb hb4
        have C1 := Lib.hid (fun n => quiet_no (dead_no p (w4.drewN n) (noDisk_drew hnd4 n)))
        have C2 := Lib.hid (fun n => quiet_no (size_no p (w4.drewN n) (noDisk_drew hnd4 n)))
        have C3 := Lib.hid (fun n => quiet_no (ops_no p (w4.drewN n) (noDisk_drew hnd4 n)))
        have C4 := Lib.hid (fun n => quiet_no (sectors_no p (w4.drewN n) (noDisk_drew hnd4 n)))
        have C5 := Lib.hid (fun n => quiet_no (waits_no p (w4.drewN n) (noDisk_drew hnd4 n)))
        clear hnd4
        rcases HCASE.out with rfl | ⟨rfl, rfl⟩
        all_goals
          go_wp2_with fail
          go_quiet (first | with_reducible exact C1.out _ | with_reducible exact C2.out _ | with_reducible exact C3.out _ | with_reducible exact C4.out _ | with_reducible exact C5.out _)
          have HN5 := Lib.hid (HN4.out.keep (nb_drewN (Below.refl _ w4) nq))
          clear x0 hp4 C1 C2 C3 C4 C5
          go_wp2_with fail
          go_roundw
          case rel => exact ⟨j + 1, by omega, by go_num, HN5⟩
          case measure => simp [intOf]; omega
      · go_simp
        refine hK _ _ ?_
        clear hK K
        refine wpAny_ready (rs := [3]) (by kernel_rfl) (by simp) ?_
        refine AllReady.cons rfl (fun K hK => ?_) AllReady.nil
        go_simp
        refine hK _ _ ?_
        clear hK K
        refine wpAny_ready (rs := [5]) (by kernel_rfl) (by simp) ?_
        refine AllReady.cons rfl (fun K hK => ?_) AllReady.nil
        go_simp
        refine HDO.out.mono ?_
        rintro e w4 ⟨rfl, hb⟩
        refine hK _ _ ?_
        clear hK K
        refine wpAny_take (i := 6) (v := ?_) rfl (by kernel_rfl) (by kernel_rfl) (by kernel_rfl) (fun _ _ _ h => h) (Or.inl ⟨by rfl, ?_⟩) ?_; rotate_left; focus ((intro w'); go_simp; (try with_reducible rfl))
        refine wpAny_take (i := 7) (v := ?_) rfl (by kernel_rfl) (by kernel_rfl) (by kernel_rfl) (fun _ _ _ h => h) (Or.inl ⟨by rfl, ?_⟩) ?_; rotate_left; focus ((intro w'); go_simp; (try with_reducible rfl))
        refine wpAny_take (i := 8) (v := ?_) rfl (by kernel_rfl) (by kernel_rfl) (by kernel_rfl) (fun _ _ _ h => h) (Or.inl ⟨by rfl, ?_⟩) ?_; rotate_left; focus ((intro w'); go_simp; (try with_reducible rfl))
        refine wpAny_take (i := 9) (v := ?_) rfl (by kernel_rfl) (by kernel_rfl) (by kernel_rfl) (fun _ _ _ h => h) (Or.inl ⟨by rfl, ?_⟩) ?_; rotate_left; focus ((intro w'); go_simp; (try with_reducible rfl))
        refine Mix.wpAny_of_seqV [10] _ _ _ (by kernel_rfl) ?_
        simp only [Mix.pick, List.filterMap_cons, List.filterMap_nil, List.getElem?_cons_zero, List.getElem?_cons_succ]
        clear x0 x1 x2 x3 x4 y0
        have hb4 : Below wr.heap.size wr w4 := (Below.refl _ wr).drew.trans hb
        have HN4 := Lib.hid (hN.out.keep hb4)
        have hp4 : w4.cell? ⟨b2, j, none⟩ = some (.pointer p) := (hb4.cell (World.block_lt_of_cell? _ _ HP.out)).trans HP.out
        have hnd4 := noDisk_below HND.out hb4
        have x0 : w4.cell? ⟨w.heap.size, 0, none⟩ = some (.int .i64 kind) := cell_of_heap HN4.out.act
        clear hb hb4
        have C1 := Lib.hid (fun n => quiet_no (dead_no p (w4.drewN n) (noDisk_drew hnd4 n)))
        have C2 := Lib.hid (fun n => quiet_no (size_no p (w4.drewN n) (noDisk_drew hnd4 n)))
        have C3 := Lib.hid (fun n => quiet_no (ops_no p (w4.drewN n) (noDisk_drew hnd4 n)))
        have C4 := Lib.hid (fun n => quiet_no (sectors_no p (w4.drewN n) (noDisk_drew hnd4 n)))
        have C5 := Lib.hid (fun n => quiet_no (waits_no p (w4.drewN n) (noDisk_drew hnd4 n)))
        clear hnd4
        rcases HCASE.out with rfl | ⟨rfl, rfl⟩
        all_goals
          go_wp2_with fail
          go_quiet (first | with_reducible exact C1.out _ | with_reducible exact C2.out _ | with_reducible exact C3.out _ | with_reducible exact C4.out _ | with_reducible exact C5.out _)
          have HN5 := Lib.hid (HN4.out.keep (nb_drewN (Below.refl _ w4) nq))
          clear x0 hp4 C1 C2 C3 C4 C5
          go_wp2_with fail
          go_roundw
          case rel => exact ⟨j + 1, by omega, by go_num, HN5⟩
          case measure => simp [intOf]; omega
    · obtain rfl : j = 2 := by omega
      go_wp2_with fail
      refine (awake_in hN.out.bel).mono ?_
      rintro e wq ⟨rfl, hb⟩
      have HBQ := Lib.hid hb
      clear hb
      go_wp2_with fail
      go_ret
      exact ⟨rfl, HBQ.out⟩
end Go.Proofs.Ytanpaappecakoaa
