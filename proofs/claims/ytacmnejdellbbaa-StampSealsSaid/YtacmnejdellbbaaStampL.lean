/-
  The law StampBack, walked.
-/
import Derived.Test.YtacmnejdellbbaaStampK
set_option linter.unusedVariables false
namespace Go.Proofs.Ytacmnejdellbbaa
open Go.RowKit CrcP StampP

theorem stampBack_long (n i c : Int) (s : ByteArray) (W : World) (h : 600 < s.size) (hs : s.size ≤ 9223372036854775807) :
    Calls Try.prog 5 #[stV n i c, .string s] W fun e w' => e = .returned (.bool true) ∧ Below W.heap.size W w' := by
  unfold stV
  have HB := Lib.hid (bx_new W n i c)
  go_enter Try.func5, Try.ntmps5
  go_wp2_with fail
  refine (awake_any _).mono ?_
  rintro e w' ⟨rfl, hb⟩
  have HB2 := Lib.hid (HB.out.keep hb)
  clear hb
  go_wp2_with fail
  go_ret
  exact ⟨rfl, HB2.out.bel⟩
/-- The parts ahead of part j. -/
def front (s : ByteArray) (j : Nat) : ByteArray := s.extract 0 (min (104 * j) s.size)
theorem front_zero (s : ByteArray) : front s 0 = ⟨#[]⟩ := by
  unfold front
  apply ByteArray.ext
  simp
theorem front_succ (s : ByteArray) (j : Nat) (h : 104 * j ≤ s.size) : front s j ++ part s j = front s (j + 1) := by
  unfold front part
  rw [Nat.min_eq_left h, ByteArray.extract_append_extract]
  congr 1
  omega
theorem front_all (s : ByteArray) : front s (cnt s.size) = s := by
  unfold front cnt
  rw [Nat.min_eq_right (by omega)]
  apply ByteArray.ext
  simp
theorem front_size (s : ByteArray) (j : Nat) : (front s j).size ≤ s.size := by
  unfold front
  rw [ByteArray.size_extract]
  omega
theorem parts_getD (s : ByteArray) {j : Nat} (h : j < cnt s.size) : (parts s).getD j ByteArray.empty = part s j := by
  simp [List.getD, parts_get s h]
theorem StrsAt.at {w : World} {g len : Nat} {ss : List ByteArray} (h : StrsAt w (some ⟨g, 0, none⟩) len ss) {j : Nat} (hj : j < len) : w.cell? ⟨g, j, none⟩ = some (.string (ss.getD j ByteArray.empty)) := by
  rcases h.2.2 with h0 | ⟨b, off, he, _, hc⟩
  · omega
  · simp only [Option.some.injEq, Addr.mk.injEq] at he
    obtain ⟨rfl, rfl, _⟩ := he
    have := hc j hj
    rw [Nat.zero_add] at this
    exact this
set_option maxHeartbeats 4000000 in
theorem stampBack_not (n i c : Int) (s : ByteArray) (W : World) (h : s.size ≤ 600) (hf : ¬ fit n i c) :
    Calls Try.prog 5 #[stV n i c, .string s] W fun e w' => e = .returned (.bool true) ∧ Below W.heap.size W w' := by
  have k1 := fun w => seal_not n i c (part s 0) w hf
  have k2 := fun w => split_any s w h
  have k3 := fun w => fit_any n i c w
  rw [fit_no hf] at k3
  have hps : (part s 0).size ≤ 104 := by rw [part_size]; omega
  have hq1 : 0 < cnt s.size := by unfold cnt; omega
  have hp0 : (parts s).getD 0 ByteArray.empty = part s 0 := parts_getD s hq1
  have hpl := parts_length s
  have hlast : 1 < cnt s.size → (part s 0).size = 104 := fun hh => by rw [part_size]; unfold cnt at hh; omega
  have hq7 : cnt s.size ≤ 7 := by unfold cnt; omega
  generalize cnt s.size = q at *
  generalize part s 0 = p at *
  generalize parts s = ps at *
  unfold stV at *
  have HB := Lib.hid (bx_new W n i c)
  have K1 := Lib.hid k1; have K2 := Lib.hid k2; have K3 := Lib.hid k3; have HP0 := Lib.hid hp0; have HLAST := Lib.hid hlast
  clear k1 k2 k3 hf hp0 hlast
  go_enter Try.func5, Try.ntmps5
  go_wp2_with fail
  refine (K2.out _).mono ?_
  rintro e w1 ⟨g, cap, rfl, hS, hg, hb⟩
  rw [hpl] at hS
  rw [hpl]
  have HB1 := Lib.hid (HB.out.keep hb); have HS := Lib.hid hS
  clear hb HB hS hpl hg
  go_wp2_with fail
  go_loopw [6, 7] (fun x y wr => x = .string ⟨#[]⟩ ∧ y = .int .i64 0 ∧ wr = w1) (fun _ y _ => 0)
  case atStart => exact ⟨rfl, rfl, rfl⟩
  case round =>
    obtain ⟨rfl, rfl, rfl⟩ := hrel
    have hd := HS.out.at hq1
    rw [HP0.out] at hd
    have x0 : wr.cell? ⟨W.heap.size, 0, none⟩ = some (.int .i64 n) := cell_of_heap HB1.out.box
    have x1 : wr.cell? ⟨W.heap.size, 1, none⟩ = some (.int .i64 i) := cell_of_heap HB1.out.box
    have x2 : wr.cell? ⟨W.heap.size, 2, none⟩ = some (.int .i64 c) := cell_of_heap HB1.out.box
    have y0 : wr.drew.cell? ⟨W.heap.size, 0, none⟩ = some (.int .i64 n) := x0
    have y1 : wr.drew.cell? ⟨W.heap.size, 1, none⟩ = some (.int .i64 i) := x1
    have y2 : wr.drew.cell? ⟨W.heap.size, 2, none⟩ = some (.int .i64 c) := x2
    have yd : wr.drew.cell? ⟨g, 0, none⟩ = some (.string p) := hd
    by_cases hq2 : 1 < q
    · have hz := HLAST.out hq2
      have hz2 : ((p.size : Int) != 104) = false := by simp; omega
      have hqi : (0 : Int) < (q : Int) - 1 := by omega
      go_wp2_with fail
      refine wp_region_any (by kernel_rfl) ?_
      change wpAny _ _ _ _ _ _ _ (World.drew _)
      refine wpAny_take (i := 1) (v := ?_) rfl (by kernel_rfl) (by kernel_rfl) (by kernel_rfl) (fun _ _ _ h => h) (Or.inl ⟨by rfl, ?_⟩) ?_; rotate_left; focus ((intro w'); go_simp; (try with_reducible rfl))
      refine wpAny_take (i := 2) (v := ?_) rfl (by kernel_rfl) (by kernel_rfl) (by kernel_rfl) (fun _ _ _ h => h) (Or.inl ⟨by rfl, ?_⟩) ?_; rotate_left; focus ((intro w'); go_simp; (try with_reducible rfl))
      refine wpAny_take (i := 3) (v := ?_) rfl (by kernel_rfl) (by kernel_rfl) (by kernel_rfl) (fun _ _ _ h => h) (Or.inl ⟨by rfl, ?_⟩) ?_; rotate_left; focus ((intro w'); go_simp; (try with_reducible rfl))
      refine wpAny_ready (rs := [0, 4]) (by kernel_rfl) (by simp) ?_
      refine AllReady.cons rfl (fun K hK => ?_) (AllReady.cons rfl (fun K hK => ?_) AllReady.nil)
      · go_simp
        refine hK _ _ ?_
        clear hK K
        refine wpAny_ready (rs := [4]) (by kernel_rfl) (by simp) ?_
        refine AllReady.cons rfl (fun K hK => ?_) AllReady.nil
        go_simp
        refine hK _ _ ?_
        clear hK K
        refine wpAny_ready (rs := [5]) (by kernel_rfl) (by simp) ?_
        refine AllReady.cons rfl (fun K hK => ?_) AllReady.nil
        go_simp
        refine (K1.out _).mono ?_
        rintro e w4 ⟨rfl, hb⟩
        refine hK _ _ ?_
        clear hK K
        refine wpAny_take (i := 6) (v := ?_) rfl (by kernel_rfl) (by kernel_rfl) (by kernel_rfl) (fun _ _ _ h => h) (Or.inl ⟨by rfl, ?_⟩) ?_; rotate_left; focus ((intro w'); go_simp; (try with_reducible rfl))
        refine wpAny_take (i := 7) (v := ?_) rfl (by kernel_rfl) (by kernel_rfl) (by kernel_rfl) (fun _ _ _ h => h) (Or.inl ⟨by rfl, ?_⟩) ?_; rotate_left; focus ((intro w'); go_simp; (try with_reducible rfl))
        refine wpAny_take (i := 8) (v := ?_) rfl (by kernel_rfl) (by kernel_rfl) (by kernel_rfl) (fun _ _ _ h => h) (Or.inl ⟨by rfl, ?_⟩) ?_; rotate_left; focus ((intro w'); go_simp; (try with_reducible rfl))
        refine wpAny_take (i := 9) (v := ?_) rfl (by kernel_rfl) (by kernel_rfl) (by kernel_rfl) (fun _ _ _ h => h) (Or.inl ⟨by rfl, ?_⟩) ?_; rotate_left; focus ((intro w'); go_simp; (try with_reducible rfl))
        refine Mix.wpAny_of_seqV [10] _ _ _ (by kernel_rfl) ?_
        simp only [Mix.pick, List.filterMap_cons, List.filterMap_nil, List.getElem?_cons_zero, List.getElem?_cons_succ]
        clear x0 x1 x2 y0 y1 y2 yd hd
        have hb4 : Below wr.heap.size wr w4 := (Below.refl _ wr).drew.trans hb
        have HB4 := Lib.hid (HB1.out.keep hb4)
        have x0 : w4.cell? ⟨W.heap.size, 0, none⟩ = some (.int .i64 n) := cell_of_heap HB4.out.box
        have x1 : w4.cell? ⟨W.heap.size, 1, none⟩ = some (.int .i64 i) := cell_of_heap HB4.out.box
        have x2 : w4.cell? ⟨W.heap.size, 2, none⟩ = some (.int .i64 c) := cell_of_heap HB4.out.box
        clear hb hb4
        go_wp2_with fail
        refine (K3.out _).mono ?_
        rintro e w5 ⟨rfl, hb⟩
        have HB5 := Lib.hid (HB4.out.keep hb)
        clear hb x0 x1 x2
        go_wp2_with fail
        refine (awake_any _).mono ?_
        rintro e w6 ⟨rfl, hb⟩
        have HB6 := Lib.hid (HB5.out.keep hb)
        clear hb
        go_wp2_with fail
        go_ret
        exact ⟨rfl, HB6.out.bel⟩
      · go_simp
        refine hK _ _ ?_
        clear hK K
        refine wpAny_ready (rs := [0]) (by kernel_rfl) (by simp) ?_
        refine AllReady.cons rfl (fun K hK => ?_) AllReady.nil
        go_simp
        refine hK _ _ ?_
        clear hK K
        refine wpAny_ready (rs := [5]) (by kernel_rfl) (by simp) ?_
        refine AllReady.cons rfl (fun K hK => ?_) AllReady.nil
        go_simp
        refine (K1.out _).mono ?_
        rintro e w4 ⟨rfl, hb⟩
        refine hK _ _ ?_
        clear hK K
        refine wpAny_take (i := 6) (v := ?_) rfl (by kernel_rfl) (by kernel_rfl) (by kernel_rfl) (fun _ _ _ h => h) (Or.inl ⟨by rfl, ?_⟩) ?_; rotate_left; focus ((intro w'); go_simp; (try with_reducible rfl))
        refine wpAny_take (i := 7) (v := ?_) rfl (by kernel_rfl) (by kernel_rfl) (by kernel_rfl) (fun _ _ _ h => h) (Or.inl ⟨by rfl, ?_⟩) ?_; rotate_left; focus ((intro w'); go_simp; (try with_reducible rfl))
        refine wpAny_take (i := 8) (v := ?_) rfl (by kernel_rfl) (by kernel_rfl) (by kernel_rfl) (fun _ _ _ h => h) (Or.inl ⟨by rfl, ?_⟩) ?_; rotate_left; focus ((intro w'); go_simp; (try with_reducible rfl))
        refine wpAny_take (i := 9) (v := ?_) rfl (by kernel_rfl) (by kernel_rfl) (by kernel_rfl) (fun _ _ _ h => h) (Or.inl ⟨by rfl, ?_⟩) ?_; rotate_left; focus ((intro w'); go_simp; (try with_reducible rfl))
        refine Mix.wpAny_of_seqV [10] _ _ _ (by kernel_rfl) ?_
        simp only [Mix.pick, List.filterMap_cons, List.filterMap_nil, List.getElem?_cons_zero, List.getElem?_cons_succ]
        clear x0 x1 x2 y0 y1 y2 yd hd
        have hb4 : Below wr.heap.size wr w4 := (Below.refl _ wr).drew.trans hb
        have HB4 := Lib.hid (HB1.out.keep hb4)
        have x0 : w4.cell? ⟨W.heap.size, 0, none⟩ = some (.int .i64 n) := cell_of_heap HB4.out.box
        have x1 : w4.cell? ⟨W.heap.size, 1, none⟩ = some (.int .i64 i) := cell_of_heap HB4.out.box
        have x2 : w4.cell? ⟨W.heap.size, 2, none⟩ = some (.int .i64 c) := cell_of_heap HB4.out.box
        clear hb hb4
        go_wp2_with fail
        refine (K3.out _).mono ?_
        rintro e w5 ⟨rfl, hb⟩
        have HB5 := Lib.hid (HB4.out.keep hb)
        clear hb x0 x1 x2
        go_wp2_with fail
        refine (awake_any _).mono ?_
        rintro e w6 ⟨rfl, hb⟩
        have HB6 := Lib.hid (HB5.out.keep hb)
        clear hb
        go_wp2_with fail
        go_ret
        exact ⟨rfl, HB6.out.bel⟩
    · have hqi : ¬ (0 : Int) < (q : Int) - 1 := by omega
      go_wp2_with fail
      refine wp_region_any (by kernel_rfl) ?_
      change wpAny _ _ _ _ _ _ _ (World.drew _)
      refine wpAny_take (i := 1) (v := ?_) rfl (by kernel_rfl) (by kernel_rfl) (by kernel_rfl) (fun _ _ _ h => h) (Or.inl ⟨by rfl, ?_⟩) ?_; rotate_left; focus ((intro w'); go_simp; (try with_reducible rfl))
      refine wpAny_take (i := 2) (v := ?_) rfl (by kernel_rfl) (by kernel_rfl) (by kernel_rfl) (fun _ _ _ h => h) (Or.inl ⟨by rfl, ?_⟩) ?_; rotate_left; focus ((intro w'); go_simp; (try with_reducible rfl))
      refine wpAny_take (i := 3) (v := ?_) rfl (by kernel_rfl) (by kernel_rfl) (by kernel_rfl) (fun _ _ _ h => h) (Or.inl ⟨by rfl, ?_⟩) ?_; rotate_left; focus ((intro w'); go_simp; (try with_reducible rfl))
      refine wpAny_ready (rs := [0, 4]) (by kernel_rfl) (by simp) ?_
      refine AllReady.cons rfl (fun K hK => ?_) (AllReady.cons rfl (fun K hK => ?_) AllReady.nil)
      · go_simp
        refine hK _ _ ?_
        clear hK K
        refine wpAny_ready (rs := [4]) (by kernel_rfl) (by simp) ?_
        refine AllReady.cons rfl (fun K hK => ?_) AllReady.nil
        go_simp
        refine hK _ _ ?_
        clear hK K
        refine wpAny_ready (rs := [5]) (by kernel_rfl) (by simp) ?_
        refine AllReady.cons rfl (fun K hK => ?_) AllReady.nil
        go_simp
        refine (K1.out _).mono ?_
        rintro e w4 ⟨rfl, hb⟩
        refine hK _ _ ?_
        clear hK K
        refine wpAny_take (i := 6) (v := ?_) rfl (by kernel_rfl) (by kernel_rfl) (by kernel_rfl) (fun _ _ _ h => h) (Or.inl ⟨by rfl, ?_⟩) ?_; rotate_left; focus ((intro w'); go_simp; (try with_reducible rfl))
        refine wpAny_take (i := 7) (v := ?_) rfl (by kernel_rfl) (by kernel_rfl) (by kernel_rfl) (fun _ _ _ h => h) (Or.inl ⟨by rfl, ?_⟩) ?_; rotate_left; focus ((intro w'); go_simp; (try with_reducible rfl))
        refine wpAny_take (i := 8) (v := ?_) rfl (by kernel_rfl) (by kernel_rfl) (by kernel_rfl) (fun _ _ _ h => h) (Or.inl ⟨by rfl, ?_⟩) ?_; rotate_left; focus ((intro w'); go_simp; (try with_reducible rfl))
        refine wpAny_take (i := 9) (v := ?_) rfl (by kernel_rfl) (by kernel_rfl) (by kernel_rfl) (fun _ _ _ h => h) (Or.inl ⟨by rfl, ?_⟩) ?_; rotate_left; focus ((intro w'); go_simp; (try with_reducible rfl))
        refine Mix.wpAny_of_seqV [10] _ _ _ (by kernel_rfl) ?_
        simp only [Mix.pick, List.filterMap_cons, List.filterMap_nil, List.getElem?_cons_zero, List.getElem?_cons_succ]
        clear x0 x1 x2 y0 y1 y2 yd hd
        have hb4 : Below wr.heap.size wr w4 := (Below.refl _ wr).drew.trans hb
        have HB4 := Lib.hid (HB1.out.keep hb4)
        have x0 : w4.cell? ⟨W.heap.size, 0, none⟩ = some (.int .i64 n) := cell_of_heap HB4.out.box
        have x1 : w4.cell? ⟨W.heap.size, 1, none⟩ = some (.int .i64 i) := cell_of_heap HB4.out.box
        have x2 : w4.cell? ⟨W.heap.size, 2, none⟩ = some (.int .i64 c) := cell_of_heap HB4.out.box
        clear hb hb4
        go_wp2_with fail
        refine (K3.out _).mono ?_
        rintro e w5 ⟨rfl, hb⟩
        have HB5 := Lib.hid (HB4.out.keep hb)
        clear hb x0 x1 x2
        go_wp2_with fail
        refine (awake_any _).mono ?_
        rintro e w6 ⟨rfl, hb⟩
        have HB6 := Lib.hid (HB5.out.keep hb)
        clear hb
        go_wp2_with fail
        go_ret
        exact ⟨rfl, HB6.out.bel⟩
      · go_simp
        refine hK _ _ ?_
        clear hK K
        refine wpAny_ready (rs := [0]) (by kernel_rfl) (by simp) ?_
        refine AllReady.cons rfl (fun K hK => ?_) AllReady.nil
        go_simp
        refine hK _ _ ?_
        clear hK K
        refine wpAny_ready (rs := [5]) (by kernel_rfl) (by simp) ?_
        refine AllReady.cons rfl (fun K hK => ?_) AllReady.nil
        go_simp
        refine (K1.out _).mono ?_
        rintro e w4 ⟨rfl, hb⟩
        refine hK _ _ ?_
        clear hK K
        refine wpAny_take (i := 6) (v := ?_) rfl (by kernel_rfl) (by kernel_rfl) (by kernel_rfl) (fun _ _ _ h => h) (Or.inl ⟨by rfl, ?_⟩) ?_; rotate_left; focus ((intro w'); go_simp; (try with_reducible rfl))
        refine wpAny_take (i := 7) (v := ?_) rfl (by kernel_rfl) (by kernel_rfl) (by kernel_rfl) (fun _ _ _ h => h) (Or.inl ⟨by rfl, ?_⟩) ?_; rotate_left; focus ((intro w'); go_simp; (try with_reducible rfl))
        refine wpAny_take (i := 8) (v := ?_) rfl (by kernel_rfl) (by kernel_rfl) (by kernel_rfl) (fun _ _ _ h => h) (Or.inl ⟨by rfl, ?_⟩) ?_; rotate_left; focus ((intro w'); go_simp; (try with_reducible rfl))
        refine wpAny_take (i := 9) (v := ?_) rfl (by kernel_rfl) (by kernel_rfl) (by kernel_rfl) (fun _ _ _ h => h) (Or.inl ⟨by rfl, ?_⟩) ?_; rotate_left; focus ((intro w'); go_simp; (try with_reducible rfl))
        refine Mix.wpAny_of_seqV [10] _ _ _ (by kernel_rfl) ?_
        simp only [Mix.pick, List.filterMap_cons, List.filterMap_nil, List.getElem?_cons_zero, List.getElem?_cons_succ]
        clear x0 x1 x2 y0 y1 y2 yd hd
        have hb4 : Below wr.heap.size wr w4 := (Below.refl _ wr).drew.trans hb
        have HB4 := Lib.hid (HB1.out.keep hb4)
        have x0 : w4.cell? ⟨W.heap.size, 0, none⟩ = some (.int .i64 n) := cell_of_heap HB4.out.box
        have x1 : w4.cell? ⟨W.heap.size, 1, none⟩ = some (.int .i64 i) := cell_of_heap HB4.out.box
        have x2 : w4.cell? ⟨W.heap.size, 2, none⟩ = some (.int .i64 c) := cell_of_heap HB4.out.box
        clear hb hb4
        go_wp2_with fail
        refine (K3.out _).mono ?_
        rintro e w5 ⟨rfl, hb⟩
        have HB5 := Lib.hid (HB4.out.keep hb)
        clear hb x0 x1 x2
        go_wp2_with fail
        refine (awake_any _).mono ?_
        rintro e w6 ⟨rfl, hb⟩
        have HB6 := Lib.hid (HB5.out.keep hb)
        clear hb
        go_wp2_with fail
        go_ret
        exact ⟨rfl, HB6.out.bel⟩
set_option maxRecDepth 100000 in
set_option maxHeartbeats 8000000 in
theorem stampBack_yes (n i c : Nat) (s : ByteArray) (W : World) (h : s.size ≤ 600) (hf : fit n i c) :
    Calls Try.prog 5 #[stV n i c, .string s] W fun e w' => e = .returned (.bool true) ∧ Below W.heap.size W w' := by
  have k0 := fun p w (hp : p.size ≤ 104) => seal_yes n i c p w hf hp
  have k2 := fun w => split_any s w h
  have k3 : ∀ (p : ByteArray), p.size ≤ 104 → ∀ w, Calls Try.prog 15 #[.string (str (sl n i c p.data.toList))] w fun e w' => e = .returned (.tuple #[stV n i c, .string p, .int .i64 0]) ∧ Below w.heap.size w w' := fun p hp w => by
    have h1 := open_any (str (sl n i c p.data.toList)) w (by rw [str_size, sl_length _ _ _ _ (by rw [len_list]; exact hp)]; decide)
    rw [show (str (sl n i c p.data.toList)).data.toList = sl n i c p.data.toList from rfl, opn_sl hf (by rw [len_list]; exact hp)] at h1
    have e : opV (some (n, i, c, p.data.toList)) = .tuple #[stV n i c, .string p, .int .i64 0] := by show Value.tuple #[stV _ _ _, .string (str _), .int .i64 0] = _; rw [str_data]
    rw [e] at h1
    exact h1
  have k4 : ∀ (p : ByteArray), p.size ≤ 104 → ∀ w, Calls Try.prog 17 #[.string (str (sl n i c p.data.toList))] w fun e w' => e = .returned (.bool false) ∧ Below w.heap.size w w' := fun p hp w => by
    have h1 := blank_any (str (sl n i c p.data.toList)) w
    rw [show ((str (sl n i c p.data.toList)).toList == (str zeros).toList) = false by
      apply beq_eq_false_iff_ne.2
      intro e
      rw [ByteArray.toList_eq, ByteArray.toList_eq] at e
      have e2 : sl n i c p.data.toList = zeros := e
      have e3 := opn_sl (s := p.data.toList) hf (by rw [len_list]; exact hp)
      rw [e2, opn_zeros] at e3
      cases e3] at h1
    exact h1
  have hpz : ∀ j, (part s j).size ≤ 104 := fun j => by rw [part_size]; omega
  have hq1 : 0 < cnt s.size := by unfold cnt; omega
  have hpl := parts_length s
  have hlast : ∀ j, j + 1 < cnt s.size → (part s j).size = 104 := fun j hh => by rw [part_size]; unfold cnt at hh; omega
  have hq7 : cnt s.size ≤ 7 := by unfold cnt; omega
  have hget : ∀ j, j < cnt s.size → (parts s).getD j ByteArray.empty = part s j := fun j hj => parts_getD s hj
  have hall := front_all s
  have hsucc : ∀ j, j < cnt s.size → front s j ++ part s j = front s (j + 1) := fun j hj => front_succ s j (by unfold cnt at hj; omega)
  have hfz : ∀ j, (front s j).size ≤ 600 := fun j => Nat.le_trans (front_size s j) h
  have hf0 := front_zero s
  generalize cnt s.size = q at *
  generalize parts s = ps at *
  unfold stV at *
  have HB := Lib.hid (bx_new W n i c)
  have K0 := Lib.hid k0; have K2 := Lib.hid k2; have K3 := Lib.hid k3; have K4 := Lib.hid k4; have HPZ := Lib.hid hpz; have HLAST := Lib.hid hlast; have HGET := Lib.hid hget; have HALL := Lib.hid hall; have HSUCC := Lib.hid hsucc; have HFZ := Lib.hid hfz; have HF0 := Lib.hid hf0
  clear k0 k2 k3 k4 hf hpz hlast hget hall hsucc hfz hf0
  go_enter Try.func5, Try.ntmps5
  go_wp2_with fail
  refine (K2.out _).mono ?_
  rintro e w1 ⟨g, cap, rfl, hS, hg, hb⟩
  rw [hpl] at hS
  rw [hpl]
  have HB1 := Lib.hid (HB.out.keep hb); have HS := Lib.hid hS
  have hgz : g < w1.heap.size := World.block_lt_of_cell? w1 _ (hS.at hq1)
  have HGZ := Lib.hid hgz
  clear hb HB hS hpl hg hgz
  go_wp2_with fail
  go_loopw [6, 7] (fun x y wr => ∃ (j : Nat) (f : ByteArray), j ≤ q ∧ x = .string f ∧ y = .int .i64 (j : Int) ∧ Hid (f = front s j) ∧ Hid (Bx W wr n i c) ∧ Hid (StrsAt wr (some ⟨g, 0, none⟩) q ps)) (fun _ y _ => q - (intOf y).toNat)
  case atStart => exact ⟨0, ⟨#[]⟩, Nat.zero_le _, rfl, rfl, HF0.out.symm, HB1, HS⟩
  case round =>
    obtain ⟨j, f, hj, rfl, rfl, hfr, hBx, hSt⟩ := hrel
    by_cases hlt : j < q
    · have hd := hSt.out.at hlt
      rw [HGET.out j hlt] at hd
      have hpz := HPZ.out j
      have hfz : f.size ≤ 600 := by rw [hfr.out]; exact HFZ.out j
      have HFN := Lib.hid (show f ++ part s j = front s (j + 1) by rw [hfr.out]; exact HSUCC.out j hlt)
      obtain ⟨p, hp⟩ : ∃ p, part s j = p := ⟨_, rfl⟩
      have K1 := Lib.hid (fun w => K0.out p w (by rw [← hp]; exact hpz))
      have K5 := Lib.hid (K3.out p (by rw [← hp]; exact hpz))
      have K6 := Lib.hid (K4.out p (by rw [← hp]; exact hpz))
      have hlast := HLAST.out j
      rw [hp] at hd hpz HFN hlast
      have HLJ := Lib.hid hlast
      have HPJ := Lib.hid hp
      clear hp hlast
      obtain ⟨t, htt⟩ : ∃ t, str (sl n i c p.data.toList) = t := ⟨_, rfl⟩
      rw [htt] at K1 K5 K6
      clear htt
      have hji : (j : Int) < (q : Int) := by omega
      have x0 : wr.cell? ⟨W.heap.size, 0, none⟩ = some (.int .i64 n) := cell_of_heap hBx.out.box
      have x1 : wr.cell? ⟨W.heap.size, 1, none⟩ = some (.int .i64 i) := cell_of_heap hBx.out.box
      have x2 : wr.cell? ⟨W.heap.size, 2, none⟩ = some (.int .i64 c) := cell_of_heap hBx.out.box
      have y0 : wr.drew.cell? ⟨W.heap.size, 0, none⟩ = some (.int .i64 n) := x0
      have y1 : wr.drew.cell? ⟨W.heap.size, 1, none⟩ = some (.int .i64 i) := x1
      have y2 : wr.drew.cell? ⟨W.heap.size, 2, none⟩ = some (.int .i64 c) := x2
      have yd : wr.drew.cell? ⟨g, j, none⟩ = some (.string p) := hd
      by_cases hq2 : j + 1 < q
      · have hz := HLJ.out hq2
        have hz2 : ((p.size : Int) != 104) = false := by simp; omega
        have hqi : (j : Int) < (q : Int) - 1 := by omega
        clear hq2
        go_wp2_with fail
        refine wp_region_any (by kernel_rfl) ?_
        change wpAny _ _ _ _ _ _ _ (World.drew _)
        refine wpAny_take (i := 1) (v := ?_) rfl (by kernel_rfl) (by kernel_rfl) (by kernel_rfl) (fun _ _ _ h => h) (Or.inl ⟨by rfl, ?_⟩) ?_; rotate_left; focus ((intro w'); go_simp; (try with_reducible rfl))
        refine wpAny_take (i := 2) (v := ?_) rfl (by kernel_rfl) (by kernel_rfl) (by kernel_rfl) (fun _ _ _ h => h) (Or.inl ⟨by rfl, ?_⟩) ?_; rotate_left; focus ((intro w'); go_simp; (try with_reducible rfl))
        refine wpAny_take (i := 3) (v := ?_) rfl (by kernel_rfl) (by kernel_rfl) (by kernel_rfl) (fun _ _ _ h => h) (Or.inl ⟨by rfl, ?_⟩) ?_; rotate_left; focus ((intro w'); go_simp; (try with_reducible rfl))
        refine wpAny_ready (rs := [0, 4]) (by kernel_rfl) (by simp) ?_
        refine AllReady.cons rfl (fun K hK => ?_) (AllReady.cons rfl (fun K hK => ?_) AllReady.nil)
        · go_simp
          refine hK _ _ ?_
          clear hK K
          refine wpAny_ready (rs := [4]) (by kernel_rfl) (by simp) ?_
          refine AllReady.cons rfl (fun K hK => ?_) AllReady.nil
          go_simp
          refine hK _ _ ?_
          clear hK K
          refine wpAny_ready (rs := [5]) (by kernel_rfl) (by simp) ?_
          refine AllReady.cons rfl (fun K hK => ?_) AllReady.nil
          go_simp
          refine (K1.out _).mono ?_
          rintro e w4 ⟨rfl, hb⟩
          refine hK _ _ ?_
          clear hK K
          refine wpAny_take (i := 6) (v := ?_) rfl (by kernel_rfl) (by kernel_rfl) (by kernel_rfl) (fun _ _ _ h => h) (Or.inl ⟨by rfl, ?_⟩) ?_; rotate_left; focus ((intro w'); go_simp; (try with_reducible rfl))
          refine wpAny_take (i := 7) (v := ?_) rfl (by kernel_rfl) (by kernel_rfl) (by kernel_rfl) (fun _ _ _ h => h) (Or.inl ⟨by rfl, ?_⟩) ?_; rotate_left; focus ((intro w'); go_simp; (try with_reducible rfl))
          refine wpAny_take (i := 8) (v := ?_) rfl (by kernel_rfl) (by kernel_rfl) (by kernel_rfl) (fun _ _ _ h => h) (Or.inl ⟨by rfl, ?_⟩) ?_; rotate_left; focus ((intro w'); go_simp; (try with_reducible rfl))
          refine wpAny_take (i := 9) (v := ?_) rfl (by kernel_rfl) (by kernel_rfl) (by kernel_rfl) (fun _ _ _ h => h) (Or.inl ⟨by rfl, ?_⟩) ?_; rotate_left; focus ((intro w'); go_simp; (try with_reducible rfl))
          refine Mix.wpAny_of_seqV [10] _ _ _ (by kernel_rfl) ?_
          simp only [Mix.pick, List.filterMap_cons, List.filterMap_nil, List.getElem?_cons_zero, List.getElem?_cons_succ]
          clear x0 x1 x2 y0 y1 y2 yd hd
          have hb4 : Below wr.heap.size wr w4 := (Below.refl _ wr).drew.trans hb
          have HB4 := Lib.hid (hBx.out.keep hb4)
          have HS4 := Lib.hid (hSt.out.keep hb4)
          clear hb hb4
          go_wp2_with fail
          refine (K5.out _).mono ?_
          rintro e w5 ⟨rfl, hb⟩
          have HB5 := Lib.hid ((HB4.out.keep hb).alloc (.cells #[.int .i64 n, .int .i64 i, .int .i64 c] 23))
          have HS5 := Lib.hid ((HS4.out.keep hb).keep ((Below.refl _ w5).alloc (Nat.le_refl _) (.cells #[.int .i64 n, .int .i64 i, .int .i64 c] 23)))
          have x0 : (w5.alloc (.cells #[.int .i64 n, .int .i64 i, .int .i64 c] 23)).cell? ⟨W.heap.size, 0, none⟩ = some (.int .i64 n) := cell_of_heap HB5.out.box
          have x1 : (w5.alloc (.cells #[.int .i64 n, .int .i64 i, .int .i64 c] 23)).cell? ⟨W.heap.size, 1, none⟩ = some (.int .i64 i) := cell_of_heap HB5.out.box
          have x2 : (w5.alloc (.cells #[.int .i64 n, .int .i64 i, .int .i64 c] 23)).cell? ⟨W.heap.size, 2, none⟩ = some (.int .i64 c) := cell_of_heap HB5.out.box
          have hd := HS5.out.at hlt
          rw [HGET.out j hlt, HPJ.out] at hd
          clear hb
          go_wp2_with fail
          generalize w5.alloc (.cells #[.int .i64 n, .int .i64 i, .int .i64 c] 23) = w6 at *
          refine (K6.out _).mono ?_
          rintro e w7 ⟨rfl, hb⟩
          have HB7 := Lib.hid (HB5.out.keep hb)
          have HS7 := Lib.hid (HS5.out.keep hb)
          clear hb x0 x1 x2 hd
          go_wp2_with fail
          go_roundw
          case rel => exact ⟨j + 1, f ++ p, by omega, rfl, by go_num, HFN, HB7, HS7⟩
          case measure => simp [intOf]; omega
        · go_simp
          refine hK _ _ ?_
          clear hK K
          refine wpAny_ready (rs := [0]) (by kernel_rfl) (by simp) ?_
          refine AllReady.cons rfl (fun K hK => ?_) AllReady.nil
          go_simp
          refine hK _ _ ?_
          clear hK K
          refine wpAny_ready (rs := [5]) (by kernel_rfl) (by simp) ?_
          refine AllReady.cons rfl (fun K hK => ?_) AllReady.nil
          go_simp
          refine (K1.out _).mono ?_
          rintro e w4 ⟨rfl, hb⟩
          refine hK _ _ ?_
          clear hK K
          refine wpAny_take (i := 6) (v := ?_) rfl (by kernel_rfl) (by kernel_rfl) (by kernel_rfl) (fun _ _ _ h => h) (Or.inl ⟨by rfl, ?_⟩) ?_; rotate_left; focus ((intro w'); go_simp; (try with_reducible rfl))
          refine wpAny_take (i := 7) (v := ?_) rfl (by kernel_rfl) (by kernel_rfl) (by kernel_rfl) (fun _ _ _ h => h) (Or.inl ⟨by rfl, ?_⟩) ?_; rotate_left; focus ((intro w'); go_simp; (try with_reducible rfl))
          refine wpAny_take (i := 8) (v := ?_) rfl (by kernel_rfl) (by kernel_rfl) (by kernel_rfl) (fun _ _ _ h => h) (Or.inl ⟨by rfl, ?_⟩) ?_; rotate_left; focus ((intro w'); go_simp; (try with_reducible rfl))
          refine wpAny_take (i := 9) (v := ?_) rfl (by kernel_rfl) (by kernel_rfl) (by kernel_rfl) (fun _ _ _ h => h) (Or.inl ⟨by rfl, ?_⟩) ?_; rotate_left; focus ((intro w'); go_simp; (try with_reducible rfl))
          refine Mix.wpAny_of_seqV [10] _ _ _ (by kernel_rfl) ?_
          simp only [Mix.pick, List.filterMap_cons, List.filterMap_nil, List.getElem?_cons_zero, List.getElem?_cons_succ]
          clear x0 x1 x2 y0 y1 y2 yd hd
          have hb4 : Below wr.heap.size wr w4 := (Below.refl _ wr).drew.trans hb
          have HB4 := Lib.hid (hBx.out.keep hb4)
          have HS4 := Lib.hid (hSt.out.keep hb4)
          clear hb hb4
          go_wp2_with fail
          refine (K5.out _).mono ?_
          rintro e w5 ⟨rfl, hb⟩
          have HB5 := Lib.hid ((HB4.out.keep hb).alloc (.cells #[.int .i64 n, .int .i64 i, .int .i64 c] 23))
          have HS5 := Lib.hid ((HS4.out.keep hb).keep ((Below.refl _ w5).alloc (Nat.le_refl _) (.cells #[.int .i64 n, .int .i64 i, .int .i64 c] 23)))
          have x0 : (w5.alloc (.cells #[.int .i64 n, .int .i64 i, .int .i64 c] 23)).cell? ⟨W.heap.size, 0, none⟩ = some (.int .i64 n) := cell_of_heap HB5.out.box
          have x1 : (w5.alloc (.cells #[.int .i64 n, .int .i64 i, .int .i64 c] 23)).cell? ⟨W.heap.size, 1, none⟩ = some (.int .i64 i) := cell_of_heap HB5.out.box
          have x2 : (w5.alloc (.cells #[.int .i64 n, .int .i64 i, .int .i64 c] 23)).cell? ⟨W.heap.size, 2, none⟩ = some (.int .i64 c) := cell_of_heap HB5.out.box
          have hd := HS5.out.at hlt
          rw [HGET.out j hlt, HPJ.out] at hd
          clear hb
          go_wp2_with fail
          generalize w5.alloc (.cells #[.int .i64 n, .int .i64 i, .int .i64 c] 23) = w6 at *
          refine (K6.out _).mono ?_
          rintro e w7 ⟨rfl, hb⟩
          have HB7 := Lib.hid (HB5.out.keep hb)
          have HS7 := Lib.hid (HS5.out.keep hb)
          clear hb x0 x1 x2 hd
          go_wp2_with fail
          go_roundw
          case rel => exact ⟨j + 1, f ++ p, by omega, rfl, by go_num, HFN, HB7, HS7⟩
          case measure => simp [intOf]; omega
      · have hqi : ¬ (j : Int) < (q : Int) - 1 := by omega
        clear hq2
        go_wp2_with fail
        refine wp_region_any (by kernel_rfl) ?_
        change wpAny _ _ _ _ _ _ _ (World.drew _)
        refine wpAny_take (i := 1) (v := ?_) rfl (by kernel_rfl) (by kernel_rfl) (by kernel_rfl) (fun _ _ _ h => h) (Or.inl ⟨by rfl, ?_⟩) ?_; rotate_left; focus ((intro w'); go_simp; (try with_reducible rfl))
        refine wpAny_take (i := 2) (v := ?_) rfl (by kernel_rfl) (by kernel_rfl) (by kernel_rfl) (fun _ _ _ h => h) (Or.inl ⟨by rfl, ?_⟩) ?_; rotate_left; focus ((intro w'); go_simp; (try with_reducible rfl))
        refine wpAny_take (i := 3) (v := ?_) rfl (by kernel_rfl) (by kernel_rfl) (by kernel_rfl) (fun _ _ _ h => h) (Or.inl ⟨by rfl, ?_⟩) ?_; rotate_left; focus ((intro w'); go_simp; (try with_reducible rfl))
        refine wpAny_ready (rs := [0, 4]) (by kernel_rfl) (by simp) ?_
        refine AllReady.cons rfl (fun K hK => ?_) (AllReady.cons rfl (fun K hK => ?_) AllReady.nil)
        · go_simp
          refine hK _ _ ?_
          clear hK K
          refine wpAny_ready (rs := [4]) (by kernel_rfl) (by simp) ?_
          refine AllReady.cons rfl (fun K hK => ?_) AllReady.nil
          go_simp
          refine hK _ _ ?_
          clear hK K
          refine wpAny_ready (rs := [5]) (by kernel_rfl) (by simp) ?_
          refine AllReady.cons rfl (fun K hK => ?_) AllReady.nil
          go_simp
          refine (K1.out _).mono ?_
          rintro e w4 ⟨rfl, hb⟩
          refine hK _ _ ?_
          clear hK K
          refine wpAny_take (i := 6) (v := ?_) rfl (by kernel_rfl) (by kernel_rfl) (by kernel_rfl) (fun _ _ _ h => h) (Or.inl ⟨by rfl, ?_⟩) ?_; rotate_left; focus ((intro w'); go_simp; (try with_reducible rfl))
          refine wpAny_take (i := 7) (v := ?_) rfl (by kernel_rfl) (by kernel_rfl) (by kernel_rfl) (fun _ _ _ h => h) (Or.inl ⟨by rfl, ?_⟩) ?_; rotate_left; focus ((intro w'); go_simp; (try with_reducible rfl))
          refine wpAny_take (i := 8) (v := ?_) rfl (by kernel_rfl) (by kernel_rfl) (by kernel_rfl) (fun _ _ _ h => h) (Or.inl ⟨by rfl, ?_⟩) ?_; rotate_left; focus ((intro w'); go_simp; (try with_reducible rfl))
          refine wpAny_take (i := 9) (v := ?_) rfl (by kernel_rfl) (by kernel_rfl) (by kernel_rfl) (fun _ _ _ h => h) (Or.inl ⟨by rfl, ?_⟩) ?_; rotate_left; focus ((intro w'); go_simp; (try with_reducible rfl))
          refine Mix.wpAny_of_seqV [10] _ _ _ (by kernel_rfl) ?_
          simp only [Mix.pick, List.filterMap_cons, List.filterMap_nil, List.getElem?_cons_zero, List.getElem?_cons_succ]
          clear x0 x1 x2 y0 y1 y2 yd hd
          have hb4 : Below wr.heap.size wr w4 := (Below.refl _ wr).drew.trans hb
          have HB4 := Lib.hid (hBx.out.keep hb4)
          have HS4 := Lib.hid (hSt.out.keep hb4)
          clear hb hb4
          go_wp2_with fail
          refine (K5.out _).mono ?_
          rintro e w5 ⟨rfl, hb⟩
          have HB5 := Lib.hid ((HB4.out.keep hb).alloc (.cells #[.int .i64 n, .int .i64 i, .int .i64 c] 23))
          have HS5 := Lib.hid ((HS4.out.keep hb).keep ((Below.refl _ w5).alloc (Nat.le_refl _) (.cells #[.int .i64 n, .int .i64 i, .int .i64 c] 23)))
          have x0 : (w5.alloc (.cells #[.int .i64 n, .int .i64 i, .int .i64 c] 23)).cell? ⟨W.heap.size, 0, none⟩ = some (.int .i64 n) := cell_of_heap HB5.out.box
          have x1 : (w5.alloc (.cells #[.int .i64 n, .int .i64 i, .int .i64 c] 23)).cell? ⟨W.heap.size, 1, none⟩ = some (.int .i64 i) := cell_of_heap HB5.out.box
          have x2 : (w5.alloc (.cells #[.int .i64 n, .int .i64 i, .int .i64 c] 23)).cell? ⟨W.heap.size, 2, none⟩ = some (.int .i64 c) := cell_of_heap HB5.out.box
          have hd := HS5.out.at hlt
          rw [HGET.out j hlt, HPJ.out] at hd
          clear hb
          go_wp2_with fail
          generalize w5.alloc (.cells #[.int .i64 n, .int .i64 i, .int .i64 c] 23) = w6 at *
          refine (K6.out _).mono ?_
          rintro e w7 ⟨rfl, hb⟩
          have HB7 := Lib.hid (HB5.out.keep hb)
          have HS7 := Lib.hid (HS5.out.keep hb)
          clear hb x0 x1 x2 hd
          go_wp2_with fail
          go_roundw
          case rel => exact ⟨j + 1, f ++ p, by omega, rfl, by go_num, HFN, HB7, HS7⟩
          case measure => simp [intOf]; omega
        · go_simp
          refine hK _ _ ?_
          clear hK K
          refine wpAny_ready (rs := [0]) (by kernel_rfl) (by simp) ?_
          refine AllReady.cons rfl (fun K hK => ?_) AllReady.nil
          go_simp
          refine hK _ _ ?_
          clear hK K
          refine wpAny_ready (rs := [5]) (by kernel_rfl) (by simp) ?_
          refine AllReady.cons rfl (fun K hK => ?_) AllReady.nil
          go_simp
          refine (K1.out _).mono ?_
          rintro e w4 ⟨rfl, hb⟩
          refine hK _ _ ?_
          clear hK K
          refine wpAny_take (i := 6) (v := ?_) rfl (by kernel_rfl) (by kernel_rfl) (by kernel_rfl) (fun _ _ _ h => h) (Or.inl ⟨by rfl, ?_⟩) ?_; rotate_left; focus ((intro w'); go_simp; (try with_reducible rfl))
          refine wpAny_take (i := 7) (v := ?_) rfl (by kernel_rfl) (by kernel_rfl) (by kernel_rfl) (fun _ _ _ h => h) (Or.inl ⟨by rfl, ?_⟩) ?_; rotate_left; focus ((intro w'); go_simp; (try with_reducible rfl))
          refine wpAny_take (i := 8) (v := ?_) rfl (by kernel_rfl) (by kernel_rfl) (by kernel_rfl) (fun _ _ _ h => h) (Or.inl ⟨by rfl, ?_⟩) ?_; rotate_left; focus ((intro w'); go_simp; (try with_reducible rfl))
          refine wpAny_take (i := 9) (v := ?_) rfl (by kernel_rfl) (by kernel_rfl) (by kernel_rfl) (fun _ _ _ h => h) (Or.inl ⟨by rfl, ?_⟩) ?_; rotate_left; focus ((intro w'); go_simp; (try with_reducible rfl))
          refine Mix.wpAny_of_seqV [10] _ _ _ (by kernel_rfl) ?_
          simp only [Mix.pick, List.filterMap_cons, List.filterMap_nil, List.getElem?_cons_zero, List.getElem?_cons_succ]
          clear x0 x1 x2 y0 y1 y2 yd hd
          have hb4 : Below wr.heap.size wr w4 := (Below.refl _ wr).drew.trans hb
          have HB4 := Lib.hid (hBx.out.keep hb4)
          have HS4 := Lib.hid (hSt.out.keep hb4)
          clear hb hb4
          go_wp2_with fail
          refine (K5.out _).mono ?_
          rintro e w5 ⟨rfl, hb⟩
          have HB5 := Lib.hid ((HB4.out.keep hb).alloc (.cells #[.int .i64 n, .int .i64 i, .int .i64 c] 23))
          have HS5 := Lib.hid ((HS4.out.keep hb).keep ((Below.refl _ w5).alloc (Nat.le_refl _) (.cells #[.int .i64 n, .int .i64 i, .int .i64 c] 23)))
          have x0 : (w5.alloc (.cells #[.int .i64 n, .int .i64 i, .int .i64 c] 23)).cell? ⟨W.heap.size, 0, none⟩ = some (.int .i64 n) := cell_of_heap HB5.out.box
          have x1 : (w5.alloc (.cells #[.int .i64 n, .int .i64 i, .int .i64 c] 23)).cell? ⟨W.heap.size, 1, none⟩ = some (.int .i64 i) := cell_of_heap HB5.out.box
          have x2 : (w5.alloc (.cells #[.int .i64 n, .int .i64 i, .int .i64 c] 23)).cell? ⟨W.heap.size, 2, none⟩ = some (.int .i64 c) := cell_of_heap HB5.out.box
          have hd := HS5.out.at hlt
          rw [HGET.out j hlt, HPJ.out] at hd
          clear hb
          go_wp2_with fail
          generalize w5.alloc (.cells #[.int .i64 n, .int .i64 i, .int .i64 c] 23) = w6 at *
          refine (K6.out _).mono ?_
          rintro e w7 ⟨rfl, hb⟩
          have HB7 := Lib.hid (HB5.out.keep hb)
          have HS7 := Lib.hid (HS5.out.keep hb)
          clear hb x0 x1 x2 hd
          go_wp2_with fail
          go_roundw
          case rel => exact ⟨j + 1, f ++ p, by omega, rfl, by go_num, HFN, HB7, HS7⟩
          case measure => simp [intOf]; omega
    · obtain rfl : j = q := by omega
      have hfs : (f.toList == s.toList) = true := by rw [hfr.out, HALL.out]; simp
      have hqi : (0 : Int) < (j : Int) := by omega
      go_wp2_with fail
      refine (awake_any _).mono ?_
      rintro e w6 ⟨rfl, hb⟩
      have HB6 := Lib.hid (hBx.out.keep hb)
      clear hb
      go_wp2_with fail
      go_ret
      exact ⟨rfl, HB6.out.bel⟩
end Go.Proofs.Ytacmnejdellbbaa
