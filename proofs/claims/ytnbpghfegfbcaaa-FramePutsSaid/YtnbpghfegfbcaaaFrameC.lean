/-
  The contract of the document's Put: a text that is no record, too many octets, the frames.
-/
import Derived.Test.YtnbpghfegfbcaaaFrameB
import Derived.Deep.RegionHeld3
set_option linter.unusedVariables false
set_option maxRecDepth 4000
namespace Go.Proofs.Ytnbpghfegfbcaaa
open Go.RowKit CrcP FrameP

theorem hd_text (n : Nat) (hn : n < 65536) (w' : World) (b cap : Nat) (t : TypeId) (h : w'.heap[b]? = some (.cells #[.int .u8 ((n : Int) / 256), .int .u8 ((n : Int) % 256)] t (0, 0))) :
    (convert 39 9 (.slice (some ⟨b, 0, none⟩) 2 cap)).run Try.prog w' = .ok (.string (str (hd n))) w' := by
  rw [hd_cells n hn] at h
  exact text_of_row h 2 cap rfl
theorem u8_in {x : Int} (h1 : 0 ≤ x) (h2 : x < 256) : IntKind.u8.wrap x = x := by
  have h : IntKind.u8.wrap x = x % 256 := rfl
  rw [h]; omega
theorem rput_bad (a : Option Addr) (len cap m : Nat) (ss : List ByteArray) (w : World) (hS : StrsAt w a len ss) (hF : Few 100 5000 ss) (hm : m < len) (hr : ∀ i, i < m → 1 ≤ (ss.getD i ByteArray.empty).size ∧ (ss.getD i ByteArray.empty).size ≤ 4096) (hb : ¬ (1 ≤ (ss.getD m ByteArray.empty).size ∧ (ss.getD m ByteArray.empty).size ≤ 4096)) :
    Calls Try.prog 9 #[.slice a len cap] w fun e w' => e = .returned (.tuple #[.string ⟨#[]⟩, .int .i64 1]) ∧ w = w' := by
  have HL := Lib.hid hS.1; have HC := Lib.hid hS.cells; have HF := Lib.hid hF; have HR := Lib.hid hr; have HB := Lib.hid hb
  have hlen : len ≤ 100 := by rw [← hS.1]; exact hF.1
  clear hS hF hr hb
  go_enter Try.func9, Try.ntmps9
  go_wp2_with fail
  go_loop [4] (fun i => ∃ j : Nat, j ≤ m ∧ i = .int .i64 (j : Int)) (fun i => len - (intOf i).toNat)
  case atStart => exact ⟨0, Nat.zero_le _, rfl⟩
  case round =>
    obtain ⟨j, hj, rfl⟩ := hrel
    obtain ⟨b, off, rfl, _, hc⟩ := HC.out (by omega)
    have hlj : j < ss.length := by rw [HL.out]; omega
    have d0 := hc j (by omega)
    have y0 := getD_size HF.out j hlj
    clear hc
    by_cases hlt : j < m
    · obtain ⟨y1, y2⟩ := HR.out j hlt
      generalize ss.getD j ByteArray.empty = s at *
      go_wp2_with fail
      go_round
      case rel => exact ⟨j + 1, by omega, by go_num⟩
      case measure => simp [intOf]; omega
    · obtain rfl : j = m := by omega
      have y1 := HB.out
      generalize ss.getD j ByteArray.empty = s at *
      by_cases hs1 : s.size < 1
      · go_wp2_with fail
        go_ret2
        exact ⟨rfl, rfl⟩
      · have hs2 : 4096 < s.size := by omega
        go_wp2_with fail
        go_ret2
        exact ⟨rfl, rfl⟩
theorem rput_long (a : Option Addr) (len cap : Nat) (ss : List ByteArray) (w : World) (hS : StrsAt w a len ss) (hF : Few 100 5000 ss) (hr : ∀ t ∈ ss, 1 ≤ t.size ∧ t.size ≤ 4096) (hz : 16384 < sz (dt ss)) :
    Calls Try.prog 9 #[.slice a len cap] w fun e w' => e = .returned (.tuple #[.string ⟨#[]⟩, .int .i64 9]) ∧ w = w' := by
  have HL := Lib.hid hS.1; have HC := Lib.hid hS.cells; have HR := Lib.hid hr; have HSI := Lib.hid (rsize_any a len cap ss w hS hF)
  have hlen : len ≤ 100 := by rw [← hS.1]; exact hF.1
  have hzz := hF.sz
  obtain ⟨z, hz2⟩ : ∃ z, sz (dt ss) = z := ⟨_, rfl⟩
  rw [hz2] at HSI hz hzz
  clear hS hF hz2 hr
  go_enter Try.func9, Try.ntmps9
  go_wp2_with fail
  go_loop [4] (fun i => ∃ j : Nat, j ≤ len ∧ i = .int .i64 (j : Int)) (fun i => len - (intOf i).toNat)
  case atStart => exact ⟨0, Nat.zero_le _, rfl⟩
  case round =>
    obtain ⟨j, hj, rfl⟩ := hrel
    by_cases hlt : j < len
    · obtain ⟨b, off, rfl, _, hc⟩ := HC.out (by omega)
      have hlj : j < ss.length := by rw [HL.out]; exact hlt
      have d0 := hc j hlt
      obtain ⟨y1, y2⟩ := HR.out _ (getD_mem hlj)
      clear hc
      generalize ss.getD j ByteArray.empty = s at *
      go_wp2_with fail
      go_round
      case rel => exact ⟨j + 1, by omega, by go_num⟩
      case measure => simp [intOf]; omega
    · obtain rfl : j = len := by omega
      go_wp2_with fail
      refine HSI.out.mono ?_
      rintro e w' ⟨rfl, rfl⟩
      go_wp2_with fail
      go_ret2
      exact ⟨rfl, rfl⟩
theorem below_undrew {w w' : World} (h : Below w.drew.heap.size w.drew w') : Below w.heap.size w w' := (Below.refl _ w).drew.trans h
theorem below_after {w0 w w' : World} (hB : Below w0.heap.size w0 w) (o : Obj) (h : Below (w.drew.alloc o).heap.size (w.drew.alloc o) w') : Below w0.heap.size w0 w' := by
  have h1 := (hB.drew).alloc hB.size o
  exact h1.trans (h.mono h1.size)
set_option maxHeartbeats 4000000 in
theorem rput_yes (a : Option Addr) (len cap : Nat) (ss : List ByteArray) (w : World) (hS : StrsAt w a len ss) (hF : Few 100 5000 ss) (hr : ∀ t ∈ ss, 1 ≤ t.size ∧ t.size ≤ 4096) (hz : sz (dt ss) ≤ 16384) :
    Calls Try.prog 9 #[.slice a len cap] w fun e w' => e = .returned (.tuple #[.string (str (frs (dt ss))), .int .i64 0]) ∧ Below w.heap.size w w' := by
  have HL := Lib.hid hS.1; have HC := Lib.hid hS.cells; have HF := Lib.hid hF; have HR := Lib.hid hr; have HSI := Lib.hid (rsize_any a len cap ss w hS hF)
  have hlen : len ≤ 100 := by rw [← hS.1]; exact hF.1
  obtain ⟨z, hz2⟩ : ∃ z, sz (dt ss) = z := ⟨_, rfl⟩
  obtain ⟨X, hX⟩ : ∃ X, str (frs (dt ss)) = X := ⟨_, rfl⟩
  rw [hz2] at HSI hz
  rw [hX]
  have HZ := Lib.hid hz2
  have HX := Lib.hid hX
  clear hS hF hz2 hr hX
  go_enter Try.func9, Try.ntmps9
  go_wp2_with fail
  go_loop [4] (fun i => ∃ j : Nat, j ≤ len ∧ i = .int .i64 (j : Int)) (fun i => len - (intOf i).toNat)
  case atStart => exact ⟨0, Nat.zero_le _, rfl⟩
  case round =>
    obtain ⟨j, hj, rfl⟩ := hrel
    by_cases hlt : j < len
    · obtain ⟨b, off, rfl, _, hc⟩ := HC.out (by omega)
      have hlj : j < ss.length := by rw [HL.out]; exact hlt
      have d0 := hc j hlt
      obtain ⟨y1, y2⟩ := HR.out _ (getD_mem hlj)
      clear hc
      generalize ss.getD j ByteArray.empty = s at *
      go_wp2_with fail
      go_round
      case rel => exact ⟨j + 1, by omega, by go_num⟩
      case measure => simp [intOf]; omega
    · obtain rfl : j = len := by omega
      go_wp2_with fail
      refine HSI.out.mono ?_
      rintro e w' ⟨rfl, rfl⟩
      go_wp2_with fail
      go_loopw [5, 6] (fun v i wr => ∃ (k : Nat) (y : ByteArray), k ≤ j ∧ i = .int .i64 (k : Int) ∧ v = .string y ∧ Hid (y = str (frs ((dt ss).take k))) ∧ Hid (Below w.heap.size w wr)) (fun _ i _ => j - (intOf i).toNat)
      case atStart => exact ⟨0, _, Nat.zero_le _, rfl, rfl, rfl, Below.refl _ _⟩
      case round =>
        obtain ⟨k, y, hk, rfl, rfl, hy, hB⟩ := hrel
        by_cases hlt2 : k < j
        · obtain ⟨b, off, rfl, hb, hc⟩ := HC.out (by omega)
          have hlj : k < ss.length := by rw [HL.out]; exact hlt2
          have d0 := (hB.out.cell (p := ⟨b, off + k, none⟩) hb).trans (hc k hlt2)
          obtain ⟨y1, y2⟩ := HR.out _ (getD_mem hlj)
          have hfk := frs_take (dt ss) k (by rw [dt_length]; exact hlj)
          have hyz : y.size ≤ z := by
            rw [hy.out, str_size, frs_length]
            have h2 := sz_take_le (dt ss) k
            rw [HZ.out] at h2
            exact h2
          rw [dt_get ss k hlj] at hfk
          have HFK := Lib.hid hfk
          clear hc hfk
          generalize ss.getD k ByteArray.empty = s at *
          obtain ⟨h2, hh2⟩ : ∃ h2, str (hd s.size) = h2 := ⟨_, rfl⟩
          obtain ⟨c, hc⟩ : ∃ c, str (cs s.data.toList) = c := ⟨_, rfl⟩
          have hh2s : h2.size ≤ 2 := by rw [← hh2]; exact Nat.le_refl _
          have hcs : c.size ≤ 4 := by rw [← hc]; exact Nat.le_refl _
          have hnew : y ++ h2 ++ c ++ s = str (frs ((dt ss).take (k + 1))) := by
            rw [HFK.out, hy.out, ← hh2, ← hc]
            conv => lhs; rw [← str_of s]
            rw [str_app, str_app, str_app, str_of]
            unfold fr
            rw [len_list, List.append_assoc, List.append_assoc, List.append_assoc]
          have hsum := fun w => rsum_any s w (by omega)
          have hbv := bv_lt (more 0#32 s.data.toList)
          have hoc : str (oc (more 0#32 s.data.toList).toNat) = c := hc
          obtain ⟨x, hx⟩ : ∃ x, (more 0#32 s.data.toList).toNat = x := ⟨_, rfl⟩
          rw [hx] at hsum hbv hoc
          have hoct : ∀ w, Calls Try.prog 17 #[.int .u32 (x : Int)] w fun e w' => e = .returned (.string c) ∧ Below w.heap.size w w' := fun w => by
            rw [← hoc]
            exact roctets_any x w hbv
          have hcv0 : ∀ W : World, (convert 39 9 (.slice (some ⟨W.heap.size, 0, none⟩) 2 2)).run Try.prog (W.alloc (.cells #[.int .u8 ((s.size : Int) / 256), .int .u8 ((s.size : Int) % 256)] 5)) = .ok (.string h2) (W.alloc (.cells #[.int .u8 ((s.size : Int) / 256), .int .u8 ((s.size : Int) % 256)] 5)) := fun W => by
            rw [← hh2]
            exact hd_text s.size (by omega) _ W.heap.size 2 _ (heap_alloc_new W _)
          have hcv1 : ∀ (W W' : World), Below (W.alloc (.cells #[.int .u8 ((s.size : Int) / 256), .int .u8 ((s.size : Int) % 256)] 5)).heap.size (W.alloc (.cells #[.int .u8 ((s.size : Int) / 256), .int .u8 ((s.size : Int) % 256)] 5)) W' → (convert 39 9 (.slice (some ⟨W.heap.size, 0, none⟩) 2 2)).run Try.prog W' = .ok (.string h2) W' := fun W W' hb => by
            rw [← hh2]
            exact hd_text s.size (by omega) _ W.heap.size 2 _ ((hb.block W.heap.size (by simp)).trans (heap_alloc_new W _))
          have HNEW := Lib.hid hnew; have HSUM := Lib.hid hsum; have HOCT := Lib.hid hoct; have HCV := Lib.hid hcv1
          have hcvd := hcv1 wr (wr.alloc (.cells #[.int .u8 ((s.size : Int) / 256), .int .u8 ((s.size : Int) % 256)] 5)).drew (Below.refl _ _).drew
          have hm1 : IntKind.i64.wrap ((s.size : Int) / 256) = (s.size : Int) / 256 := by rw [IntWalk.i64_in] <;> omega
          have hm2 : IntKind.u8.wrap ((s.size : Int) / 256) = (s.size : Int) / 256 := u8_in (by omega) (by omega)
          have hm3 : ((s.size : Int)).tmod 256 = (s.size : Int) % 256 := Int.tmod_eq_emod_of_nonneg (by omega)
          have hm4 : IntKind.u8.wrap ((s.size : Int) % 256) = (s.size : Int) % 256 := u8_in (by omega) (by omega)
          have q1 : ¬ (9223372036854775807 < y.size + h2.size) := by omega
          have q2 : ¬ (9223372036854775807 < y.size + h2.size + c.size) := by omega
          have q3 : ¬ (9223372036854775807 < y.size + h2.size + c.size + s.size) := by omega
          clear hnew hsum hoct hcv1 hh2 hc hx hoc
          go_wp2_with fail
          · skip
            --GEN13
            refine wp_region_noPanic ?_
            refine wp_region_held_drew (S := (fun w' => w'.cell? ⟨b, off + k, none⟩ = some (.string s))) (by kernel_rfl) d0 (fun hHeld => ?_)
            refine wpAnyH_take (i := 0) (v := ?_) rfl (by kernel_rfl) (by kernel_rfl) (by kernel_rfl) (fun _ _ _ h => h) (Or.inl ⟨by kernel_rfl, ?_⟩) hHeld ?_; rotate_left; focus ((intro w' hSw; (try dsimp only at hSw); go_simp; (try with_reducible rfl)))
            refine wpAnyH_take (i := 1) (v := ?_) rfl (by kernel_rfl) (by kernel_rfl) (by kernel_rfl) (fun _ _ _ h => h) (Or.inl ⟨by kernel_rfl, ?_⟩) hHeld ?_; rotate_left; focus ((intro w' hSw; (try dsimp only at hSw); go_simp; (try with_reducible rfl)))
            refine wpAnyH_take (i := 2) (v := ?_) rfl (by kernel_rfl) (by kernel_rfl) (by kernel_rfl) (fun _ _ _ h => h) (Or.inl ⟨by kernel_rfl, ?_⟩) hHeld ?_; rotate_left; focus ((intro w' hSw; (try dsimp only at hSw); go_simp; (try with_reducible rfl)))
            refine wpAnyH_take (i := 3) (v := ?_) rfl (by kernel_rfl) (by kernel_rfl) (by kernel_rfl) (fun _ _ _ h => h) (Or.inl ⟨by kernel_rfl, ?_⟩) hHeld ?_; rotate_left; focus ((intro w' hSw; (try dsimp only at hSw); go_simp; (try with_reducible rfl)))
            refine wpAnyH_take (i := 4) (v := ?_) rfl (by kernel_rfl) (by kernel_rfl) (by kernel_rfl) (fun _ _ _ h => h) (Or.inl ⟨by kernel_rfl, ?_⟩) hHeld ?_; rotate_left; focus ((intro w' hSw; (try dsimp only at hSw); go_simp; (try with_reducible rfl)))
            refine wpAnyH_take (i := 5) (v := ?_) rfl (by kernel_rfl) (by kernel_rfl) (by kernel_rfl) (fun _ _ _ h => h) (Or.inl ⟨by kernel_rfl, ?_⟩) hHeld ?_; rotate_left; focus ((intro w' hSw; (try dsimp only at hSw); go_simp; (try with_reducible rfl)))
            refine wpAnyH_take (i := 6) (v := ?_) rfl (by kernel_rfl) (by kernel_rfl) (by kernel_rfl) (fun _ _ _ h => h) (Or.inl ⟨by kernel_rfl, ?_⟩) hHeld ?_; rotate_left; focus ((intro w' hSw; (try dsimp only at hSw); go_simp; (try with_reducible rfl)))
            refine wpAnyH_take (i := 10) (v := ?_) rfl (by kernel_rfl) (by kernel_rfl) (by kernel_rfl) (fun _ _ _ h => h) (Or.inl ⟨by kernel_rfl, ?_⟩) hHeld ?_; rotate_left; focus ((intro w' hSw; (try dsimp only at hSw); go_simp; (try with_reducible rfl)))
            refine wpAnyH_take (i := 11) (v := ?_) rfl (by kernel_rfl) (by kernel_rfl) (by kernel_rfl) (fun _ _ _ h => h) (Or.inl ⟨by kernel_rfl, ?_⟩) hHeld ?_; rotate_left; focus ((intro w' hSw; (try dsimp only at hSw); go_simp; (try with_reducible rfl)))
            refine wpAnyH_take (i := 12) (v := ?_) rfl (by kernel_rfl) (by kernel_rfl) (by kernel_rfl) (fun _ _ _ h => h) (Or.inl ⟨by kernel_rfl, ?_⟩) hHeld ?_; rotate_left; focus ((intro w' hSw; (try dsimp only at hSw); go_simp; (try with_reducible rfl)))
            refine wpAnyH_take (i := 13) (v := ?_) rfl (by kernel_rfl) (by kernel_rfl) (by kernel_rfl) (fun _ _ _ h => h) (Or.inl ⟨by kernel_rfl, ?_⟩) hHeld ?_; rotate_left; focus ((intro w' hSw; (try dsimp only at hSw); go_simp; (try with_reducible rfl)))
            refine wpAnyH_take (i := 17) (v := ?_) rfl (by kernel_rfl) (by kernel_rfl) (by kernel_rfl) (fun _ _ _ h => h) (Or.inl ⟨by kernel_rfl, ?_⟩) hHeld ?_; rotate_left; focus ((intro w' hSw; (try dsimp only at hSw); go_simp; (try with_reducible rfl)))
            refine wpAnyH_take (i := 18) (v := ?_) rfl (by kernel_rfl) (by kernel_rfl) (by kernel_rfl) (fun _ _ _ h => h) (Or.inl ⟨by kernel_rfl, ?_⟩) hHeld ?_; rotate_left; focus ((intro w' hSw; (try dsimp only at hSw); go_simp; (try with_reducible rfl)))
            refine wpAnyH_take (i := 19) (v := ?_) rfl (by kernel_rfl) (by kernel_rfl) (by kernel_rfl) (fun _ _ _ h => h) (Or.inl ⟨by kernel_rfl, ?_⟩) hHeld ?_; rotate_left; focus ((intro w' hSw; (try dsimp only at hSw); go_simp; (try with_reducible rfl)))
            refine wpAnyH_take (i := 20) (v := ?_) rfl (by kernel_rfl) (by kernel_rfl) (by kernel_rfl) (fun _ _ _ h => h) (Or.inl ⟨by kernel_rfl, ?_⟩) hHeld ?_; rotate_left; focus ((intro w' hSw; (try dsimp only at hSw); go_simp; (try with_reducible rfl)))
            refine wpAnyH_ready (rs := [7, 14]) (by kernel_rfl) (by simp) ?_
            refine AllReadyH.cons rfl (fun K hK => ?_) (AllReadyH.cons rfl (fun K hK => ?_) AllReadyH.nil)
            · go_simp
              refine hK.out _ _ (Lib.cell?_alloc_some _ d0) (fun hHeld1 => ?_)
              clear hK K
              refine wpAnyH_ready (rs := [8, 14]) (by kernel_rfl) (by simp) ?_
              refine AllReadyH.cons rfl (fun K hK => ?_) (AllReadyH.cons rfl (fun K hK => ?_) AllReadyH.nil)
              · go_simp
                refine hK.out _ _ (Lib.cell?_alloc_some _ d0) (fun hHeld2 => ?_)
                clear hK K
                refine wpAnyH_take (i := 9) (v := ?_) rfl (by kernel_rfl) (by kernel_rfl) (by kernel_rfl) (fun _ _ _ h => h) (Or.inl ⟨by kernel_rfl, ?_⟩) hHeld2 ?_; rotate_left; focus ((intro w' hSw; (try dsimp only at hSw); go_simp; (try with_reducible rfl)))
                refine wpAnyH_ready (rs := [14]) (by kernel_rfl) (by simp) ?_
                refine AllReadyH.cons rfl (fun K hK => ?_) AllReadyH.nil
                · go_simp
                  refine (HSUM.out _).mono ?_
                  rintro e w1 ⟨rfl, rfl⟩
                  refine hK.out _ _ (Lib.cell?_alloc_some _ d0) (fun hHeld3 => ?_)
                  clear hK K
                  refine wpAnyH_ready (rs := [15]) (by kernel_rfl) (by simp) ?_
                  refine AllReadyH.cons rfl (fun K hK => ?_) AllReadyH.nil
                  · go_simp
                    refine (HOCT.out (wr.drew.alloc (.cells #[.int .u8 ((s.size : Int) / 256), .int .u8 ((s.size : Int) % 256)] 5))).mono ?_
                    rintro e w2 ⟨rfl, hb2⟩
                    have d2 := (hb2.cell (World.block_lt_of_cell? _ _ (Lib.cell?_alloc_some _ d0))).trans (Lib.cell?_alloc_some _ d0)
                    have hcv2 : (convert 39 9 (.slice (some ⟨wr.heap.size, 0, none⟩) 2 2)).run Try.prog w2 = .ok (.string h2) w2 := HCV.out wr.drew _ hb2
                    refine hK.out _ _ d2 (fun hHeld4 => ?_)
                    clear hK K
                    refine wpAnyH_take (i := 16) (v := ?_) rfl (by kernel_rfl) (by kernel_rfl) (by kernel_rfl) (fun _ _ _ h => h) (Or.inl ⟨by kernel_rfl, ?_⟩) hHeld4 ?_; rotate_left; focus ((intro w' hSw; (try dsimp only at hSw); go_simp; (try with_reducible rfl)))
                    refine wpAnyH_take (i := 21) (v := ?_) rfl (by kernel_rfl) (by kernel_rfl) (by kernel_rfl) (fun _ _ _ h => h) (Or.inl ⟨by kernel_rfl, ?_⟩) hHeld4 ?_; rotate_left; focus ((intro w' hSw; (try dsimp only at hSw); go_simp; (try with_reducible rfl)))
                    refine wpAnyH_take (i := 22) (v := ?_) rfl (by kernel_rfl) (by kernel_rfl) (by kernel_rfl) (fun _ _ _ h => h) (Or.inl ⟨by kernel_rfl, ?_⟩) hHeld4 ?_; rotate_left; focus ((intro w' hSw; (try dsimp only at hSw); go_simp; (try with_reducible rfl)))
                    refine wpAnyH_done (by kernel_rfl) ?_ _
                    refine NoPanic.normal ?_
                    have HBN := Lib.hid (below_after hB.out (.cells #[.int .u8 ((s.size : Int) / 256), .int .u8 ((s.size : Int) % 256)] 5) hb2)
                    clear hHeld hHeld1 hHeld2 hHeld3 hHeld4
                    go_wp2_with fail
                    go_roundw
                    case rel => exact ⟨k + 1, _, by omega, by go_num, rfl, HNEW.out, HBN⟩
                    case measure => simp [intOf]; omega
              · go_simp
                refine (HSUM.out _).mono ?_
                rintro e w1 ⟨rfl, rfl⟩
                refine hK.out _ _ (Lib.cell?_alloc_some _ d0) (fun hHeld2 => ?_)
                clear hK K
                refine wpAnyH_ready (rs := [8, 15]) (by kernel_rfl) (by simp) ?_
                refine AllReadyH.cons rfl (fun K hK => ?_) (AllReadyH.cons rfl (fun K hK => ?_) AllReadyH.nil)
                · go_simp
                  refine hK.out _ _ (Lib.cell?_alloc_some _ d0) (fun hHeld3 => ?_)
                  clear hK K
                  refine wpAnyH_take (i := 9) (v := ?_) rfl (by kernel_rfl) (by kernel_rfl) (by kernel_rfl) (fun _ _ _ h => h) (Or.inl ⟨by kernel_rfl, ?_⟩) hHeld3 ?_; rotate_left; focus ((intro w' hSw; (try dsimp only at hSw); go_simp; (try with_reducible rfl)))
                  refine wpAnyH_ready (rs := [15]) (by kernel_rfl) (by simp) ?_
                  refine AllReadyH.cons rfl (fun K hK => ?_) AllReadyH.nil
                  · go_simp
                    refine (HOCT.out (wr.drew.alloc (.cells #[.int .u8 ((s.size : Int) / 256), .int .u8 ((s.size : Int) % 256)] 5))).mono ?_
                    rintro e w2 ⟨rfl, hb2⟩
                    have d2 := (hb2.cell (World.block_lt_of_cell? _ _ (Lib.cell?_alloc_some _ d0))).trans (Lib.cell?_alloc_some _ d0)
                    have hcv2 : (convert 39 9 (.slice (some ⟨wr.heap.size, 0, none⟩) 2 2)).run Try.prog w2 = .ok (.string h2) w2 := HCV.out wr.drew _ hb2
                    refine hK.out _ _ d2 (fun hHeld4 => ?_)
                    clear hK K
                    refine wpAnyH_take (i := 16) (v := ?_) rfl (by kernel_rfl) (by kernel_rfl) (by kernel_rfl) (fun _ _ _ h => h) (Or.inl ⟨by kernel_rfl, ?_⟩) hHeld4 ?_; rotate_left; focus ((intro w' hSw; (try dsimp only at hSw); go_simp; (try with_reducible rfl)))
                    refine wpAnyH_take (i := 21) (v := ?_) rfl (by kernel_rfl) (by kernel_rfl) (by kernel_rfl) (fun _ _ _ h => h) (Or.inl ⟨by kernel_rfl, ?_⟩) hHeld4 ?_; rotate_left; focus ((intro w' hSw; (try dsimp only at hSw); go_simp; (try with_reducible rfl)))
                    refine wpAnyH_take (i := 22) (v := ?_) rfl (by kernel_rfl) (by kernel_rfl) (by kernel_rfl) (fun _ _ _ h => h) (Or.inl ⟨by kernel_rfl, ?_⟩) hHeld4 ?_; rotate_left; focus ((intro w' hSw; (try dsimp only at hSw); go_simp; (try with_reducible rfl)))
                    refine wpAnyH_done (by kernel_rfl) ?_ _
                    refine NoPanic.normal ?_
                    have HBN := Lib.hid (below_after hB.out (.cells #[.int .u8 ((s.size : Int) / 256), .int .u8 ((s.size : Int) % 256)] 5) hb2)
                    clear hHeld hHeld1 hHeld2 hHeld3 hHeld4
                    go_wp2_with fail
                    go_roundw
                    case rel => exact ⟨k + 1, _, by omega, by go_num, rfl, HNEW.out, HBN⟩
                    case measure => simp [intOf]; omega
                · go_simp
                  refine (HOCT.out (wr.drew.alloc (.cells #[.int .u8 ((s.size : Int) / 256), .int .u8 ((s.size : Int) % 256)] 5))).mono ?_
                  rintro e w2 ⟨rfl, hb2⟩
                  have d2 := (hb2.cell (World.block_lt_of_cell? _ _ (Lib.cell?_alloc_some _ d0))).trans (Lib.cell?_alloc_some _ d0)
                  have hcv2 : (convert 39 9 (.slice (some ⟨wr.heap.size, 0, none⟩) 2 2)).run Try.prog w2 = .ok (.string h2) w2 := HCV.out wr.drew _ hb2
                  refine hK.out _ _ d2 (fun hHeld3 => ?_)
                  clear hK K
                  refine wpAnyH_ready (rs := [8]) (by kernel_rfl) (by simp) ?_
                  refine AllReadyH.cons rfl (fun K hK => ?_) AllReadyH.nil
                  · go_simp
                    refine hK.out _ _ d2 (fun hHeld4 => ?_)
                    clear hK K
                    refine wpAnyH_take (i := 9) (v := ?_) rfl (by kernel_rfl) (by kernel_rfl) (by kernel_rfl) (fun _ _ _ h => h) (Or.inl ⟨by kernel_rfl, ?_⟩) hHeld4 ?_; rotate_left; focus ((intro w' hSw; (try dsimp only at hSw); go_simp; (try with_reducible rfl)))
                    refine wpAnyH_take (i := 16) (v := ?_) rfl (by kernel_rfl) (by kernel_rfl) (by kernel_rfl) (fun _ _ _ h => h) (Or.inl ⟨by kernel_rfl, ?_⟩) hHeld4 ?_; rotate_left; focus ((intro w' hSw; (try dsimp only at hSw); go_simp; (try with_reducible rfl)))
                    refine wpAnyH_take (i := 21) (v := ?_) rfl (by kernel_rfl) (by kernel_rfl) (by kernel_rfl) (fun _ _ _ h => h) (Or.inl ⟨by kernel_rfl, ?_⟩) hHeld4 ?_; rotate_left; focus ((intro w' hSw; (try dsimp only at hSw); go_simp; (try with_reducible rfl)))
                    refine wpAnyH_take (i := 22) (v := ?_) rfl (by kernel_rfl) (by kernel_rfl) (by kernel_rfl) (fun _ _ _ h => h) (Or.inl ⟨by kernel_rfl, ?_⟩) hHeld4 ?_; rotate_left; focus ((intro w' hSw; (try dsimp only at hSw); go_simp; (try with_reducible rfl)))
                    refine wpAnyH_done (by kernel_rfl) ?_ _
                    refine NoPanic.normal ?_
                    have HBN := Lib.hid (below_after hB.out (.cells #[.int .u8 ((s.size : Int) / 256), .int .u8 ((s.size : Int) % 256)] 5) hb2)
                    clear hHeld hHeld1 hHeld2 hHeld3 hHeld4
                    go_wp2_with fail
                    go_roundw
                    case rel => exact ⟨k + 1, _, by omega, by go_num, rfl, HNEW.out, HBN⟩
                    case measure => simp [intOf]; omega
            · go_simp
              refine (HSUM.out _).mono ?_
              rintro e w1 ⟨rfl, rfl⟩
              refine hK.out _ _ d0 (fun hHeld1 => ?_)
              clear hK K
              refine wpAnyH_ready (rs := [7, 15]) (by kernel_rfl) (by simp) ?_
              refine AllReadyH.cons rfl (fun K hK => ?_) (AllReadyH.cons rfl (fun K hK => ?_) AllReadyH.nil)
              · go_simp
                refine hK.out _ _ (Lib.cell?_alloc_some _ d0) (fun hHeld2 => ?_)
                clear hK K
                refine wpAnyH_ready (rs := [8, 15]) (by kernel_rfl) (by simp) ?_
                refine AllReadyH.cons rfl (fun K hK => ?_) (AllReadyH.cons rfl (fun K hK => ?_) AllReadyH.nil)
                · go_simp
                  refine hK.out _ _ (Lib.cell?_alloc_some _ d0) (fun hHeld3 => ?_)
                  clear hK K
                  refine wpAnyH_take (i := 9) (v := ?_) rfl (by kernel_rfl) (by kernel_rfl) (by kernel_rfl) (fun _ _ _ h => h) (Or.inl ⟨by kernel_rfl, ?_⟩) hHeld3 ?_; rotate_left; focus ((intro w' hSw; (try dsimp only at hSw); go_simp; (try with_reducible rfl)))
                  refine wpAnyH_ready (rs := [15]) (by kernel_rfl) (by simp) ?_
                  refine AllReadyH.cons rfl (fun K hK => ?_) AllReadyH.nil
                  · go_simp
                    refine (HOCT.out (wr.drew.alloc (.cells #[.int .u8 ((s.size : Int) / 256), .int .u8 ((s.size : Int) % 256)] 5))).mono ?_
                    rintro e w2 ⟨rfl, hb2⟩
                    have d2 := (hb2.cell (World.block_lt_of_cell? _ _ (Lib.cell?_alloc_some _ d0))).trans (Lib.cell?_alloc_some _ d0)
                    have hcv2 : (convert 39 9 (.slice (some ⟨wr.heap.size, 0, none⟩) 2 2)).run Try.prog w2 = .ok (.string h2) w2 := HCV.out wr.drew _ hb2
                    refine hK.out _ _ d2 (fun hHeld4 => ?_)
                    clear hK K
                    refine wpAnyH_take (i := 16) (v := ?_) rfl (by kernel_rfl) (by kernel_rfl) (by kernel_rfl) (fun _ _ _ h => h) (Or.inl ⟨by kernel_rfl, ?_⟩) hHeld4 ?_; rotate_left; focus ((intro w' hSw; (try dsimp only at hSw); go_simp; (try with_reducible rfl)))
                    refine wpAnyH_take (i := 21) (v := ?_) rfl (by kernel_rfl) (by kernel_rfl) (by kernel_rfl) (fun _ _ _ h => h) (Or.inl ⟨by kernel_rfl, ?_⟩) hHeld4 ?_; rotate_left; focus ((intro w' hSw; (try dsimp only at hSw); go_simp; (try with_reducible rfl)))
                    refine wpAnyH_take (i := 22) (v := ?_) rfl (by kernel_rfl) (by kernel_rfl) (by kernel_rfl) (fun _ _ _ h => h) (Or.inl ⟨by kernel_rfl, ?_⟩) hHeld4 ?_; rotate_left; focus ((intro w' hSw; (try dsimp only at hSw); go_simp; (try with_reducible rfl)))
                    refine wpAnyH_done (by kernel_rfl) ?_ _
                    refine NoPanic.normal ?_
                    have HBN := Lib.hid (below_after hB.out (.cells #[.int .u8 ((s.size : Int) / 256), .int .u8 ((s.size : Int) % 256)] 5) hb2)
                    clear hHeld hHeld1 hHeld2 hHeld3 hHeld4
                    go_wp2_with fail
                    go_roundw
                    case rel => exact ⟨k + 1, _, by omega, by go_num, rfl, HNEW.out, HBN⟩
                    case measure => simp [intOf]; omega
                · go_simp
                  refine (HOCT.out (wr.drew.alloc (.cells #[.int .u8 ((s.size : Int) / 256), .int .u8 ((s.size : Int) % 256)] 5))).mono ?_
                  rintro e w2 ⟨rfl, hb2⟩
                  have d2 := (hb2.cell (World.block_lt_of_cell? _ _ (Lib.cell?_alloc_some _ d0))).trans (Lib.cell?_alloc_some _ d0)
                  have hcv2 : (convert 39 9 (.slice (some ⟨wr.heap.size, 0, none⟩) 2 2)).run Try.prog w2 = .ok (.string h2) w2 := HCV.out wr.drew _ hb2
                  refine hK.out _ _ d2 (fun hHeld3 => ?_)
                  clear hK K
                  refine wpAnyH_ready (rs := [8]) (by kernel_rfl) (by simp) ?_
                  refine AllReadyH.cons rfl (fun K hK => ?_) AllReadyH.nil
                  · go_simp
                    refine hK.out _ _ d2 (fun hHeld4 => ?_)
                    clear hK K
                    refine wpAnyH_take (i := 9) (v := ?_) rfl (by kernel_rfl) (by kernel_rfl) (by kernel_rfl) (fun _ _ _ h => h) (Or.inl ⟨by kernel_rfl, ?_⟩) hHeld4 ?_; rotate_left; focus ((intro w' hSw; (try dsimp only at hSw); go_simp; (try with_reducible rfl)))
                    refine wpAnyH_take (i := 16) (v := ?_) rfl (by kernel_rfl) (by kernel_rfl) (by kernel_rfl) (fun _ _ _ h => h) (Or.inl ⟨by kernel_rfl, ?_⟩) hHeld4 ?_; rotate_left; focus ((intro w' hSw; (try dsimp only at hSw); go_simp; (try with_reducible rfl)))
                    refine wpAnyH_take (i := 21) (v := ?_) rfl (by kernel_rfl) (by kernel_rfl) (by kernel_rfl) (fun _ _ _ h => h) (Or.inl ⟨by kernel_rfl, ?_⟩) hHeld4 ?_; rotate_left; focus ((intro w' hSw; (try dsimp only at hSw); go_simp; (try with_reducible rfl)))
                    refine wpAnyH_take (i := 22) (v := ?_) rfl (by kernel_rfl) (by kernel_rfl) (by kernel_rfl) (fun _ _ _ h => h) (Or.inl ⟨by kernel_rfl, ?_⟩) hHeld4 ?_; rotate_left; focus ((intro w' hSw; (try dsimp only at hSw); go_simp; (try with_reducible rfl)))
                    refine wpAnyH_done (by kernel_rfl) ?_ _
                    refine NoPanic.normal ?_
                    have HBN := Lib.hid (below_after hB.out (.cells #[.int .u8 ((s.size : Int) / 256), .int .u8 ((s.size : Int) % 256)] 5) hb2)
                    clear hHeld hHeld1 hHeld2 hHeld3 hHeld4
                    go_wp2_with fail
                    go_roundw
                    case rel => exact ⟨k + 1, _, by omega, by go_num, rfl, HNEW.out, HBN⟩
                    case measure => simp [intOf]; omega
              · go_simp
                refine (HOCT.out wr.drew).mono ?_
                rintro e w2 ⟨rfl, hb2⟩
                replace hb2 := below_undrew hb2
                have d2 := (hb2.cell (World.block_lt_of_cell? _ _ d0)).trans d0
                refine hK.out _ _ d2 (fun hHeld2 => ?_)
                clear hK K
                refine wpAnyH_ready (rs := [7]) (by kernel_rfl) (by simp) ?_
                refine AllReadyH.cons rfl (fun K hK => ?_) AllReadyH.nil
                · go_simp
                  refine hK.out _ _ (Lib.cell?_alloc_some _ d2) (fun hHeld3 => ?_)
                  clear hK K
                  refine wpAnyH_ready (rs := [8]) (by kernel_rfl) (by simp) ?_
                  refine AllReadyH.cons rfl (fun K hK => ?_) AllReadyH.nil
                  · go_simp
                    refine hK.out _ _ (Lib.cell?_alloc_some _ d2) (fun hHeld4 => ?_)
                    clear hK K
                    refine wpAnyH_take (i := 9) (v := ?_) rfl (by kernel_rfl) (by kernel_rfl) (by kernel_rfl) (fun _ _ _ h => h) (Or.inl ⟨by kernel_rfl, ?_⟩) hHeld4 ?_; rotate_left; focus ((intro w' hSw; (try dsimp only at hSw); go_simp; (try with_reducible rfl)))
                    refine wpAnyH_take (i := 16) (v := ?_) rfl (by kernel_rfl) (by kernel_rfl) (by kernel_rfl) (fun _ _ _ h => h) (Or.inl ⟨by kernel_rfl, ?_⟩) hHeld4 ?_; rotate_left; focus ((intro w' hSw; (try dsimp only at hSw); go_simp; (try with_reducible rfl)))
                    refine wpAnyH_take (i := 21) (v := ?_) rfl (by kernel_rfl) (by kernel_rfl) (by kernel_rfl) (fun _ _ _ h => h) (Or.inl ⟨by kernel_rfl, ?_⟩) hHeld4 ?_; rotate_left; focus ((intro w' hSw; (try dsimp only at hSw); go_simp; (try with_reducible rfl)))
                    refine wpAnyH_take (i := 22) (v := ?_) rfl (by kernel_rfl) (by kernel_rfl) (by kernel_rfl) (fun _ _ _ h => h) (Or.inl ⟨by kernel_rfl, ?_⟩) hHeld4 ?_; rotate_left; focus ((intro w' hSw; (try dsimp only at hSw); go_simp; (try with_reducible rfl)))
                    refine wpAnyH_done (by kernel_rfl) ?_ _
                    refine NoPanic.normal ?_
                    have HBN := Lib.hid ((hB.out.trans (hb2.mono hB.out.size)).alloc (Nat.le_trans hB.out.size hb2.size) (.cells #[.int .u8 ((s.size : Int) / 256), .int .u8 ((s.size : Int) % 256)] 5))
                    clear hHeld hHeld1 hHeld2 hHeld3 hHeld4
                    go_wp2_with fail
                    go_roundw
                    case rel => exact ⟨k + 1, _, by omega, by go_num, rfl, HNEW.out, HBN⟩
                    case measure => simp [intOf]; omega
            --END13
        · obtain rfl : k = j := by omega
          have ho := hy.out
          rw [List.take_of_length_le (by rw [dt_length, HL.out]; exact Nat.le_refl _), HX.out] at ho
          subst ho
          go_wp2_with fail
          go_ret2
          exact ⟨rfl, hB.out⟩
end Go.Proofs.Ytnbpghfegfbcaaa
