/-
  The contract of the document's Load: any texts.
-/
import Derived.Test.YtanpaappecakoaaDiskQ
set_option linter.unusedVariables false
namespace Go.Proofs.Ytanpaappecakoaa
open Go.RowKit DiskP

theorem rload_range (a : Option Addr) (len cap : Nat) (w : World) (h : ¬ (2 ≤ len ∧ len ≤ 512)) (hl : len ≤ 9223372036854775807) :
    Calls Try.prog 22 #[.slice a len cap] w fun e w' => e = .returned (.tuple #[.pointer none, .int .i64 11]) ∧ w = w' := by
  by_cases h1 : len < 2
  · go_enter Try.func22, Try.ntmps22
    go_wp2_with fail
    go_ret2
    exact ⟨rfl, rfl⟩
  · have h2 : 512 < len := by omega
    have h1' : 2 ≤ len := by omega
    go_enter Try.func22, Try.ntmps22
    go_wp2_with fail
    go_ret2
    exact ⟨rfl, rfl⟩
/-- Why there is none, or the disk of these sectors; m: the first text that is no sector. -/
def RLoaded (w : World) (m len : Nat) (ss : List ByteArray) (e : Ending) (w' : World) : Prop :=
  (m < len ∧ e = .returned (.tuple #[.pointer none, .int .i64 9]) ∧ Below w.heap.size w w') ∨ (m = len ∧ RMade w ss e w')
theorem take_snoc {ss : List ByteArray} {j : Nat} (h : j < ss.length) : ss.take j ++ [ss.getD j ByteArray.empty] = ss.take (j + 1) := by
  rw [List.take_succ_eq_append_getElem h]; simp [List.getD, h]
set_option maxRecDepth 100000 in
set_option maxHeartbeats 2000000 in
theorem rload_any (b off len cap m : Nat) (ss : List ByteArray) (w : World) (h1 : 2 ≤ len) (h2 : len ≤ 512) (hl : ss.length = len) (hc : ∀ i, i < len → w.cell? ⟨b, off + i, none⟩ = some (.string (ss.getD i ByteArray.empty)))
    (hm : m ≤ len) (hbad : m < len → (ss.getD m ByteArray.empty).size ≠ 128) (hg : ∀ i, i < m → (ss.getD i ByteArray.empty).size = 128) :
    Calls Try.prog 22 #[.slice (some ⟨b, off, none⟩) len cap] w (RLoaded w m len ss) := by
  obtain ⟨i0, hi, hz0, hz1, hz2⟩ := info_parts info_string
  have HI := Lib.hid hi; have HZ0 := Lib.hid hz0; have HZ1 := Lib.hid hz1; have HZ2 := Lib.hid hz2
  have HC := Lib.hid hc; have HL := Lib.hid hl; have HBAD := Lib.hid hbad; have HG := Lib.hid hg
  have y1 : 2 ≤ len := h1
  clear hi hz0 hz1 hz2 hc hl hbad hg
  go_enter Try.func22, Try.ntmps22
  go_wp2_with fail
  go_loopw [5] (fun i wr => ∃ (j : Nat) (sv : Value), j ≤ m ∧ i = .int .i64 (j : Int) ∧ Hid (Part w wr w.heap.size j sv (ss.take j))) (fun i _ => len - (intOf i).toNat)
  case atStart => exact ⟨0, .slice none 0 0, Nat.zero_le _, rfl, part_first w⟩
  case round =>
    obtain ⟨j, sv, hj, rfl, hP⟩ := hrel
    by_cases hlt : j < len
    · have d5 : wr.cell? ⟨b, off + j, none⟩ = some (.string (ss.getD j ByteArray.empty)) := (hP.out.bel.cell (World.block_lt_of_cell? w _ (HC.out j hlt))).trans (HC.out j hlt)
      have hTK := take_snoc (ss := ss) (j := j) (by rw [HL.out]; exact hlt)
      obtain ⟨s, hse⟩ : ∃ s, ss.getD j ByteArray.empty = s := ⟨_, rfl⟩
      rw [hse] at d5 hTK
      have HTK := Lib.hid hTK
      clear hTK
      by_cases hjm : j < m
      · have hs := HG.out j hjm
        rw [hse] at hs
        have hs2 : ((s.size : Int) != 128) = false := by rw [hs]; rfl
        have hP2 := hP.out.drew
        have HP := Lib.hid hP2
        have HP1 := Lib.hid (hP2.keep ((Below.refl _ wr.drew).alloc (Nat.le_refl _) (.cells #[.string s] 9)))
        have d0 : wr.drew.cell? ⟨w.heap.size, 0, none⟩ = some sv := cell_of_heap hP2.blk
        have d1 : wr.drew.cell? ⟨b, off + j, none⟩ = some (.string s) := d5
        have d2 : (wr.alloc (.cells #[.string s] 9)).cell? ⟨w.heap.size, 0, none⟩ = some sv := cell_of_heap HP1.out.blk
        clear hs hse hP hP2
        go_wp2_with fail
        refine wp_region_any (by kernel_rfl) ?_
        change wpAny _ _ _ _ _ _ _ (World.drew _)
        refine wpAny_take (i := 0) (v := ?_) rfl (by kernel_rfl) (by kernel_rfl) (by kernel_rfl) (fun _ _ _ h => h) (Or.inl ⟨by rfl, ?_⟩) ?_; rotate_left; focus ((intro w'); go_simp; (try with_reducible rfl))
        refine wpAny_take (i := 1) (v := ?_) rfl (by kernel_rfl) (by kernel_rfl) (by kernel_rfl) (fun _ _ _ h => h) (Or.inl ⟨by rfl, ?_⟩) ?_; rotate_left; focus ((intro w'); go_simp; (try with_reducible rfl))
        refine wpAny_take (i := 2) (v := ?_) rfl (by kernel_rfl) (by kernel_rfl) (by kernel_rfl) (fun _ _ _ h => h) (Or.inl ⟨by rfl, ?_⟩) ?_; rotate_left; focus ((intro w'); go_simp; (try with_reducible rfl))
        refine wpAny_take (i := 3) (v := ?_) rfl (by kernel_rfl) (by kernel_rfl) (by kernel_rfl) (fun _ _ _ h => h) (Or.inl ⟨by rfl, ?_⟩) ?_; rotate_left; focus ((intro w'); go_simp; (try with_reducible rfl))
        refine wpAny_take (i := 5) (v := ?_) rfl (by kernel_rfl) (by kernel_rfl) (by kernel_rfl) (fun _ _ _ h => h) (Or.inl ⟨by rfl, ?_⟩) ?_; rotate_left; focus ((intro w'); go_simp; (try with_reducible rfl))
        refine wpAny_take (i := 6) (v := ?_) rfl (by kernel_rfl) (by kernel_rfl) (by kernel_rfl) (fun _ _ _ h => h) (Or.inl ⟨by rfl, ?_⟩) ?_; rotate_left; focus ((intro w'); go_simp; (try with_reducible rfl))
        refine wpAny_take (i := 7) (v := ?_) rfl (by kernel_rfl) (by kernel_rfl) (by kernel_rfl) (fun _ _ _ h => h) (Or.inl ⟨by rfl, ?_⟩) ?_; rotate_left; focus ((intro w'); go_simp; (try with_reducible rfl))
        refine wpAny_ready (rs := [4, 8]) (by kernel_rfl) (by simp) ?_
        refine AllReady.cons rfl (fun K hK => ?_) (AllReady.cons rfl (fun K hK => ?_) AllReady.nil)
        · go_simp
          refine hK _ _ ?_
          clear hK K
          refine wpAny_ready (rs := [8]) (by kernel_rfl) (by simp) ?_
          refine AllReady.cons rfl (fun K hK => ?_) AllReady.nil
          go_simp
          refine hK _ _ ?_
          clear hK K
          refine wpAny_ready (rs := [9]) (by kernel_rfl) (by simp) ?_
          refine AllReady.cons rfl (fun K hK => ?_) AllReady.nil
          go_simp
          refine hK _ _ ?_
          clear hK K
          refine Mix.wpAny_of_seqV [10, 11, 12, 13] _ _ _ (by kernel_rfl) ?_
          simp only [Mix.pick, List.filterMap_cons, List.filterMap_nil, List.getElem?_cons_zero, List.getElem?_cons_succ]
          refine wpList_append_own _ rfl (.tmp 32) (.tmp 37) 38 rfl w.heap.size 9 i0 _ 1 16 Try.underlying38 HI.out HZ0.out HZ1.out HZ2.out rfl (by decide) sv j _ rfl HP1.out.row ⟨wr.drew.heap.size, 0, none⟩ 1 1 [.string s] rfl rfl ?c1 ?c2 ?c3 ?c4 ?c5 ?_
          case c1 => exact cell_one_new _ _ _
          case c2 => intro u hu; obtain rfl := List.mem_singleton.1 hu; rfl
          case c3 => unfold maxLen; omega
          case c4 => omega
          case c5 => exact HP1.out.bel.size
          intro v' w3 hown hgrow _
          obtain ⟨hb3, hP3⟩ := HP1.out.next hown hgrow
          rw [HTK.out] at hP3
          have d3 : w3.cell? ⟨w.heap.size, 0, none⟩ = some sv := cell_of_heap (hb3.trans HP1.out.blk)
          have f3 : w3.frozen? ⟨w.heap.size, 0, none⟩ = false := frozen_of_heap (hb3.trans HP1.out.blk)
          have o3 : sv.oneCell' = true := owns_one HP1.out.row
          obtain ⟨g', cap', rfl⟩ := owns_succ hown
          have HP3 := Lib.hid hP3
          clear hown hgrow hb3 hP3 d0 d1 d2 d5
          go_wp2_with fail
          go_roundw
          case rel => exact ⟨j + 1, _, by omega, by go_num, HP3⟩
          case measure => simp [intOf]; omega
        · go_simp
          refine hK _ _ ?_
          clear hK K
          refine wpAny_ready (rs := [4, 9]) (by kernel_rfl) (by simp) ?_
          refine AllReady.cons rfl (fun K hK => ?_) (AllReady.cons rfl (fun K hK => ?_) AllReady.nil)
          · go_simp
            refine hK _ _ ?_
            clear hK K
            refine wpAny_ready (rs := [9]) (by kernel_rfl) (by simp) ?_
            refine AllReady.cons rfl (fun K hK => ?_) AllReady.nil
            go_simp
            refine hK _ _ ?_
            clear hK K
            refine Mix.wpAny_of_seqV [10, 11, 12, 13] _ _ _ (by kernel_rfl) ?_
            simp only [Mix.pick, List.filterMap_cons, List.filterMap_nil, List.getElem?_cons_zero, List.getElem?_cons_succ]
            refine wpList_append_own _ rfl (.tmp 32) (.tmp 37) 38 rfl w.heap.size 9 i0 _ 1 16 Try.underlying38 HI.out HZ0.out HZ1.out HZ2.out rfl (by decide) sv j _ rfl HP1.out.row ⟨wr.drew.heap.size, 0, none⟩ 1 1 [.string s] rfl rfl ?c1 ?c2 ?c3 ?c4 ?c5 ?_
            case c1 => exact cell_one_new _ _ _
            case c2 => intro u hu; obtain rfl := List.mem_singleton.1 hu; rfl
            case c3 => unfold maxLen; omega
            case c4 => omega
            case c5 => exact HP1.out.bel.size
            intro v' w3 hown hgrow _
            obtain ⟨hb3, hP3⟩ := HP1.out.next hown hgrow
            rw [HTK.out] at hP3
            have d3 : w3.cell? ⟨w.heap.size, 0, none⟩ = some sv := cell_of_heap (hb3.trans HP1.out.blk)
            have f3 : w3.frozen? ⟨w.heap.size, 0, none⟩ = false := frozen_of_heap (hb3.trans HP1.out.blk)
            have o3 : sv.oneCell' = true := owns_one HP1.out.row
            obtain ⟨g', cap', rfl⟩ := owns_succ hown
            have HP3 := Lib.hid hP3
            clear hown hgrow hb3 hP3 d0 d1 d2 d5
            go_wp2_with fail
            go_roundw
            case rel => exact ⟨j + 1, _, by omega, by go_num, HP3⟩
            case measure => simp [intOf]; omega
          · go_simp
            refine hK _ _ ?_
            clear hK K
            refine wpAny_ready (rs := [4]) (by kernel_rfl) (by simp) ?_
            refine AllReady.cons rfl (fun K hK => ?_) AllReady.nil
            go_simp
            refine hK _ _ ?_
            clear hK K
            refine Mix.wpAny_of_seqV [10, 11, 12, 13] _ _ _ (by kernel_rfl) ?_
            simp only [Mix.pick, List.filterMap_cons, List.filterMap_nil, List.getElem?_cons_zero, List.getElem?_cons_succ]
            refine wpList_append_own _ rfl (.tmp 32) (.tmp 37) 38 rfl w.heap.size 9 i0 _ 1 16 Try.underlying38 HI.out HZ0.out HZ1.out HZ2.out rfl (by decide) sv j _ rfl HP1.out.row ⟨wr.drew.heap.size, 0, none⟩ 1 1 [.string s] rfl rfl ?c1 ?c2 ?c3 ?c4 ?c5 ?_
            case c1 => exact cell_one_new _ _ _
            case c2 => intro u hu; obtain rfl := List.mem_singleton.1 hu; rfl
            case c3 => unfold maxLen; omega
            case c4 => omega
            case c5 => exact HP1.out.bel.size
            intro v' w3 hown hgrow _
            obtain ⟨hb3, hP3⟩ := HP1.out.next hown hgrow
            rw [HTK.out] at hP3
            have d3 : w3.cell? ⟨w.heap.size, 0, none⟩ = some sv := cell_of_heap (hb3.trans HP1.out.blk)
            have f3 : w3.frozen? ⟨w.heap.size, 0, none⟩ = false := frozen_of_heap (hb3.trans HP1.out.blk)
            have o3 : sv.oneCell' = true := owns_one HP1.out.row
            obtain ⟨g', cap', rfl⟩ := owns_succ hown
            have HP3 := Lib.hid hP3
            clear hown hgrow hb3 hP3 d0 d1 d2 d5
            go_wp2_with fail
            go_roundw
            case rel => exact ⟨j + 1, _, by omega, by go_num, HP3⟩
            case measure => simp [intOf]; omega
      · obtain rfl : j = m := by omega
        have hs := HBAD.out hlt
        rw [hse] at hs
        have hs2 : ((s.size : Int) != 128) = true := by rw [bne_iff_ne]; omega
        have HB := Lib.hid hP.out.bel
        clear hs hse hP
        go_wp2_with fail
        go_ret2
        exact .inl ⟨hlt, rfl, HB.out⟩
    · obtain rfl : j = len := by omega
      have hP2 := hP.out
      rw [List.take_of_length_le (by rw [HL.out]; exact Nat.le_refl _)] at hP2
      have HM := Lib.hid (part_made hP2 (by omega))
      clear hP hP2
      go_wp2_with fail
      go_ret2
      exact .inr ⟨by omega, HM.out⟩
end Go.Proofs.Ytanpaappecakoaa
