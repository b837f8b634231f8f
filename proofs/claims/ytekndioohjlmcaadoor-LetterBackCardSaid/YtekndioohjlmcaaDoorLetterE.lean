/-
  The contracts of slices.Grow of nil and of slices.Concat of rows of letters: any letters; what was there stays as it was.
-/
import Derived.Test.YtekndioohjlmcaaDoorLetterD
import Derived.Test.YtekndioohjlmcaaDoorRwCat
set_option linter.unusedVariables false
set_option linter.unusedSimpArgs false
set_option maxRecDepth 4000
namespace Go.Proofs.YtekndioohjlmcaaDoor.Letter
open Go.RowKit LeP
open Go.Proofs.YtekndioohjlmcaaDoor.Kt
theorem grow_any (n : Nat) (w : World) (hn : n ≤ 4000000) :
    Calls Tryd.prog 38 #[.slice none 0 0, .int .i64 (n : Int)] w fun e w' => ∃ a c, e = .returned (.slice a 0 c) ∧ w'.ownsRow w.heap.size 24 5 (.slice a 0 c) 0 (Rw.cells ltS []) ∧ Below w.heap.size w w' := by
  have hw : IntKind.i64.wrap (n : Int) = n := by rw [IntKind.wrap_i64]; omega
  have hneg : ¬ ((n : Int) < 0) := by omega
  by_cases h0 : n = 0
  · subst h0
    have HO : Hid (w.ownsRow w.heap.size 24 5 (.slice none 0 0) 0 (Rw.cells ltS [])) := World.ownsRow_nil _ _ _ _
    go_enter Tryd.func38, Tryd.ntmps38
    go_wp2_with fail
    go_ret
    exact ⟨none, 0, rfl, HO.out, Below.refl _ _⟩
  · have hpos : (0 : Int) < (n : Int) := by omega
    have h0' : 0 < n := by omega
    clear h0
    go_enter Tryd.func38, Tryd.ntmps38
    go_wp2_with (at_builtin; refine Rw.append_zeros ltS rfl (.tmp 20) (.tmp 21) 3 Tryd.underlying3 rfl w n rfl rfl h0' hn ?_)
    intro cap w1 hcap hown hgr
    have HO : Hid (w1.ownsRow w.heap.size 24 5 (.slice (some ⟨w.heap.size, 0, none⟩) 0 cap) 0 (Rw.cells ltS [])) := hown
    have HB := Lib.hid ((Below.refl _ w).grown hgr (Nat.le_refl _) (fun k e => (by cases e)))
    clear hown hgr
    go_wp2_with fail
    go_ret
    exact ⟨_, cap, rfl, HO.out, HB.out⟩
set_option maxHeartbeats 2000000 in
theorem concat_any (r m c : Nat) (ps : List (Rw.Pt Lt)) (hm : ps.length = m) (hm9 : m ≤ 1000) (htot : (Rw.cat ps ps.length).length ≤ 1000000) (w : World) (h : Rw.PtsAt ltS w r ps) :
    Calls Tryd.prog 28 #[.slice (some ⟨r, 0, none⟩) m c] w (RowP w (Rw.cat ps m)) := by
  have hall := Lib.hid (fun k => Nat.le_trans (Rw.cat_le ps k) htot)
  have HX := Lib.hid h
  have HM := Lib.hid hm
  clear h hm htot
  go_enter Tryd.func28, Tryd.ntmps28
  go_wp2_with fail
  go_loopw [3, 11] (fun s i wr => ∃ k q : Nat, k ≤ m ∧ i = .int .i64 (k : Int) ∧ s = .int .i64 (q : Int) ∧ Hid ((Rw.cat ps k).length = q) ∧ wr = w) (fun _ i _ => m - (intOf i).toNat)
  case atStart => exact ⟨0, 0, by omega, rfl, rfl, rfl, rfl⟩
  case round =>
    obtain ⟨k, q, hk, rfl, rfl, hq, hw⟩ := hrel
    have hw2 := hw.symm
    subst hw2
    by_cases hlk : k < m
    · obtain ⟨⟨a1, n1, c1, xs⟩, hp, hr, hxl, hc⟩ := Rw.PtsAt.at HX.out (i := k) (by rw [HM.out]; exact hlk)
      obtain ⟨d0, hA⟩ := hc w (Below.refl _ _)
      simp only at d0 hA hxl
      have hst := Rw.cat_step hp
      have hle := hall.out (k + 1)
      rw [hst, List.length_append, hq.out, hxl] at hle
      obtain ⟨t, ht⟩ : ∃ t : Nat, q + n1 = t := ⟨_, rfl⟩
      have HT : Hid ((Rw.cat ps (k + 1)).length = t) := by show _ = _; rw [hst, List.length_append, hq.out, hxl]; exact ht
      have e1 : (q : Int) + (n1 : Int) = (t : Int) := by omega
      have e2 : ¬ ((t : Int) < 0) := by omega
      have e3 : t ≤ 1000000 := by omega
      clear hst hp hc hA hxl hle ht hq
      go_wp2_with fail
      go_roundw
      case rel => exact ⟨k + 1, t, by omega, by go_num, rfl, HT, by trivial⟩
      case measure => simp [intOf]; omega
    · obtain rfl : k = m := by omega
      have HG := Lib.hid (grow_any q w (by have := hall.out k; rw [hq.out] at this; omega))
      go_wp2_with fail
      refine HG.out.mono ?_
      rintro e w1 ⟨a0, c0, rfl, hO, hB⟩
      have HO := Lib.hid hO; have HB := Lib.hid hB
      clear hO hB HG
      go_wp2_with fail
      go_loopw [6, 27] (fun v i wr => ∃ j n : Nat, j ≤ k ∧ i = .int .i64 (j : Int) ∧ Hid ((Rw.cat ps j).length = n) ∧ Hid (wr.ownsRow w.heap.size 24 5 v n (Rw.cells ltS (Rw.cat ps j))) ∧ Hid (Below w.heap.size w wr)) (fun _ i _ => k - (intOf i).toNat)
      case atStart => exact ⟨0, 0, by omega, rfl, rfl, HO, HB⟩
      case round =>
        obtain ⟨j, n, hj, rfl, hn, hO, hB⟩ := hrel
        obtain ⟨ad, cp, rfl, hcp⟩ := Rw.owns_slice hO.out
        by_cases hjk : j < k
        · obtain ⟨⟨a1, n1, c1, xs⟩, hp, hr, hxl, hc⟩ := Rw.PtsAt.at HX.out (i := j) (by rw [HM.out]; exact hjk)
          obtain ⟨d0, hA⟩ := hc wr hB.out
          simp only at d0 hA hxl
          have hst := Rw.cat_step hp
          have hle := hall.out (j + 1)
          rw [hst, List.length_append, hn.out, hxl] at hle
          have HST := Lib.hid hst
          have HN : Hid ((Rw.cat ps (j + 1)).length = n + n1) := by show _ = _; rw [hst, List.length_append, hn.out, hxl]
          have HA := Lib.hid hA
          have hsz := hB.out.size
          clear hst hp hc hA hxl
          go_wp2_with (at_builtin; refine Rw.append_more ltS rfl (.tmp 31) (.tmp 32) rfl w.heap.size (.slice ad n cp) n (Rw.cat ps j) xs a1 n1 c1 rfl hO.out rfl HA.out (by omega) hsz ?_)
          intro v' w4 hO4 hg4
          have HO4 : Hid (w4.ownsRow w.heap.size 24 5 v' (n + n1) (Rw.cells ltS (Rw.cat ps (j + 1)))) := by
            show World.ownsRow _ _ _ _ _ _ _
            rw [HST.out]; exact hO4
          have HB4 := Lib.hid (Rw.below_more hB.out hsz hO.out hg4)
          clear hO4 hg4
          go_wp2_with fail
          go_roundw
          case rel => exact ⟨j + 1, n + n1, by omega, by go_num, HN, HO4, HB4⟩
          case measure => simp [intOf]; omega
        · obtain rfl : j = k := by omega
          have hR : RowP w (Rw.cat ps j) (.returned (.slice ad n cp)) wr := by
            have hO2 := hO.out
            exact ⟨_, rfl, hn.out.symm ▸ hO2, hB.out⟩
          have HR := Lib.hid hR
          clear hR
          go_wp2_with fail
          go_ret
          exact HR.out
end Go.Proofs.YtekndioohjlmcaaDoor.Letter
