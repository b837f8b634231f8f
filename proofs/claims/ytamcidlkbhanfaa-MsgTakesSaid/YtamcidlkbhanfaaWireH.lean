/-
  The contracts of the document's Reader.Int where there is a number, and so of all of Int: a reader that stands anywhere; any bounds.
-/
import Derived.Test.YtamcidlkbhanfaaWireG
set_option linter.unusedVariables false
set_option maxRecDepth 4000
namespace Go.Proofs.Ytamcidlkbhanfaa.Wire
open Go.RowKit WireP

theorem val_next {l : List UInt8} {k X y : Nat} (h : X = val ((l.drop 1).take (k - 1))) (hk : 1 ≤ k) (hl : k < l.length) (hy : (l.getD k 0).toNat = y) : X * 256 + y = val ((l.drop 1).take (k + 1 - 1)) := by
  have hd : k - 1 < (l.drop 1).length := by rw [List.length_drop]; omega
  have h2 := val_step (zs := l.drop 1) (k := k - 1) (c := l.getD k 0) hd (by
    rw [List.getD_eq_getElem?_getD, List.getElem?_drop, show 1 + (k - 1) = k by omega, ← List.getD_eq_getElem?_getD])
  rw [show k - 1 + 1 = k + 1 - 1 by omega] at h2
  rw [h2, hy, ← h]
set_option maxHeartbeats 2000000 in
theorem rqint_ok (b : Nat) (l : List UInt8) (lo hi : Int) (w : World) (h : RqAt w b (some l)) (hok : ok l = true) :
    Calls Try.prog 58 #[.pointer (some ⟨b, 0, none⟩), .int .i64 lo, .int .i64 hi] w fun e w' => e = .returned (.int .i64 (rdInt lo hi (some l)).1) ∧ RqAt w' b (rdInt lo hi (some l)).2 ∧ w.grownBy w' (some b) := by
  have HR := Lib.hid h
  have HOK := Lib.hid hok
  obtain ⟨z, hz, hl, hs⟩ := h
  have hl2 : z.data.toList = l := hl
  have hll : l.length = z.size := by rw [← hl2, len_list]
  have ⟨hne, h8, hlt, hhd⟩ := ok_iff.1 hok
  have hz0 : 0 < z.size := by omega
  have h0 : w.cell? ⟨b, 0, none⟩ = some (.string z) := cell_of_heap hz
  have h1 : w.cell? ⟨b, 1, none⟩ = some (.bool false) := cell_of_heap hz
  have f0 : w.frozen? ⟨b, 0, none⟩ = false := frozen_of_heap hz
  obtain ⟨c, hc⟩ : ∃ c, nl l = c := ⟨_, rfl⟩
  have hzc : z[0].toNat = c := by rw [← hc, ← hl2]; unfold nl; rw [headD_at z hz0]
  obtain ⟨V, hV⟩ : ∃ V, val (nb l) = V := ⟨_, rfl⟩
  have hV64 : V < 18446744073709551616 := by rw [← hV]; exact val_lt64 (by rw [nb_len hlt]; exact h8)
  obtain ⟨N, hN⟩ : ∃ N, nx V = N := ⟨_, rfl⟩
  have hNl : num l = N := by rw [← hN, ← hV]; rfl
  have hrd : rdInt lo hi (some l) = if lo ≤ N ∧ N ≤ hi then (N, some (l.drop (1 + c))) else (0, none) := by
    by_cases hb : lo ≤ N ∧ N ≤ hi
    · rw [if_pos hb, rdInt_yes ⟨hok, by rw [hNl]; exact hb.1, by rw [hNl]; exact hb.2⟩, hNl, hc]
    · rw [if_neg hb, rdInt_no (fun h => hb (by rw [← hNl]; exact h.2))]
  rw [hrd]
  have hnb : (l.drop 1).take c = nb l := by unfold nb; rw [hc]
  have hguard : (0 < c ∧ ∃ h : 1 < z.size, z[1].toNat ≠ 0) ∨ c = 0 := by
    by_cases hc0 : c = 0
    · exact .inr hc0
    · left
      have h1z : 1 < z.size := by omega
      refine ⟨by omega, h1z, ?_⟩
      rw [nb_head (by omega) (by omega), ← hl2, at_getD z 1 h1z] at hhd
      exact fun e => hhd (UInt8.toNat_inj.1 e)
  have HL := Lib.hid hl2; have HV : Hid (val ((l.drop 1).take c) = V) := by show _ = _; rw [hnb]; exact hV
  have HN := Lib.hid hN; have HZ := Lib.hid hz
  rw [hc] at h8 hlt
  rw [hll] at hlt
  have t0 : ((z.size : Int) == 0) = false := beq_eq_false_iff_ne.2 (by omega)
  have t1 : decide (8 < (c : Int)) = false := decide_eq_false (by omega)
  have t2 : decide ((z.size : Int) < 1 + (c : Int)) = false := decide_eq_false (by omega)
  have t5 : (0 : Int) < (z.size : Int) := by omega
  clear hz hl hl2 hll hok hne hhd hnb hc hV hN hNl hrd
  rcases hguard with ⟨g1, g2, g3⟩ | g1
  · have t3 : decide (0 < (c : Int)) = true := decide_eq_true (by omega)
    have t4 : ((z[1].toNat : Int) == 0) = false := beq_eq_false_iff_ne.2 (by omega)
    have t6 : (1 : Int) < (z.size : Int) := by omega
    go_enter Try.func58, Try.ntmps58
    go_wp2
    go_quiet (fail)
    go_wp2
    clear t0 t1 t2 t3
    go_loopw [8, 9] (fun p i wr => ∃ (k X : Nat), 1 ≤ k ∧ k ≤ 1 + c ∧ p = .int .u64 (X : Int) ∧ i = .int .i64 (k : Int) ∧ wr = w.drewN nq ∧ Hid (X = val ((l.drop 1).take (k - 1)))) (fun _ i _ => 1 + c - (intOf i).toNat)
    case atStart => exact ⟨1, 0, by omega, by omega, rfl, rfl, rfl, rfl⟩
    case round =>
      obtain ⟨k, X, hk1, hk2, rfl, rfl, rfl, hX⟩ := hrel
      by_cases hlt : k < 1 + c
      · have hkz : k < z.size := by omega
        have hlt2 : (k : Int) < 1 + (c : Int) := by omega
        have hX56 : X < 72057594037927936 := by
          rw [hX.out]
          exact val_lt56 (by rw [List.length_take]; omega)
        obtain ⟨y, hy⟩ : ∃ y : Nat, z[k].toNat = y := ⟨_, rfl⟩
        have hyb : y ≤ 255 := by have := z[k].toNat_lt; omega
        have hst := val_next (l := l) (k := k) (X := X) (y := y) hX.out hk1 (by rw [← HL.out, len_list]; exact hkz) (by rw [← HL.out, at_getD z k hkz, hy])
        have HST := Lib.hid hst
        clear hst hX
        go_wp2
        go_roundw
        case rel => exact ⟨k + 1, X * 256 + y, by omega, by omega, by simp, by go_num, by first | rfl | trivial, HST.out⟩
        case measure => simp [intOf]; omega
      · obtain rfl : k = 1 + c := by omega
        have hXV : X = V := by rw [hX.out, ← HV.out, show 1 + c - 1 = c by omega]
        subst hXV
        have hnlt : ¬ (1 + (c : Int) < 1 + (c : Int)) := by omega
        clear hX hlt
        have hq1 : 0 ≤ 1 + (c : Int) := by omega
        have hq2 : 1 + (c : Int) ≤ (z.size : Int) := by omega
        have hq3 : (1 + (c : Int)).toNat = 1 + c := by omega
        have hq4 : ((1 + c : Nat) : Int) = 1 + (c : Int) := by omega
        have HL2 := HL
        rcases Int.lt_or_le N lo with c1 | c1
        · have d1 : decide (N < lo) = true := decide_eq_true c1
          have hif : ¬ (lo ≤ N ∧ N ≤ hi) := by omega
          have HIF := Lib.hid hif
          clear c1 hif
          by_cases hodd : X % 2 = 1
          · have ho : ((X : Int) % 2 == 1) = true := beq_iff_eq.2 (by omega)
            have hn : -((X : Int) / 2) - 1 = N := by rw [← HN.out, nx_odd hodd]; omega
            clear hodd
            go_wp2_with fail
            refine (rfails_any b _ (w.drewN nq) (HR.out.drewN nq)).mono ?_
            rintro e w2 ⟨rfl, hr, hg⟩
            have HG := Lib.hid ((grown_drewN w _ (some b)).trans hg)
            have HR2 := Lib.hid hr
            clear hg hr
            go_wp2_with fail
            go_ret
            try rw [if_neg HIF.out]
            exact ⟨rfl, HR2.out, HG.out⟩
          · have ho : ((X : Int) % 2 == 1) = false := beq_eq_false_iff_ne.2 (by omega)
            have hn : (X : Int) / 2 = N := by rw [← HN.out, nx_even hodd]; omega
            clear hodd
            go_wp2_with fail
            refine (rfails_any b _ (w.drewN nq) (HR.out.drewN nq)).mono ?_
            rintro e w2 ⟨rfl, hr, hg⟩
            have HG := Lib.hid ((grown_drewN w _ (some b)).trans hg)
            have HR2 := Lib.hid hr
            clear hg hr
            go_wp2_with fail
            go_ret
            try rw [if_neg HIF.out]
            exact ⟨rfl, HR2.out, HG.out⟩
        have d1 : decide (N < lo) = false := decide_eq_false (by omega)
        rcases Int.lt_or_le hi N with c2 | c2
        · have d2 : decide (hi < N) = true := decide_eq_true c2
          have hif : ¬ (lo ≤ N ∧ N ≤ hi) := by omega
          have HIF := Lib.hid hif
          clear c1 c2 hif
          by_cases hodd : X % 2 = 1
          · have ho : ((X : Int) % 2 == 1) = true := beq_iff_eq.2 (by omega)
            have hn : -((X : Int) / 2) - 1 = N := by rw [← HN.out, nx_odd hodd]; omega
            clear hodd
            go_wp2_with fail
            refine (rfails_any b _ (w.drewN nq) (HR.out.drewN nq)).mono ?_
            rintro e w2 ⟨rfl, hr, hg⟩
            have HG := Lib.hid ((grown_drewN w _ (some b)).trans hg)
            have HR2 := Lib.hid hr
            clear hg hr
            go_wp2_with fail
            go_ret
            try rw [if_neg HIF.out]
            exact ⟨rfl, HR2.out, HG.out⟩
          · have ho : ((X : Int) % 2 == 1) = false := beq_eq_false_iff_ne.2 (by omega)
            have hn : (X : Int) / 2 = N := by rw [← HN.out, nx_even hodd]; omega
            clear hodd
            go_wp2_with fail
            refine (rfails_any b _ (w.drewN nq) (HR.out.drewN nq)).mono ?_
            rintro e w2 ⟨rfl, hr, hg⟩
            have HG := Lib.hid ((grown_drewN w _ (some b)).trans hg)
            have HR2 := Lib.hid hr
            clear hg hr
            go_wp2_with fail
            go_ret
            try rw [if_neg HIF.out]
            exact ⟨rfl, HR2.out, HG.out⟩
        · have d2 : decide (hi < N) = false := decide_eq_false (by omega)
          have hif : lo ≤ N ∧ N ≤ hi := by omega
          have HIF := Lib.hid hif
          clear c1 c2 hif
          by_cases hodd : X % 2 = 1
          · have ho : ((X : Int) % 2 == 1) = true := beq_iff_eq.2 (by omega)
            have hn : -((X : Int) / 2) - 1 = N := by rw [← HN.out, nx_odd hodd]; omega
            clear hodd
            go_wp2_with fail
            go_ret
            try rw [if_pos HIF.out]
            refine ⟨by simp, ?_, (grown_drewN w _ (some b)).trans (Lib.grownBy_setCell _ b 0 _)⟩
            refine ⟨_, Lib.heap_setCell_same (i := 0) HZ.out _, ?_, ?_⟩
            · rw [extract_list, HL.out, ← len_list z, HL.out]
              exact List.take_of_length_le (by simp)
            · rw [ByteArray.size_extract]; omega
          · have ho : ((X : Int) % 2 == 1) = false := beq_eq_false_iff_ne.2 (by omega)
            have hn : (X : Int) / 2 = N := by rw [← HN.out, nx_even hodd]; omega
            clear hodd
            go_wp2_with fail
            go_ret
            try rw [if_pos HIF.out]
            refine ⟨by simp, ?_, (grown_drewN w _ (some b)).trans (Lib.grownBy_setCell _ b 0 _)⟩
            refine ⟨_, Lib.heap_setCell_same (i := 0) HZ.out _, ?_, ?_⟩
            · rw [extract_list, HL.out, ← len_list z, HL.out]
              exact List.take_of_length_le (by simp)
            · rw [ByteArray.size_extract]; omega
  · have t3 : decide (0 < (c : Int)) = false := decide_eq_false (by omega)
    have t3n : decide (0 < c) = false := decide_eq_false (by omega)
    clear g1
    go_enter Try.func58, Try.ntmps58
    go_wp2
    go_quiet (fail)
    go_wp2
    clear t0 t1 t2 t3
    go_loopw [8, 9] (fun p i wr => ∃ (k X : Nat), 1 ≤ k ∧ k ≤ 1 + c ∧ p = .int .u64 (X : Int) ∧ i = .int .i64 (k : Int) ∧ wr = w.drewN nq ∧ Hid (X = val ((l.drop 1).take (k - 1)))) (fun _ i _ => 1 + c - (intOf i).toNat)
    case atStart => exact ⟨1, 0, by omega, by omega, rfl, rfl, rfl, rfl⟩
    case round =>
      obtain ⟨k, X, hk1, hk2, rfl, rfl, rfl, hX⟩ := hrel
      by_cases hlt : k < 1 + c
      · have hkz : k < z.size := by omega
        have hlt2 : (k : Int) < 1 + (c : Int) := by omega
        have hX56 : X < 72057594037927936 := by
          rw [hX.out]
          exact val_lt56 (by rw [List.length_take]; omega)
        obtain ⟨y, hy⟩ : ∃ y : Nat, z[k].toNat = y := ⟨_, rfl⟩
        have hyb : y ≤ 255 := by have := z[k].toNat_lt; omega
        have hst := val_next (l := l) (k := k) (X := X) (y := y) hX.out hk1 (by rw [← HL.out, len_list]; exact hkz) (by rw [← HL.out, at_getD z k hkz, hy])
        have HST := Lib.hid hst
        clear hst hX
        go_wp2
        go_roundw
        case rel => exact ⟨k + 1, X * 256 + y, by omega, by omega, by simp, by go_num, by first | rfl | trivial, HST.out⟩
        case measure => simp [intOf]; omega
      · obtain rfl : k = 1 + c := by omega
        have hXV : X = V := by rw [hX.out, ← HV.out, show 1 + c - 1 = c by omega]
        subst hXV
        have hnlt : ¬ (1 + (c : Int) < 1 + (c : Int)) := by omega
        clear hX hlt
        have hq1 : 0 ≤ 1 + (c : Int) := by omega
        have hq2 : 1 + (c : Int) ≤ (z.size : Int) := by omega
        have hq3 : (1 + (c : Int)).toNat = 1 + c := by omega
        have hq4 : ((1 + c : Nat) : Int) = 1 + (c : Int) := by omega
        have HL2 := HL
        rcases Int.lt_or_le N lo with c1 | c1
        · have d1 : decide (N < lo) = true := decide_eq_true c1
          have hif : ¬ (lo ≤ N ∧ N ≤ hi) := by omega
          have HIF := Lib.hid hif
          clear c1 hif
          by_cases hodd : X % 2 = 1
          · have ho : ((X : Int) % 2 == 1) = true := beq_iff_eq.2 (by omega)
            have hn : -((X : Int) / 2) - 1 = N := by rw [← HN.out, nx_odd hodd]; omega
            clear hodd
            go_wp2_with fail
            refine (rfails_any b _ (w.drewN nq) (HR.out.drewN nq)).mono ?_
            rintro e w2 ⟨rfl, hr, hg⟩
            have HG := Lib.hid ((grown_drewN w _ (some b)).trans hg)
            have HR2 := Lib.hid hr
            clear hg hr
            go_wp2_with fail
            go_ret
            try rw [if_neg HIF.out]
            exact ⟨rfl, HR2.out, HG.out⟩
          · have ho : ((X : Int) % 2 == 1) = false := beq_eq_false_iff_ne.2 (by omega)
            have hn : (X : Int) / 2 = N := by rw [← HN.out, nx_even hodd]; omega
            clear hodd
            go_wp2_with fail
            refine (rfails_any b _ (w.drewN nq) (HR.out.drewN nq)).mono ?_
            rintro e w2 ⟨rfl, hr, hg⟩
            have HG := Lib.hid ((grown_drewN w _ (some b)).trans hg)
            have HR2 := Lib.hid hr
            clear hg hr
            go_wp2_with fail
            go_ret
            try rw [if_neg HIF.out]
            exact ⟨rfl, HR2.out, HG.out⟩
        have d1 : decide (N < lo) = false := decide_eq_false (by omega)
        rcases Int.lt_or_le hi N with c2 | c2
        · have d2 : decide (hi < N) = true := decide_eq_true c2
          have hif : ¬ (lo ≤ N ∧ N ≤ hi) := by omega
          have HIF := Lib.hid hif
          clear c1 c2 hif
          by_cases hodd : X % 2 = 1
          · have ho : ((X : Int) % 2 == 1) = true := beq_iff_eq.2 (by omega)
            have hn : -((X : Int) / 2) - 1 = N := by rw [← HN.out, nx_odd hodd]; omega
            clear hodd
            go_wp2_with fail
            refine (rfails_any b _ (w.drewN nq) (HR.out.drewN nq)).mono ?_
            rintro e w2 ⟨rfl, hr, hg⟩
            have HG := Lib.hid ((grown_drewN w _ (some b)).trans hg)
            have HR2 := Lib.hid hr
            clear hg hr
            go_wp2_with fail
            go_ret
            try rw [if_neg HIF.out]
            exact ⟨rfl, HR2.out, HG.out⟩
          · have ho : ((X : Int) % 2 == 1) = false := beq_eq_false_iff_ne.2 (by omega)
            have hn : (X : Int) / 2 = N := by rw [← HN.out, nx_even hodd]; omega
            clear hodd
            go_wp2_with fail
            refine (rfails_any b _ (w.drewN nq) (HR.out.drewN nq)).mono ?_
            rintro e w2 ⟨rfl, hr, hg⟩
            have HG := Lib.hid ((grown_drewN w _ (some b)).trans hg)
            have HR2 := Lib.hid hr
            clear hg hr
            go_wp2_with fail
            go_ret
            try rw [if_neg HIF.out]
            exact ⟨rfl, HR2.out, HG.out⟩
        · have d2 : decide (hi < N) = false := decide_eq_false (by omega)
          have hif : lo ≤ N ∧ N ≤ hi := by omega
          have HIF := Lib.hid hif
          clear c1 c2 hif
          by_cases hodd : X % 2 = 1
          · have ho : ((X : Int) % 2 == 1) = true := beq_iff_eq.2 (by omega)
            have hn : -((X : Int) / 2) - 1 = N := by rw [← HN.out, nx_odd hodd]; omega
            clear hodd
            go_wp2_with fail
            go_ret
            try rw [if_pos HIF.out]
            refine ⟨by simp, ?_, (grown_drewN w _ (some b)).trans (Lib.grownBy_setCell _ b 0 _)⟩
            refine ⟨_, Lib.heap_setCell_same (i := 0) HZ.out _, ?_, ?_⟩
            · rw [extract_list, HL.out, ← len_list z, HL.out]
              exact List.take_of_length_le (by simp)
            · rw [ByteArray.size_extract]; omega
          · have ho : ((X : Int) % 2 == 1) = false := beq_eq_false_iff_ne.2 (by omega)
            have hn : (X : Int) / 2 = N := by rw [← HN.out, nx_even hodd]; omega
            clear hodd
            go_wp2_with fail
            go_ret
            try rw [if_pos HIF.out]
            refine ⟨by simp, ?_, (grown_drewN w _ (some b)).trans (Lib.grownBy_setCell _ b 0 _)⟩
            refine ⟨_, Lib.heap_setCell_same (i := 0) HZ.out _, ?_, ?_⟩
            · rw [extract_list, HL.out, ← len_list z, HL.out]
              exact List.take_of_length_le (by simp)
            · rw [ByteArray.size_extract]; omega
theorem rqint_any (b : Nat) (st : St) (lo hi : Int) (w : World) (h : RqAt w b st) :
    Calls Try.prog 58 #[.pointer (some ⟨b, 0, none⟩), .int .i64 lo, .int .i64 hi] w fun e w' => e = .returned (.int .i64 (rdInt lo hi st).1) ∧ RqAt w' b (rdInt lo hi st).2 ∧ w.grownBy w' (some b) := by
  cases st with
  | none => exact rqint_fail b none lo hi w h rfl
  | some l =>
    cases hok : ok l with
    | false =>
      rw [rdInt_no (fun h => by rw [h.1] at hok; cases hok)]
      exact rqint_fail b (some l) lo hi w h hok
    | true => exact rqint_ok b l lo hi w h hok
end Go.Proofs.Ytamcidlkbhanfaa.Wire
