/-
  The contract of the document's Fit of books; what was there stays as it was.
-/
import Derived.Test.YtjclkiabgemfpaaGreatPdLedgerU
set_option linter.unusedVariables false
set_option linter.unusedSimpArgs false
set_option maxRecDepth 4000
namespace Go.Proofs.YtjclkiabgemfpaaGreat.Ledger
open Go.RowKit LinesP HoldsP LedgerP
open StockP (Sk sk0 fitS Fit fitS_iff fromV turnV moveV turn_fit)
open Go.Proofs.YtjclkiabgemfpaaGreat.Lines (LsAt Sz SzM ret_bool ret_int below_keep below_drewN below_append owns_form owns_cell owns_below Qw qw_skip qw_take qw_nil wp_region_qw)
open Go.Proofs.YtjclkiabgemfpaaGreat.Holds (HsAt SzH SzMH hmf eqH)

theorem ls_at {w : World} {la : Option Addr} {n : Nat} {ls : List Ln} (h : LsAt w la n ls) {i : Nat} (hi : i < n) :
    ∃ b o s q, la = some ⟨b, o, none⟩ ∧ b < w.heap.size ∧ ls.getD i ln0 = (s, q) ∧ (s, q) ∈ ls ∧ ∀ w', Below w.heap.size w w' → w'.cell? ⟨b, o + i * 2, none⟩ = some (.string s) ∧ w'.cell? ⟨b, o + i * 2 + 1, none⟩ = some (.int .i64 q) := by
  obtain ⟨h1, h2, h3⟩ := h
  rcases h3 with h3 | ⟨b, o, e, hlt, hc⟩
  · omega
  · have hil : i < ls.length := by omega
    refine ⟨b, o, (ls.getD i ln0).1, (ls.getD i ln0).2, e, hlt, rfl, ?_, fun w' hb => ⟨(hb.cell (p := ⟨b, o + i * 2, none⟩) hlt).trans (hc i hi).1, (hb.cell (p := ⟨b, o + i * 2 + 1, none⟩) hlt).trans (hc i hi).2⟩⟩
    have : ls.getD i ln0 = ls[i] := by simp [List.getD, hil]
    show ls.getD i ln0 ∈ ls
    rw [this]; exact List.getElem_mem hil

theorem leq_no {t pn : ByteArray} (h : lss pn t = false) : Op.bytesLess t.toList pn.toList = true ∨ (Op.bytesLess t.toList pn.toList = false ∧ (t.toList == pn.toList) = true) := by
  by_cases e : pn = t
  · refine .inr ⟨?_, same_iff.2 e.symm⟩
    subst e
    exact geq_of h
  · exact .inl (geq_of (lss_lt.2 (lt_total h e)))
theorem leq_yes {t pn : ByteArray} (h : lss pn t = true) : Op.bytesLess t.toList pn.toList = false ∧ (t.toList == pn.toList) = false := by
  have h1 := lss_lt.1 h
  refine ⟨geq_of ?_, ?_⟩
  · cases hq : lss t pn with
    | false => rfl
    | true => exact absurd (lt_trans h1 (lss_lt.1 hq)) (lt_irr pn)
  · cases hq : (t.toList == pn.toList) with
    | false => rfl
    | true => rw [same_iff.1 hq] at h1; exact absurd h1 (lt_irr pn)
theorem vtotal_is (a : Option Addr) (len cap : Nat) (l : List Hd) (s : ByteArray) (hf : fitH l = true) (w : World) (h : HsAt w a len l) (hz : SzH l) :
    Calls Tryz.prog 41 #[.slice a len cap, .string s] w fun e w' => e = .returned (.int .i64 (sumH s l)) ∧ Below w.heap.size w w' := by
  have := Holds.rtotal_any a len cap l s w h hz
  unfold totH at this
  rw [if_pos hf] at this
  exact this
theorem vhfit_is (a : Option Addr) (len cap : Nat) (l : List Hd) (v : Bool) (hv : fitH l = v) (w : World) (h : HsAt w a len l) (hz : SzH l) :
    Calls Tryz.prog 39 #[.slice a len cap] w fun e w' => e = .returned (.bool v) ∧ Below w.heap.size w w' := by
  have := Holds.rfit_any a len cap l w h hz
  rw [hv] at this
  exact this
set_option maxHeartbeats 8000000 in
theorem rfitb_any (a : Option Addr) (len cap : Nat) (a2 : Option Addr) (len2 cap2 : Nat) (b : Bk) (v : Bool) (hv : fitB b = v) (w : World) (h : BkAt w a len a2 len2 cap2 b) (hz : SzB b) :
    Calls Tryz.prog 15 #[.agg #[.slice a len cap, .slice a2 len2 cap2]] w fun e w' => e = .returned (.bool v) ∧ Below w.heap.size w w' := by
  have hl := h.sk.2.1
  have hl2 := hz.lh
  rw [h.hd.len] at hl2
  have HN0 := bbr_new w a len cap a2 len2 cap2
  obtain ⟨w0, hw0⟩ : ∃ w0, w.alloc (.cells #[.slice a len cap, .slice a2 len2 cap2] 25) = w0 := ⟨_, rfl⟩
  rw [hw0] at HN0
  have HW := Lib.hid hw0
  have HN := Lib.hid HN0
  have HX := Lib.hid h
  have HZ := Lib.hid hz
  have HV := Lib.hid hv
  have k0 := HN0.c0
  have k1 := HN0.c1
  have CH := Lib.hid (fun v hv => vhfit_is a2 len2 cap2 b.hd v hv w0 (h.hd.keep HN0.bel) hz.hd)
  have hlen := h.sk.1
  clear hw0 HN0 h hz hv
  by_cases h12 : 12 < len
  · have HNO : Hid (v = false) := HV.out.symm.trans (fitB_no1 (by omega))
    have h12' : (12 : Int) < (len : Int) := by omega
    go_enter Tryz.func15, Tryz.ntmps15
    go_wp2_with fail
    rw [show w.alloc (.cells #[.slice a len cap, .slice a2 len2 cap2] 25) = w0 from HW.out]
    go_wp2_with fail
    go_ret
    exact ⟨ret_bool HNO.out, HN.out.bel⟩
  have h12' : ¬ ((12 : Int) < (len : Int)) := by omega
  cases hfh : fitH b.hd with
  | false =>
    have HNO : Hid (v = false) := HV.out.symm.trans (fitB_no2 hfh)
    have C := Lib.hid (CH.out false hfh)
    clear hfh
    go_enter Tryz.func15, Tryz.ntmps15
    go_wp2_with fail
    rw [show w.alloc (.cells #[.slice a len cap, .slice a2 len2 cap2] 25) = w0 from HW.out]
    go_wp2_with fail
    refine C.out.mono ?_
    rintro e w1 ⟨rfl, hb⟩
    have HB := Lib.hid (HN.out.keep hb)
    clear hb k0 k1
    go_wp2_with fail
    go_ret
    exact ⟨ret_bool HNO.out, HB.out.bel⟩
  | true =>
    have HFH := Lib.hid hfh
    have C := Lib.hid (CH.out true hfh)
    clear hfh CH
    go_enter Tryz.func15, Tryz.ntmps15
    go_wp2_with fail
    rw [show w.alloc (.cells #[.slice a len cap, .slice a2 len2 cap2] 25) = w0 from HW.out]
    go_wp2_with fail
    refine C.out.mono ?_
    rintro e w1 ⟨rfl, hb⟩
    have HB := Lib.hid (HN.out.keep hb)
    clear hb k0 k1 C
    go_wp2_with fail
    go_loopw [3] (fun i wr => ∃ k : Nat, k ≤ len ∧ i = .int .i64 (k : Int) ∧ Hid (skUp b.hd none b.sk = skUp b.hd (prevS b.sk k) (b.sk.drop k)) ∧ Hid (BB w wr a len cap a2 len2 cap2)) (fun i _ => len - (intOf i).toNat)
    case atStart => exact ⟨0, Nat.zero_le _, rfl, Lib.hid rfl, HB⟩
    case round =>
      obtain ⟨k, hk, rfl, hd, hB⟩ := hrel
      have k0 := hB.out.c0
      by_cases hlk : k < len
      · have hkx : k < b.sk.length := by omega
        obtain ⟨b1, o1, t, x0, x1, x2, x3, x4, rfl, g1, hp, hc1⟩ := HX.out.sk.at hlk
        obtain ⟨d0, d1, d2, d3, d4, d5⟩ := hc1 wr hB.out.bel
        have hsz := HZ.out.sk _ (smem_getD hkx)
        rw [hp] at hsz
        simp only at hsz
        have hX6 := Lib.hid (at6_new wr (.string t) (.int .i64 x0) (.int .i64 x1) (.int .i64 x2) (.int .i64 x3) (.int .i64 x4))
        have hBx := Lib.hid (hB.out.keep ((Below.refl _ wr).alloc (Nat.le_refl _) (.cells #[.string t, .int .i64 x0, .int .i64 x1, .int .i64 x2, .int .i64 x3, .int .i64 x4] 41)))
        clear hc1 g1
        have hG0 : k = 0 ∨ 0 < k := by omega
        go_wp2_with fail
        obtain ⟨kx, hkx2⟩ : ∃ kx, wr.heap.size = kx := ⟨_, rfl⟩
        rw [hkx2] at hX6
        try rw [hkx2]
        clear hkx2 d0 d1 d2 d3 d4 d5 k0
        generalize wr.alloc (.cells #[.string t, .int .i64 x0, .int .i64 x1, .int .i64 x2, .int .i64 x3, .int .i64 x4] 41) = wx at hX6 hBx ⊢
        cases hf : fitS ⟨t, x0, x1, x2, x3, x4⟩ with
        | false =>
          have CFX := Lib.hid (fun d os => Calls.regrown_of (rsfit_is t x0 x1 x2 x3 x4 false (Sort.grow (redrawn wx d) os) (by omega) hf))
          have hone : oneS b.hd ⟨t, x0, x1, x2, x3, x4⟩ = false := by unfold oneS; rw [hf]; rfl
          have HNO : Hid (v = false) := HV.out.symm.trans (fitB_no3 (hd.out.trans (sk_no hkx hp hone)))
          clear hd hone hp hkx hf
          obtain ⟨C0, C1, C2, C3, C4, C5⟩ := cells6 hX6.out
          have c0 := fun d os => cell_regrown C0 d os
          have c1 := fun d os => cell_regrown C1 d os
          have c2' := fun d os => cell_regrown C2 d os
          have c3 := fun d os => cell_regrown C3 d os
          have c4 := fun d os => cell_regrown C4 d os
          have c5 := fun d os => cell_regrown C5 d os
          have k0 := fun d os => cell_regrown (hBx.out.c0) d os
          have k1 := fun d os => cell_regrown (hBx.out.c1) d os
          clear C0 C1 C2 C3 C4 C5
          refine wp_region_qw (by kernel_rfl) (by kernel_rfl) ?_
          refine qw_take (by kernel_rfl) (fun K hK => ?_); go_simp; first | (refine hK _ ?_; clear hK K) | (apply Exists.intro; refine ⟨fun _ => ?_, hK _ ?_⟩; (first | with_reducible exact CFX.out _ _); clear hK K)
          refine qw_take (by kernel_rfl) (fun K hK => ?_); go_simp; first | (refine hK _ ?_; clear hK K) | (apply Exists.intro; refine ⟨fun _ => ?_, hK _ ?_⟩; (first | with_reducible exact CFX.out _ _); clear hK K)
          refine qw_take (by kernel_rfl) (fun K hK => ?_); go_simp; first | (refine hK _ ?_; clear hK K) | (apply Exists.intro; refine ⟨fun _ => ?_, hK _ ?_⟩; (first | with_reducible exact CFX.out _ _); clear hK K)
          refine qw_take (by kernel_rfl) (fun K hK => ?_); go_simp; first | (refine hK _ ?_; clear hK K) | (apply Exists.intro; refine ⟨fun _ => ?_, hK _ ?_⟩; (first | with_reducible exact CFX.out _ _); clear hK K)
          refine qw_skip (by kernel_rfl) ?_; simp only [Act.put, List.setIfInBounds_toArray, List.set_cons_succ, List.set_cons_zero]
          refine qw_skip (by kernel_rfl) ?_; simp only [Act.put, List.setIfInBounds_toArray, List.set_cons_succ, List.set_cons_zero]
          refine qw_skip (by kernel_rfl) ?_; simp only [Act.put, List.setIfInBounds_toArray, List.set_cons_succ, List.set_cons_zero]
          refine qw_skip (by kernel_rfl) ?_; simp only [Act.put, List.setIfInBounds_toArray, List.set_cons_succ, List.set_cons_zero]
          refine qw_skip (by kernel_rfl) ?_; simp only [Act.put, List.setIfInBounds_toArray, List.set_cons_succ, List.set_cons_zero]
          refine qw_skip (by kernel_rfl) ?_; simp only [Act.put, List.setIfInBounds_toArray, List.set_cons_succ, List.set_cons_zero]
          refine qw_skip (by kernel_rfl) ?_; simp only [Act.put, List.setIfInBounds_toArray, List.set_cons_succ, List.set_cons_zero]
          refine qw_skip (by kernel_rfl) ?_; simp only [Act.put, List.setIfInBounds_toArray, List.set_cons_succ, List.set_cons_zero]
          refine qw_skip (by kernel_rfl) ?_; simp only [Act.put, List.setIfInBounds_toArray, List.set_cons_succ, List.set_cons_zero]
          refine qw_skip (by kernel_rfl) ?_; simp only [Act.put, List.setIfInBounds_toArray, List.set_cons_succ, List.set_cons_zero]
          refine qw_skip (by kernel_rfl) ?_; simp only [Act.put, List.setIfInBounds_toArray, List.set_cons_succ, List.set_cons_zero]
          refine qw_skip (by kernel_rfl) ?_; simp only [Act.put, List.setIfInBounds_toArray, List.set_cons_succ, List.set_cons_zero]
          refine qw_skip (by kernel_rfl) ?_; simp only [Act.put, List.setIfInBounds_toArray, List.set_cons_succ, List.set_cons_zero]
          refine qw_skip (by kernel_rfl) ?_; simp only [Act.put, List.setIfInBounds_toArray, List.set_cons_succ, List.set_cons_zero]
          refine qw_take (by kernel_rfl) (fun K hK => ?_); go_simp; first | (refine hK _ ?_; clear hK K) | (apply Exists.intro; refine ⟨fun _ => ?_, hK _ ?_⟩; (first | with_reducible exact CFX.out _ _); clear hK K)
          refine qw_take (by kernel_rfl) (fun K hK => ?_); go_simp; first | (refine hK _ ?_; clear hK K) | (apply Exists.intro; refine ⟨fun _ => ?_, hK _ ?_⟩; (first | with_reducible exact CFX.out _ _); clear hK K)
          refine qw_skip (by kernel_rfl) ?_; simp only [Act.put, List.setIfInBounds_toArray, List.set_cons_succ, List.set_cons_zero]
          refine qw_skip (by kernel_rfl) ?_; simp only [Act.put, List.setIfInBounds_toArray, List.set_cons_succ, List.set_cons_zero]
          refine qw_skip (by kernel_rfl) ?_; simp only [Act.put, List.setIfInBounds_toArray, List.set_cons_succ, List.set_cons_zero]
          refine qw_skip (by kernel_rfl) ?_; simp only [Act.put, List.setIfInBounds_toArray, List.set_cons_succ, List.set_cons_zero]
          refine qw_skip (by kernel_rfl) ?_; simp only [Act.put, List.setIfInBounds_toArray, List.set_cons_succ, List.set_cons_zero]
          refine qw_skip (by kernel_rfl) ?_; simp only [Act.put, List.setIfInBounds_toArray, List.set_cons_succ, List.set_cons_zero]
          refine qw_skip (by kernel_rfl) ?_; simp only [Act.put, List.setIfInBounds_toArray, List.set_cons_succ, List.set_cons_zero]
          refine qw_skip (by kernel_rfl) ?_; simp only [Act.put, List.setIfInBounds_toArray, List.set_cons_succ, List.set_cons_zero]
          refine qw_take (by kernel_rfl) (fun K hK => ?_); go_simp; first | (refine hK _ ?_; clear hK K) | (apply Exists.intro; refine ⟨fun _ => ?_, hK _ ?_⟩; (first | with_reducible exact CFX.out _ _); clear hK K)
          refine qw_nil ?_
          intro _ hw'
          obtain ⟨⟨dq, osq⟩, hw''⟩ := hw'
          subst hw''
          have HBL := Lib.hid (hBx.out.keep (below_regrown wx dq osq))
          clear c0 c1 c2' c3 c4 c5 k0 k1 CFX
          generalize Sort.grow (redrawn wx dq) osq = wl at *
          go_wp2_with fail
          go_ret
          exact ⟨ret_bool HNO.out, HBL.out.bel⟩
        | true =>
          have CFX := Lib.hid (fun d os => Calls.regrown_of (rsfit_is t x0 x1 x2 x3 x4 true (Sort.grow (redrawn wx d) os) (by omega) hf))
          rcases hG0 with hk0 | hk0
          · subst hk0
            have CT := Lib.hid (fun d os => Calls.regrown_of (vtotal_is a2 len2 cap2 b.hd t HFH.out (Sort.grow (redrawn wx d) os) (HX.out.hd.keep (hBx.out.keep (below_regrown wx d os)).bel) HZ.out.hd))
            by_cases hsm : x1 = sumH t b.hd
            · have hone : oneS b.hd ⟨t, x0, x1, x2, x3, x4⟩ = true := by unfold oneS; rw [hf]; simp [hsm]
              have HGO := Lib.hid (hd.out.trans (sk_go0 hkx hp hone))
              have hbq : (x1 != sumH t b.hd) = false := by simp [hsm]
              generalize sumH t b.hd = tot at CT hsm hbq
              clear hd hone hp hkx hf hsm
              obtain ⟨C0, C1, C2, C3, C4, C5⟩ := cells6 hX6.out
              have c0 := fun d os => cell_regrown C0 d os
              have c1 := fun d os => cell_regrown C1 d os
              have c2' := fun d os => cell_regrown C2 d os
              have c3 := fun d os => cell_regrown C3 d os
              have c4 := fun d os => cell_regrown C4 d os
              have c5 := fun d os => cell_regrown C5 d os
              have k0 := fun d os => cell_regrown (hBx.out.c0) d os
              have k1 := fun d os => cell_regrown (hBx.out.c1) d os
              clear C0 C1 C2 C3 C4 C5
              refine wp_region_qw (by kernel_rfl) (by kernel_rfl) ?_
              refine qw_take (by kernel_rfl) (fun K hK => ?_); go_simp; first | (refine hK _ ?_; clear hK K) | (apply Exists.intro; refine ⟨fun _ => ?_, hK _ ?_⟩; (first | with_reducible exact CFX.out _ _ | with_reducible exact CT.out _ _); clear hK K)
              refine qw_take (by kernel_rfl) (fun K hK => ?_); go_simp; first | (refine hK _ ?_; clear hK K) | (apply Exists.intro; refine ⟨fun _ => ?_, hK _ ?_⟩; (first | with_reducible exact CFX.out _ _ | with_reducible exact CT.out _ _); clear hK K)
              refine qw_take (by kernel_rfl) (fun K hK => ?_); go_simp; first | (refine hK _ ?_; clear hK K) | (apply Exists.intro; refine ⟨fun _ => ?_, hK _ ?_⟩; (first | with_reducible exact CFX.out _ _ | with_reducible exact CT.out _ _); clear hK K)
              refine qw_take (by kernel_rfl) (fun K hK => ?_); go_simp; first | (refine hK _ ?_; clear hK K) | (apply Exists.intro; refine ⟨fun _ => ?_, hK _ ?_⟩; (first | with_reducible exact CFX.out _ _ | with_reducible exact CT.out _ _); clear hK K)
              refine qw_take (by kernel_rfl) (fun K hK => ?_); go_simp; first | (refine hK _ ?_; clear hK K) | (apply Exists.intro; refine ⟨fun _ => ?_, hK _ ?_⟩; (first | with_reducible exact CFX.out _ _ | with_reducible exact CT.out _ _); clear hK K)
              refine qw_take (by kernel_rfl) (fun K hK => ?_); go_simp; first | (refine hK _ ?_; clear hK K) | (apply Exists.intro; refine ⟨fun _ => ?_, hK _ ?_⟩; (first | with_reducible exact CFX.out _ _ | with_reducible exact CT.out _ _); clear hK K)
              refine qw_take (by kernel_rfl) (fun K hK => ?_); go_simp; first | (refine hK _ ?_; clear hK K) | (apply Exists.intro; refine ⟨fun _ => ?_, hK _ ?_⟩; (first | with_reducible exact CFX.out _ _ | with_reducible exact CT.out _ _); clear hK K)
              refine qw_skip (by kernel_rfl) ?_; simp only [Act.put, List.setIfInBounds_toArray, List.set_cons_succ, List.set_cons_zero]
              refine qw_skip (by kernel_rfl) ?_; simp only [Act.put, List.setIfInBounds_toArray, List.set_cons_succ, List.set_cons_zero]
              refine qw_skip (by kernel_rfl) ?_; simp only [Act.put, List.setIfInBounds_toArray, List.set_cons_succ, List.set_cons_zero]
              refine qw_skip (by kernel_rfl) ?_; simp only [Act.put, List.setIfInBounds_toArray, List.set_cons_succ, List.set_cons_zero]
              refine qw_skip (by kernel_rfl) ?_; simp only [Act.put, List.setIfInBounds_toArray, List.set_cons_succ, List.set_cons_zero]
              refine qw_skip (by kernel_rfl) ?_; simp only [Act.put, List.setIfInBounds_toArray, List.set_cons_succ, List.set_cons_zero]
              refine qw_skip (by kernel_rfl) ?_; simp only [Act.put, List.setIfInBounds_toArray, List.set_cons_succ, List.set_cons_zero]
              refine qw_skip (by kernel_rfl) ?_; simp only [Act.put, List.setIfInBounds_toArray, List.set_cons_succ, List.set_cons_zero]
              refine qw_skip (by kernel_rfl) ?_; simp only [Act.put, List.setIfInBounds_toArray, List.set_cons_succ, List.set_cons_zero]
              refine qw_skip (by kernel_rfl) ?_; simp only [Act.put, List.setIfInBounds_toArray, List.set_cons_succ, List.set_cons_zero]
              refine qw_take (by kernel_rfl) (fun K hK => ?_); go_simp; first | (refine hK _ ?_; clear hK K) | (apply Exists.intro; refine ⟨fun _ => ?_, hK _ ?_⟩; (first | with_reducible exact CFX.out _ _ | with_reducible exact CT.out _ _); clear hK K)
              refine qw_take (by kernel_rfl) (fun K hK => ?_); go_simp; first | (refine hK _ ?_; clear hK K) | (apply Exists.intro; refine ⟨fun _ => ?_, hK _ ?_⟩; (first | with_reducible exact CFX.out _ _ | with_reducible exact CT.out _ _); clear hK K)
              refine qw_take (by kernel_rfl) (fun K hK => ?_); go_simp; first | (refine hK _ ?_; clear hK K) | (apply Exists.intro; refine ⟨fun _ => ?_, hK _ ?_⟩; (first | with_reducible exact CFX.out _ _ | with_reducible exact CT.out _ _); clear hK K)
              refine qw_take (by kernel_rfl) (fun K hK => ?_); go_simp; first | (refine hK _ ?_; clear hK K) | (apply Exists.intro; refine ⟨fun _ => ?_, hK _ ?_⟩; (first | with_reducible exact CFX.out _ _ | with_reducible exact CT.out _ _); clear hK K)
              refine qw_take (by kernel_rfl) (fun K hK => ?_); go_simp; first | (refine hK _ ?_; clear hK K) | (apply Exists.intro; refine ⟨fun _ => ?_, hK _ ?_⟩; (first | with_reducible exact CFX.out _ _ | with_reducible exact CT.out _ _); clear hK K)
              refine qw_take (by kernel_rfl) (fun K hK => ?_); go_simp; first | (refine hK _ ?_; clear hK K) | (apply Exists.intro; refine ⟨fun _ => ?_, hK _ ?_⟩; (first | with_reducible exact CFX.out _ _ | with_reducible exact CT.out _ _); clear hK K)
              refine qw_take (by kernel_rfl) (fun K hK => ?_); go_simp; first | (refine hK _ ?_; clear hK K) | (apply Exists.intro; refine ⟨fun _ => ?_, hK _ ?_⟩; (first | with_reducible exact CFX.out _ _ | with_reducible exact CT.out _ _); clear hK K)
              refine qw_take (by kernel_rfl) (fun K hK => ?_); go_simp; first | (refine hK _ ?_; clear hK K) | (apply Exists.intro; refine ⟨fun _ => ?_, hK _ ?_⟩; (first | with_reducible exact CFX.out _ _ | with_reducible exact CT.out _ _); clear hK K)
              refine qw_take (by kernel_rfl) (fun K hK => ?_); go_simp; first | (refine hK _ ?_; clear hK K) | (apply Exists.intro; refine ⟨fun _ => ?_, hK _ ?_⟩; (first | with_reducible exact CFX.out _ _ | with_reducible exact CT.out _ _); clear hK K)
              refine qw_take (by kernel_rfl) (fun K hK => ?_); go_simp; first | (refine hK _ ?_; clear hK K) | (apply Exists.intro; refine ⟨fun _ => ?_, hK _ ?_⟩; (first | with_reducible exact CFX.out _ _ | with_reducible exact CT.out _ _); clear hK K)
              refine qw_take (by kernel_rfl) (fun K hK => ?_); go_simp; first | (refine hK _ ?_; clear hK K) | (apply Exists.intro; refine ⟨fun _ => ?_, hK _ ?_⟩; (first | with_reducible exact CFX.out _ _ | with_reducible exact CT.out _ _); clear hK K)
              refine qw_take (by kernel_rfl) (fun K hK => ?_); go_simp; first | (refine hK _ ?_; clear hK K) | (apply Exists.intro; refine ⟨fun _ => ?_, hK _ ?_⟩; (first | with_reducible exact CFX.out _ _ | with_reducible exact CT.out _ _); clear hK K)
              refine qw_nil ?_
              intro _ hw'
              obtain ⟨⟨dq, osq⟩, hw''⟩ := hw'
              subst hw''
              have HBL := Lib.hid (hBx.out.keep (below_regrown wx dq osq))
              clear c0 c1 c2' c3 c4 c5 k0 k1 CFX CT
              generalize Sort.grow (redrawn wx dq) osq = wl at *
              go_wp2_with fail
              go_roundw
              case rel => exact ⟨0 + 1, by omega, by go_num, HGO, HBL⟩
              case measure => simp [intOf]; omega
            · have hone : oneS b.hd ⟨t, x0, x1, x2, x3, x4⟩ = false := by unfold oneS; rw [hf]; simp [hsm]
              have HNO : Hid (v = false) := HV.out.symm.trans (fitB_no3 (hd.out.trans (sk_no hkx hp hone)))
              have hbq : (x1 != sumH t b.hd) = true := by simp [hsm]
              generalize sumH t b.hd = tot at CT hsm hbq
              clear hd hone hp hkx hf hsm
              obtain ⟨C0, C1, C2, C3, C4, C5⟩ := cells6 hX6.out
              have c0 := fun d os => cell_regrown C0 d os
              have c1 := fun d os => cell_regrown C1 d os
              have c2' := fun d os => cell_regrown C2 d os
              have c3 := fun d os => cell_regrown C3 d os
              have c4 := fun d os => cell_regrown C4 d os
              have c5 := fun d os => cell_regrown C5 d os
              have k0 := fun d os => cell_regrown (hBx.out.c0) d os
              have k1 := fun d os => cell_regrown (hBx.out.c1) d os
              clear C0 C1 C2 C3 C4 C5
              refine wp_region_qw (by kernel_rfl) (by kernel_rfl) ?_
              refine qw_take (by kernel_rfl) (fun K hK => ?_); go_simp; first | (refine hK _ ?_; clear hK K) | (apply Exists.intro; refine ⟨fun _ => ?_, hK _ ?_⟩; (first | with_reducible exact CFX.out _ _ | with_reducible exact CT.out _ _); clear hK K)
              refine qw_take (by kernel_rfl) (fun K hK => ?_); go_simp; first | (refine hK _ ?_; clear hK K) | (apply Exists.intro; refine ⟨fun _ => ?_, hK _ ?_⟩; (first | with_reducible exact CFX.out _ _ | with_reducible exact CT.out _ _); clear hK K)
              refine qw_take (by kernel_rfl) (fun K hK => ?_); go_simp; first | (refine hK _ ?_; clear hK K) | (apply Exists.intro; refine ⟨fun _ => ?_, hK _ ?_⟩; (first | with_reducible exact CFX.out _ _ | with_reducible exact CT.out _ _); clear hK K)
              refine qw_take (by kernel_rfl) (fun K hK => ?_); go_simp; first | (refine hK _ ?_; clear hK K) | (apply Exists.intro; refine ⟨fun _ => ?_, hK _ ?_⟩; (first | with_reducible exact CFX.out _ _ | with_reducible exact CT.out _ _); clear hK K)
              refine qw_take (by kernel_rfl) (fun K hK => ?_); go_simp; first | (refine hK _ ?_; clear hK K) | (apply Exists.intro; refine ⟨fun _ => ?_, hK _ ?_⟩; (first | with_reducible exact CFX.out _ _ | with_reducible exact CT.out _ _); clear hK K)
              refine qw_take (by kernel_rfl) (fun K hK => ?_); go_simp; first | (refine hK _ ?_; clear hK K) | (apply Exists.intro; refine ⟨fun _ => ?_, hK _ ?_⟩; (first | with_reducible exact CFX.out _ _ | with_reducible exact CT.out _ _); clear hK K)
              refine qw_take (by kernel_rfl) (fun K hK => ?_); go_simp; first | (refine hK _ ?_; clear hK K) | (apply Exists.intro; refine ⟨fun _ => ?_, hK _ ?_⟩; (first | with_reducible exact CFX.out _ _ | with_reducible exact CT.out _ _); clear hK K)
              refine qw_skip (by kernel_rfl) ?_; simp only [Act.put, List.setIfInBounds_toArray, List.set_cons_succ, List.set_cons_zero]
              refine qw_skip (by kernel_rfl) ?_; simp only [Act.put, List.setIfInBounds_toArray, List.set_cons_succ, List.set_cons_zero]
              refine qw_skip (by kernel_rfl) ?_; simp only [Act.put, List.setIfInBounds_toArray, List.set_cons_succ, List.set_cons_zero]
              refine qw_skip (by kernel_rfl) ?_; simp only [Act.put, List.setIfInBounds_toArray, List.set_cons_succ, List.set_cons_zero]
              refine qw_skip (by kernel_rfl) ?_; simp only [Act.put, List.setIfInBounds_toArray, List.set_cons_succ, List.set_cons_zero]
              refine qw_skip (by kernel_rfl) ?_; simp only [Act.put, List.setIfInBounds_toArray, List.set_cons_succ, List.set_cons_zero]
              refine qw_skip (by kernel_rfl) ?_; simp only [Act.put, List.setIfInBounds_toArray, List.set_cons_succ, List.set_cons_zero]
              refine qw_skip (by kernel_rfl) ?_; simp only [Act.put, List.setIfInBounds_toArray, List.set_cons_succ, List.set_cons_zero]
              refine qw_skip (by kernel_rfl) ?_; simp only [Act.put, List.setIfInBounds_toArray, List.set_cons_succ, List.set_cons_zero]
              refine qw_skip (by kernel_rfl) ?_; simp only [Act.put, List.setIfInBounds_toArray, List.set_cons_succ, List.set_cons_zero]
              refine qw_take (by kernel_rfl) (fun K hK => ?_); go_simp; first | (refine hK _ ?_; clear hK K) | (apply Exists.intro; refine ⟨fun _ => ?_, hK _ ?_⟩; (first | with_reducible exact CFX.out _ _ | with_reducible exact CT.out _ _); clear hK K)
              refine qw_take (by kernel_rfl) (fun K hK => ?_); go_simp; first | (refine hK _ ?_; clear hK K) | (apply Exists.intro; refine ⟨fun _ => ?_, hK _ ?_⟩; (first | with_reducible exact CFX.out _ _ | with_reducible exact CT.out _ _); clear hK K)
              refine qw_take (by kernel_rfl) (fun K hK => ?_); go_simp; first | (refine hK _ ?_; clear hK K) | (apply Exists.intro; refine ⟨fun _ => ?_, hK _ ?_⟩; (first | with_reducible exact CFX.out _ _ | with_reducible exact CT.out _ _); clear hK K)
              refine qw_take (by kernel_rfl) (fun K hK => ?_); go_simp; first | (refine hK _ ?_; clear hK K) | (apply Exists.intro; refine ⟨fun _ => ?_, hK _ ?_⟩; (first | with_reducible exact CFX.out _ _ | with_reducible exact CT.out _ _); clear hK K)
              refine qw_take (by kernel_rfl) (fun K hK => ?_); go_simp; first | (refine hK _ ?_; clear hK K) | (apply Exists.intro; refine ⟨fun _ => ?_, hK _ ?_⟩; (first | with_reducible exact CFX.out _ _ | with_reducible exact CT.out _ _); clear hK K)
              refine qw_take (by kernel_rfl) (fun K hK => ?_); go_simp; first | (refine hK _ ?_; clear hK K) | (apply Exists.intro; refine ⟨fun _ => ?_, hK _ ?_⟩; (first | with_reducible exact CFX.out _ _ | with_reducible exact CT.out _ _); clear hK K)
              refine qw_take (by kernel_rfl) (fun K hK => ?_); go_simp; first | (refine hK _ ?_; clear hK K) | (apply Exists.intro; refine ⟨fun _ => ?_, hK _ ?_⟩; (first | with_reducible exact CFX.out _ _ | with_reducible exact CT.out _ _); clear hK K)
              refine qw_take (by kernel_rfl) (fun K hK => ?_); go_simp; first | (refine hK _ ?_; clear hK K) | (apply Exists.intro; refine ⟨fun _ => ?_, hK _ ?_⟩; (first | with_reducible exact CFX.out _ _ | with_reducible exact CT.out _ _); clear hK K)
              refine qw_take (by kernel_rfl) (fun K hK => ?_); go_simp; first | (refine hK _ ?_; clear hK K) | (apply Exists.intro; refine ⟨fun _ => ?_, hK _ ?_⟩; (first | with_reducible exact CFX.out _ _ | with_reducible exact CT.out _ _); clear hK K)
              refine qw_take (by kernel_rfl) (fun K hK => ?_); go_simp; first | (refine hK _ ?_; clear hK K) | (apply Exists.intro; refine ⟨fun _ => ?_, hK _ ?_⟩; (first | with_reducible exact CFX.out _ _ | with_reducible exact CT.out _ _); clear hK K)
              refine qw_take (by kernel_rfl) (fun K hK => ?_); go_simp; first | (refine hK _ ?_; clear hK K) | (apply Exists.intro; refine ⟨fun _ => ?_, hK _ ?_⟩; (first | with_reducible exact CFX.out _ _ | with_reducible exact CT.out _ _); clear hK K)
              refine qw_take (by kernel_rfl) (fun K hK => ?_); go_simp; first | (refine hK _ ?_; clear hK K) | (apply Exists.intro; refine ⟨fun _ => ?_, hK _ ?_⟩; (first | with_reducible exact CFX.out _ _ | with_reducible exact CT.out _ _); clear hK K)
              refine qw_nil ?_
              intro _ hw'
              obtain ⟨⟨dq, osq⟩, hw''⟩ := hw'
              subst hw''
              have HBL := Lib.hid (hBx.out.keep (below_regrown wx dq osq))
              clear c0 c1 c2' c3 c4 c5 k0 k1 CFX CT
              generalize Sort.grow (redrawn wx dq) osq = wl at *
              go_wp2_with fail
              go_ret
              exact ⟨ret_bool HNO.out, HBL.out.bel⟩
          · have hkm : k - 1 < len := by omega
            obtain ⟨b3, o3, pn, p0, p1, p2, p3, p4, hb3, g3, hq, hc3⟩ := HX.out.sk.at hkm
            cases hb3
            have HPV : Hid (∀ w', Below w.heap.size w w' → w'.cell? ⟨b1, o1 + (k - 1) * 6, none⟩ = some (.string pn)) := fun w' hb => (hc3 w' hb).1
            have hkn : ((k : Int) - 1).toNat = k - 1 := by omega
            have hwk : IntKind.i64.wrap ((k : Int) - 1) = ((k - 1 : Nat) : Int) := by rw [IntKind.wrap_i64]; omega
            have hk0' : (0 : Int) < (k : Int) := by omega
            clear hc3 g3
            cases hls : lss pn t with
            | false =>
              have HNO : Hid (v = false) := HV.out.symm.trans (fitB_no3 (hd.out.trans (sk_less hk0 hkx hp hq hls)))
              rcases leq_no hls with hb1 | ⟨hb1, hb2⟩
              · clear hd hp hkx hf hq hls
                obtain ⟨C0, C1, C2, C3, C4, C5⟩ := cells6 hX6.out
                have c0 := fun d os => cell_regrown C0 d os
                have c1 := fun d os => cell_regrown C1 d os
                have c2' := fun d os => cell_regrown C2 d os
                have c3 := fun d os => cell_regrown C3 d os
                have c4 := fun d os => cell_regrown C4 d os
                have c5 := fun d os => cell_regrown C5 d os
                have k0 := fun d os => cell_regrown (hBx.out.c0) d os
                have k1 := fun d os => cell_regrown (hBx.out.c1) d os
                have kp := fun d os => cell_regrown (HPV.out wx hBx.out.bel) d os
                clear C0 C1 C2 C3 C4 C5
                refine wp_region_qw (by kernel_rfl) (by kernel_rfl) ?_
                refine qw_take (by kernel_rfl) (fun K hK => ?_); go_simp; first | (refine hK _ ?_; clear hK K) | (apply Exists.intro; refine ⟨fun _ => ?_, hK _ ?_⟩; (first | with_reducible exact CFX.out _ _); clear hK K)
                refine qw_take (by kernel_rfl) (fun K hK => ?_); go_simp; first | (refine hK _ ?_; clear hK K) | (apply Exists.intro; refine ⟨fun _ => ?_, hK _ ?_⟩; (first | with_reducible exact CFX.out _ _); clear hK K)
                refine qw_take (by kernel_rfl) (fun K hK => ?_); go_simp; first | (refine hK _ ?_; clear hK K) | (apply Exists.intro; refine ⟨fun _ => ?_, hK _ ?_⟩; (first | with_reducible exact CFX.out _ _); clear hK K)
                refine qw_take (by kernel_rfl) (fun K hK => ?_); go_simp; first | (refine hK _ ?_; clear hK K) | (apply Exists.intro; refine ⟨fun _ => ?_, hK _ ?_⟩; (first | with_reducible exact CFX.out _ _); clear hK K)
                refine qw_take (by kernel_rfl) (fun K hK => ?_); go_simp; first | (refine hK _ ?_; clear hK K) | (apply Exists.intro; refine ⟨fun _ => ?_, hK _ ?_⟩; (first | with_reducible exact CFX.out _ _); clear hK K)
                refine qw_take (by kernel_rfl) (fun K hK => ?_); go_simp; first | (refine hK _ ?_; clear hK K) | (apply Exists.intro; refine ⟨fun _ => ?_, hK _ ?_⟩; (first | with_reducible exact CFX.out _ _); clear hK K)
                refine qw_take (by kernel_rfl) (fun K hK => ?_); go_simp; first | (refine hK _ ?_; clear hK K) | (apply Exists.intro; refine ⟨fun _ => ?_, hK _ ?_⟩; (first | with_reducible exact CFX.out _ _); clear hK K)
                refine qw_take (by kernel_rfl) (fun K hK => ?_); go_simp; first | (refine hK _ ?_; clear hK K) | (apply Exists.intro; refine ⟨fun _ => ?_, hK _ ?_⟩; (first | with_reducible exact CFX.out _ _); clear hK K)
                refine qw_take (by kernel_rfl) (fun K hK => ?_); go_simp; first | (refine hK _ ?_; clear hK K) | (apply Exists.intro; refine ⟨fun _ => ?_, hK _ ?_⟩; (first | with_reducible exact CFX.out _ _); clear hK K)
                refine qw_take (by kernel_rfl) (fun K hK => ?_); go_simp; first | (refine hK _ ?_; clear hK K) | (apply Exists.intro; refine ⟨fun _ => ?_, hK _ ?_⟩; (first | with_reducible exact CFX.out _ _); clear hK K)
                refine qw_take (by kernel_rfl) (fun K hK => ?_); go_simp; first | (refine hK _ ?_; clear hK K) | (apply Exists.intro; refine ⟨fun _ => ?_, hK _ ?_⟩; (first | with_reducible exact CFX.out _ _); clear hK K)
                refine qw_take (by kernel_rfl) (fun K hK => ?_); go_simp; first | (refine hK _ ?_; clear hK K) | (apply Exists.intro; refine ⟨fun _ => ?_, hK _ ?_⟩; (first | with_reducible exact CFX.out _ _); clear hK K)
                refine qw_take (by kernel_rfl) (fun K hK => ?_); go_simp; first | (refine hK _ ?_; clear hK K) | (apply Exists.intro; refine ⟨fun _ => ?_, hK _ ?_⟩; (first | with_reducible exact CFX.out _ _); clear hK K)
                refine qw_take (by kernel_rfl) (fun K hK => ?_); go_simp; first | (refine hK _ ?_; clear hK K) | (apply Exists.intro; refine ⟨fun _ => ?_, hK _ ?_⟩; (first | with_reducible exact CFX.out _ _); clear hK K)
                refine qw_take (by kernel_rfl) (fun K hK => ?_); go_simp; first | (refine hK _ ?_; clear hK K) | (apply Exists.intro; refine ⟨fun _ => ?_, hK _ ?_⟩; (first | with_reducible exact CFX.out _ _); clear hK K)
                refine qw_take (by kernel_rfl) (fun K hK => ?_); go_simp; first | (refine hK _ ?_; clear hK K) | (apply Exists.intro; refine ⟨fun _ => ?_, hK _ ?_⟩; (first | with_reducible exact CFX.out _ _); clear hK K)
                refine qw_take (by kernel_rfl) (fun K hK => ?_); go_simp; first | (refine hK _ ?_; clear hK K) | (apply Exists.intro; refine ⟨fun _ => ?_, hK _ ?_⟩; (first | with_reducible exact CFX.out _ _); clear hK K)
                refine qw_take (by kernel_rfl) (fun K hK => ?_); go_simp; first | (refine hK _ ?_; clear hK K) | (apply Exists.intro; refine ⟨fun _ => ?_, hK _ ?_⟩; (first | with_reducible exact CFX.out _ _); clear hK K)
                refine qw_take (by kernel_rfl) (fun K hK => ?_); go_simp; first | (refine hK _ ?_; clear hK K) | (apply Exists.intro; refine ⟨fun _ => ?_, hK _ ?_⟩; (first | with_reducible exact CFX.out _ _); clear hK K)
                refine qw_take (by kernel_rfl) (fun K hK => ?_); go_simp; first | (refine hK _ ?_; clear hK K) | (apply Exists.intro; refine ⟨fun _ => ?_, hK _ ?_⟩; (first | with_reducible exact CFX.out _ _); clear hK K)
                refine qw_skip (by kernel_rfl) ?_; simp only [Act.put, List.setIfInBounds_toArray, List.set_cons_succ, List.set_cons_zero]
                refine qw_skip (by kernel_rfl) ?_; simp only [Act.put, List.setIfInBounds_toArray, List.set_cons_succ, List.set_cons_zero]
                refine qw_skip (by kernel_rfl) ?_; simp only [Act.put, List.setIfInBounds_toArray, List.set_cons_succ, List.set_cons_zero]
                refine qw_skip (by kernel_rfl) ?_; simp only [Act.put, List.setIfInBounds_toArray, List.set_cons_succ, List.set_cons_zero]
                refine qw_skip (by kernel_rfl) ?_; simp only [Act.put, List.setIfInBounds_toArray, List.set_cons_succ, List.set_cons_zero]
                refine qw_skip (by kernel_rfl) ?_; simp only [Act.put, List.setIfInBounds_toArray, List.set_cons_succ, List.set_cons_zero]
                refine qw_skip (by kernel_rfl) ?_; simp only [Act.put, List.setIfInBounds_toArray, List.set_cons_succ, List.set_cons_zero]
                refine qw_skip (by kernel_rfl) ?_; simp only [Act.put, List.setIfInBounds_toArray, List.set_cons_succ, List.set_cons_zero]
                refine qw_take (by kernel_rfl) (fun K hK => ?_); go_simp; first | (refine hK _ ?_; clear hK K) | (apply Exists.intro; refine ⟨fun _ => ?_, hK _ ?_⟩; (first | with_reducible exact CFX.out _ _); clear hK K)
                refine qw_nil ?_
                intro _ hw'
                obtain ⟨⟨dq, osq⟩, hw''⟩ := hw'
                subst hw''
                have HBL := Lib.hid (hBx.out.keep (below_regrown wx dq osq))
                clear c0 c1 c2' c3 c4 c5 k0 k1 CFX kp
                generalize Sort.grow (redrawn wx dq) osq = wl at *
                go_wp2_with fail
                go_ret
                exact ⟨ret_bool HNO.out, HBL.out.bel⟩
              · clear hd hp hkx hf hq hls
                obtain ⟨C0, C1, C2, C3, C4, C5⟩ := cells6 hX6.out
                have c0 := fun d os => cell_regrown C0 d os
                have c1 := fun d os => cell_regrown C1 d os
                have c2' := fun d os => cell_regrown C2 d os
                have c3 := fun d os => cell_regrown C3 d os
                have c4 := fun d os => cell_regrown C4 d os
                have c5 := fun d os => cell_regrown C5 d os
                have k0 := fun d os => cell_regrown (hBx.out.c0) d os
                have k1 := fun d os => cell_regrown (hBx.out.c1) d os
                have kp := fun d os => cell_regrown (HPV.out wx hBx.out.bel) d os
                clear C0 C1 C2 C3 C4 C5
                refine wp_region_qw (by kernel_rfl) (by kernel_rfl) ?_
                refine qw_take (by kernel_rfl) (fun K hK => ?_); go_simp; first | (refine hK _ ?_; clear hK K) | (apply Exists.intro; refine ⟨fun _ => ?_, hK _ ?_⟩; (first | with_reducible exact CFX.out _ _); clear hK K)
                refine qw_take (by kernel_rfl) (fun K hK => ?_); go_simp; first | (refine hK _ ?_; clear hK K) | (apply Exists.intro; refine ⟨fun _ => ?_, hK _ ?_⟩; (first | with_reducible exact CFX.out _ _); clear hK K)
                refine qw_take (by kernel_rfl) (fun K hK => ?_); go_simp; first | (refine hK _ ?_; clear hK K) | (apply Exists.intro; refine ⟨fun _ => ?_, hK _ ?_⟩; (first | with_reducible exact CFX.out _ _); clear hK K)
                refine qw_take (by kernel_rfl) (fun K hK => ?_); go_simp; first | (refine hK _ ?_; clear hK K) | (apply Exists.intro; refine ⟨fun _ => ?_, hK _ ?_⟩; (first | with_reducible exact CFX.out _ _); clear hK K)
                refine qw_take (by kernel_rfl) (fun K hK => ?_); go_simp; first | (refine hK _ ?_; clear hK K) | (apply Exists.intro; refine ⟨fun _ => ?_, hK _ ?_⟩; (first | with_reducible exact CFX.out _ _); clear hK K)
                refine qw_take (by kernel_rfl) (fun K hK => ?_); go_simp; first | (refine hK _ ?_; clear hK K) | (apply Exists.intro; refine ⟨fun _ => ?_, hK _ ?_⟩; (first | with_reducible exact CFX.out _ _); clear hK K)
                refine qw_take (by kernel_rfl) (fun K hK => ?_); go_simp; first | (refine hK _ ?_; clear hK K) | (apply Exists.intro; refine ⟨fun _ => ?_, hK _ ?_⟩; (first | with_reducible exact CFX.out _ _); clear hK K)
                refine qw_take (by kernel_rfl) (fun K hK => ?_); go_simp; first | (refine hK _ ?_; clear hK K) | (apply Exists.intro; refine ⟨fun _ => ?_, hK _ ?_⟩; (first | with_reducible exact CFX.out _ _); clear hK K)
                refine qw_take (by kernel_rfl) (fun K hK => ?_); go_simp; first | (refine hK _ ?_; clear hK K) | (apply Exists.intro; refine ⟨fun _ => ?_, hK _ ?_⟩; (first | with_reducible exact CFX.out _ _); clear hK K)
                refine qw_take (by kernel_rfl) (fun K hK => ?_); go_simp; first | (refine hK _ ?_; clear hK K) | (apply Exists.intro; refine ⟨fun _ => ?_, hK _ ?_⟩; (first | with_reducible exact CFX.out _ _); clear hK K)
                refine qw_take (by kernel_rfl) (fun K hK => ?_); go_simp; first | (refine hK _ ?_; clear hK K) | (apply Exists.intro; refine ⟨fun _ => ?_, hK _ ?_⟩; (first | with_reducible exact CFX.out _ _); clear hK K)
                refine qw_take (by kernel_rfl) (fun K hK => ?_); go_simp; first | (refine hK _ ?_; clear hK K) | (apply Exists.intro; refine ⟨fun _ => ?_, hK _ ?_⟩; (first | with_reducible exact CFX.out _ _); clear hK K)
                refine qw_take (by kernel_rfl) (fun K hK => ?_); go_simp; first | (refine hK _ ?_; clear hK K) | (apply Exists.intro; refine ⟨fun _ => ?_, hK _ ?_⟩; (first | with_reducible exact CFX.out _ _); clear hK K)
                refine qw_take (by kernel_rfl) (fun K hK => ?_); go_simp; first | (refine hK _ ?_; clear hK K) | (apply Exists.intro; refine ⟨fun _ => ?_, hK _ ?_⟩; (first | with_reducible exact CFX.out _ _); clear hK K)
                refine qw_take (by kernel_rfl) (fun K hK => ?_); go_simp; first | (refine hK _ ?_; clear hK K) | (apply Exists.intro; refine ⟨fun _ => ?_, hK _ ?_⟩; (first | with_reducible exact CFX.out _ _); clear hK K)
                refine qw_take (by kernel_rfl) (fun K hK => ?_); go_simp; first | (refine hK _ ?_; clear hK K) | (apply Exists.intro; refine ⟨fun _ => ?_, hK _ ?_⟩; (first | with_reducible exact CFX.out _ _); clear hK K)
                refine qw_take (by kernel_rfl) (fun K hK => ?_); go_simp; first | (refine hK _ ?_; clear hK K) | (apply Exists.intro; refine ⟨fun _ => ?_, hK _ ?_⟩; (first | with_reducible exact CFX.out _ _); clear hK K)
                refine qw_take (by kernel_rfl) (fun K hK => ?_); go_simp; first | (refine hK _ ?_; clear hK K) | (apply Exists.intro; refine ⟨fun _ => ?_, hK _ ?_⟩; (first | with_reducible exact CFX.out _ _); clear hK K)
                refine qw_take (by kernel_rfl) (fun K hK => ?_); go_simp; first | (refine hK _ ?_; clear hK K) | (apply Exists.intro; refine ⟨fun _ => ?_, hK _ ?_⟩; (first | with_reducible exact CFX.out _ _); clear hK K)
                refine qw_take (by kernel_rfl) (fun K hK => ?_); go_simp; first | (refine hK _ ?_; clear hK K) | (apply Exists.intro; refine ⟨fun _ => ?_, hK _ ?_⟩; (first | with_reducible exact CFX.out _ _); clear hK K)
                refine qw_skip (by kernel_rfl) ?_; simp only [Act.put, List.setIfInBounds_toArray, List.set_cons_succ, List.set_cons_zero]
                refine qw_skip (by kernel_rfl) ?_; simp only [Act.put, List.setIfInBounds_toArray, List.set_cons_succ, List.set_cons_zero]
                refine qw_skip (by kernel_rfl) ?_; simp only [Act.put, List.setIfInBounds_toArray, List.set_cons_succ, List.set_cons_zero]
                refine qw_skip (by kernel_rfl) ?_; simp only [Act.put, List.setIfInBounds_toArray, List.set_cons_succ, List.set_cons_zero]
                refine qw_skip (by kernel_rfl) ?_; simp only [Act.put, List.setIfInBounds_toArray, List.set_cons_succ, List.set_cons_zero]
                refine qw_skip (by kernel_rfl) ?_; simp only [Act.put, List.setIfInBounds_toArray, List.set_cons_succ, List.set_cons_zero]
                refine qw_skip (by kernel_rfl) ?_; simp only [Act.put, List.setIfInBounds_toArray, List.set_cons_succ, List.set_cons_zero]
                refine qw_skip (by kernel_rfl) ?_; simp only [Act.put, List.setIfInBounds_toArray, List.set_cons_succ, List.set_cons_zero]
                refine qw_take (by kernel_rfl) (fun K hK => ?_); go_simp; first | (refine hK _ ?_; clear hK K) | (apply Exists.intro; refine ⟨fun _ => ?_, hK _ ?_⟩; (first | with_reducible exact CFX.out _ _); clear hK K)
                refine qw_nil ?_
                intro _ hw'
                obtain ⟨⟨dq, osq⟩, hw''⟩ := hw'
                subst hw''
                have HBL := Lib.hid (hBx.out.keep (below_regrown wx dq osq))
                clear c0 c1 c2' c3 c4 c5 k0 k1 CFX kp
                generalize Sort.grow (redrawn wx dq) osq = wl at *
                go_wp2_with fail
                go_ret
                exact ⟨ret_bool HNO.out, HBL.out.bel⟩
            | true =>
              obtain ⟨hb1, hb2⟩ := leq_yes hls
              have CT := Lib.hid (fun d os => Calls.regrown_of (vtotal_is a2 len2 cap2 b.hd t HFH.out (Sort.grow (redrawn wx d) os) (HX.out.hd.keep (hBx.out.keep (below_regrown wx d os)).bel) HZ.out.hd))
              by_cases hsm : x1 = sumH t b.hd
              · have hone : oneS b.hd ⟨t, x0, x1, x2, x3, x4⟩ = true := by unfold oneS; rw [hf]; simp [hsm]
                have HGO := Lib.hid (hd.out.trans (sk_go hk0 hkx hp hq hone hls))
                have hbq : (x1 != sumH t b.hd) = false := by simp [hsm]
                generalize sumH t b.hd = tot at CT hsm hbq
                clear hd hone hp hkx hf hsm hq hls
                obtain ⟨C0, C1, C2, C3, C4, C5⟩ := cells6 hX6.out
                have c0 := fun d os => cell_regrown C0 d os
                have c1 := fun d os => cell_regrown C1 d os
                have c2' := fun d os => cell_regrown C2 d os
                have c3 := fun d os => cell_regrown C3 d os
                have c4 := fun d os => cell_regrown C4 d os
                have c5 := fun d os => cell_regrown C5 d os
                have k0 := fun d os => cell_regrown (hBx.out.c0) d os
                have k1 := fun d os => cell_regrown (hBx.out.c1) d os
                have kp := fun d os => cell_regrown (HPV.out wx hBx.out.bel) d os
                clear C0 C1 C2 C3 C4 C5
                refine wp_region_qw (by kernel_rfl) (by kernel_rfl) ?_
                refine qw_take (by kernel_rfl) (fun K hK => ?_); go_simp; first | (refine hK _ ?_; clear hK K) | (apply Exists.intro; refine ⟨fun _ => ?_, hK _ ?_⟩; (first | with_reducible exact CFX.out _ _ | with_reducible exact CT.out _ _); clear hK K)
                refine qw_take (by kernel_rfl) (fun K hK => ?_); go_simp; first | (refine hK _ ?_; clear hK K) | (apply Exists.intro; refine ⟨fun _ => ?_, hK _ ?_⟩; (first | with_reducible exact CFX.out _ _ | with_reducible exact CT.out _ _); clear hK K)
                refine qw_take (by kernel_rfl) (fun K hK => ?_); go_simp; first | (refine hK _ ?_; clear hK K) | (apply Exists.intro; refine ⟨fun _ => ?_, hK _ ?_⟩; (first | with_reducible exact CFX.out _ _ | with_reducible exact CT.out _ _); clear hK K)
                refine qw_take (by kernel_rfl) (fun K hK => ?_); go_simp; first | (refine hK _ ?_; clear hK K) | (apply Exists.intro; refine ⟨fun _ => ?_, hK _ ?_⟩; (first | with_reducible exact CFX.out _ _ | with_reducible exact CT.out _ _); clear hK K)
                refine qw_take (by kernel_rfl) (fun K hK => ?_); go_simp; first | (refine hK _ ?_; clear hK K) | (apply Exists.intro; refine ⟨fun _ => ?_, hK _ ?_⟩; (first | with_reducible exact CFX.out _ _ | with_reducible exact CT.out _ _); clear hK K)
                refine qw_take (by kernel_rfl) (fun K hK => ?_); go_simp; first | (refine hK _ ?_; clear hK K) | (apply Exists.intro; refine ⟨fun _ => ?_, hK _ ?_⟩; (first | with_reducible exact CFX.out _ _ | with_reducible exact CT.out _ _); clear hK K)
                refine qw_take (by kernel_rfl) (fun K hK => ?_); go_simp; first | (refine hK _ ?_; clear hK K) | (apply Exists.intro; refine ⟨fun _ => ?_, hK _ ?_⟩; (first | with_reducible exact CFX.out _ _ | with_reducible exact CT.out _ _); clear hK K)
                refine qw_take (by kernel_rfl) (fun K hK => ?_); go_simp; first | (refine hK _ ?_; clear hK K) | (apply Exists.intro; refine ⟨fun _ => ?_, hK _ ?_⟩; (first | with_reducible exact CFX.out _ _ | with_reducible exact CT.out _ _); clear hK K)
                refine qw_take (by kernel_rfl) (fun K hK => ?_); go_simp; first | (refine hK _ ?_; clear hK K) | (apply Exists.intro; refine ⟨fun _ => ?_, hK _ ?_⟩; (first | with_reducible exact CFX.out _ _ | with_reducible exact CT.out _ _); clear hK K)
                refine qw_take (by kernel_rfl) (fun K hK => ?_); go_simp; first | (refine hK _ ?_; clear hK K) | (apply Exists.intro; refine ⟨fun _ => ?_, hK _ ?_⟩; (first | with_reducible exact CFX.out _ _ | with_reducible exact CT.out _ _); clear hK K)
                refine qw_take (by kernel_rfl) (fun K hK => ?_); go_simp; first | (refine hK _ ?_; clear hK K) | (apply Exists.intro; refine ⟨fun _ => ?_, hK _ ?_⟩; (first | with_reducible exact CFX.out _ _ | with_reducible exact CT.out _ _); clear hK K)
                refine qw_take (by kernel_rfl) (fun K hK => ?_); go_simp; first | (refine hK _ ?_; clear hK K) | (apply Exists.intro; refine ⟨fun _ => ?_, hK _ ?_⟩; (first | with_reducible exact CFX.out _ _ | with_reducible exact CT.out _ _); clear hK K)
                refine qw_take (by kernel_rfl) (fun K hK => ?_); go_simp; first | (refine hK _ ?_; clear hK K) | (apply Exists.intro; refine ⟨fun _ => ?_, hK _ ?_⟩; (first | with_reducible exact CFX.out _ _ | with_reducible exact CT.out _ _); clear hK K)
                refine qw_take (by kernel_rfl) (fun K hK => ?_); go_simp; first | (refine hK _ ?_; clear hK K) | (apply Exists.intro; refine ⟨fun _ => ?_, hK _ ?_⟩; (first | with_reducible exact CFX.out _ _ | with_reducible exact CT.out _ _); clear hK K)
                refine qw_take (by kernel_rfl) (fun K hK => ?_); go_simp; first | (refine hK _ ?_; clear hK K) | (apply Exists.intro; refine ⟨fun _ => ?_, hK _ ?_⟩; (first | with_reducible exact CFX.out _ _ | with_reducible exact CT.out _ _); clear hK K)
                refine qw_take (by kernel_rfl) (fun K hK => ?_); go_simp; first | (refine hK _ ?_; clear hK K) | (apply Exists.intro; refine ⟨fun _ => ?_, hK _ ?_⟩; (first | with_reducible exact CFX.out _ _ | with_reducible exact CT.out _ _); clear hK K)
                refine qw_take (by kernel_rfl) (fun K hK => ?_); go_simp; first | (refine hK _ ?_; clear hK K) | (apply Exists.intro; refine ⟨fun _ => ?_, hK _ ?_⟩; (first | with_reducible exact CFX.out _ _ | with_reducible exact CT.out _ _); clear hK K)
                refine qw_take (by kernel_rfl) (fun K hK => ?_); go_simp; first | (refine hK _ ?_; clear hK K) | (apply Exists.intro; refine ⟨fun _ => ?_, hK _ ?_⟩; (first | with_reducible exact CFX.out _ _ | with_reducible exact CT.out _ _); clear hK K)
                refine qw_take (by kernel_rfl) (fun K hK => ?_); go_simp; first | (refine hK _ ?_; clear hK K) | (apply Exists.intro; refine ⟨fun _ => ?_, hK _ ?_⟩; (first | with_reducible exact CFX.out _ _ | with_reducible exact CT.out _ _); clear hK K)
                refine qw_take (by kernel_rfl) (fun K hK => ?_); go_simp; first | (refine hK _ ?_; clear hK K) | (apply Exists.intro; refine ⟨fun _ => ?_, hK _ ?_⟩; (first | with_reducible exact CFX.out _ _ | with_reducible exact CT.out _ _); clear hK K)
                refine qw_take (by kernel_rfl) (fun K hK => ?_); go_simp; first | (refine hK _ ?_; clear hK K) | (apply Exists.intro; refine ⟨fun _ => ?_, hK _ ?_⟩; (first | with_reducible exact CFX.out _ _ | with_reducible exact CT.out _ _); clear hK K)
                refine qw_take (by kernel_rfl) (fun K hK => ?_); go_simp; first | (refine hK _ ?_; clear hK K) | (apply Exists.intro; refine ⟨fun _ => ?_, hK _ ?_⟩; (first | with_reducible exact CFX.out _ _ | with_reducible exact CT.out _ _); clear hK K)
                refine qw_take (by kernel_rfl) (fun K hK => ?_); go_simp; first | (refine hK _ ?_; clear hK K) | (apply Exists.intro; refine ⟨fun _ => ?_, hK _ ?_⟩; (first | with_reducible exact CFX.out _ _ | with_reducible exact CT.out _ _); clear hK K)
                refine qw_take (by kernel_rfl) (fun K hK => ?_); go_simp; first | (refine hK _ ?_; clear hK K) | (apply Exists.intro; refine ⟨fun _ => ?_, hK _ ?_⟩; (first | with_reducible exact CFX.out _ _ | with_reducible exact CT.out _ _); clear hK K)
                refine qw_take (by kernel_rfl) (fun K hK => ?_); go_simp; first | (refine hK _ ?_; clear hK K) | (apply Exists.intro; refine ⟨fun _ => ?_, hK _ ?_⟩; (first | with_reducible exact CFX.out _ _ | with_reducible exact CT.out _ _); clear hK K)
                refine qw_take (by kernel_rfl) (fun K hK => ?_); go_simp; first | (refine hK _ ?_; clear hK K) | (apply Exists.intro; refine ⟨fun _ => ?_, hK _ ?_⟩; (first | with_reducible exact CFX.out _ _ | with_reducible exact CT.out _ _); clear hK K)
                refine qw_take (by kernel_rfl) (fun K hK => ?_); go_simp; first | (refine hK _ ?_; clear hK K) | (apply Exists.intro; refine ⟨fun _ => ?_, hK _ ?_⟩; (first | with_reducible exact CFX.out _ _ | with_reducible exact CT.out _ _); clear hK K)
                refine qw_take (by kernel_rfl) (fun K hK => ?_); go_simp; first | (refine hK _ ?_; clear hK K) | (apply Exists.intro; refine ⟨fun _ => ?_, hK _ ?_⟩; (first | with_reducible exact CFX.out _ _ | with_reducible exact CT.out _ _); clear hK K)
                refine qw_take (by kernel_rfl) (fun K hK => ?_); go_simp; first | (refine hK _ ?_; clear hK K) | (apply Exists.intro; refine ⟨fun _ => ?_, hK _ ?_⟩; (first | with_reducible exact CFX.out _ _ | with_reducible exact CT.out _ _); clear hK K)
                refine qw_nil ?_
                intro _ hw'
                obtain ⟨⟨dq, osq⟩, hw''⟩ := hw'
                subst hw''
                have HBL := Lib.hid (hBx.out.keep (below_regrown wx dq osq))
                clear c0 c1 c2' c3 c4 c5 k0 k1 CFX CT kp
                generalize Sort.grow (redrawn wx dq) osq = wl at *
                go_wp2_with fail
                go_roundw
                case rel => exact ⟨k + 1, by omega, by go_num, HGO, HBL⟩
                case measure => simp [intOf]; omega
              · have hone : oneS b.hd ⟨t, x0, x1, x2, x3, x4⟩ = false := by unfold oneS; rw [hf]; simp [hsm]
                have HNO : Hid (v = false) := HV.out.symm.trans (fitB_no3 (hd.out.trans (sk_no hkx hp hone)))
                have hbq : (x1 != sumH t b.hd) = true := by simp [hsm]
                generalize sumH t b.hd = tot at CT hsm hbq
                clear hd hone hp hkx hf hsm hq hls
                obtain ⟨C0, C1, C2, C3, C4, C5⟩ := cells6 hX6.out
                have c0 := fun d os => cell_regrown C0 d os
                have c1 := fun d os => cell_regrown C1 d os
                have c2' := fun d os => cell_regrown C2 d os
                have c3 := fun d os => cell_regrown C3 d os
                have c4 := fun d os => cell_regrown C4 d os
                have c5 := fun d os => cell_regrown C5 d os
                have k0 := fun d os => cell_regrown (hBx.out.c0) d os
                have k1 := fun d os => cell_regrown (hBx.out.c1) d os
                have kp := fun d os => cell_regrown (HPV.out wx hBx.out.bel) d os
                clear C0 C1 C2 C3 C4 C5
                refine wp_region_qw (by kernel_rfl) (by kernel_rfl) ?_
                refine qw_take (by kernel_rfl) (fun K hK => ?_); go_simp; first | (refine hK _ ?_; clear hK K) | (apply Exists.intro; refine ⟨fun _ => ?_, hK _ ?_⟩; (first | with_reducible exact CFX.out _ _ | with_reducible exact CT.out _ _); clear hK K)
                refine qw_take (by kernel_rfl) (fun K hK => ?_); go_simp; first | (refine hK _ ?_; clear hK K) | (apply Exists.intro; refine ⟨fun _ => ?_, hK _ ?_⟩; (first | with_reducible exact CFX.out _ _ | with_reducible exact CT.out _ _); clear hK K)
                refine qw_take (by kernel_rfl) (fun K hK => ?_); go_simp; first | (refine hK _ ?_; clear hK K) | (apply Exists.intro; refine ⟨fun _ => ?_, hK _ ?_⟩; (first | with_reducible exact CFX.out _ _ | with_reducible exact CT.out _ _); clear hK K)
                refine qw_take (by kernel_rfl) (fun K hK => ?_); go_simp; first | (refine hK _ ?_; clear hK K) | (apply Exists.intro; refine ⟨fun _ => ?_, hK _ ?_⟩; (first | with_reducible exact CFX.out _ _ | with_reducible exact CT.out _ _); clear hK K)
                refine qw_take (by kernel_rfl) (fun K hK => ?_); go_simp; first | (refine hK _ ?_; clear hK K) | (apply Exists.intro; refine ⟨fun _ => ?_, hK _ ?_⟩; (first | with_reducible exact CFX.out _ _ | with_reducible exact CT.out _ _); clear hK K)
                refine qw_take (by kernel_rfl) (fun K hK => ?_); go_simp; first | (refine hK _ ?_; clear hK K) | (apply Exists.intro; refine ⟨fun _ => ?_, hK _ ?_⟩; (first | with_reducible exact CFX.out _ _ | with_reducible exact CT.out _ _); clear hK K)
                refine qw_take (by kernel_rfl) (fun K hK => ?_); go_simp; first | (refine hK _ ?_; clear hK K) | (apply Exists.intro; refine ⟨fun _ => ?_, hK _ ?_⟩; (first | with_reducible exact CFX.out _ _ | with_reducible exact CT.out _ _); clear hK K)
                refine qw_take (by kernel_rfl) (fun K hK => ?_); go_simp; first | (refine hK _ ?_; clear hK K) | (apply Exists.intro; refine ⟨fun _ => ?_, hK _ ?_⟩; (first | with_reducible exact CFX.out _ _ | with_reducible exact CT.out _ _); clear hK K)
                refine qw_take (by kernel_rfl) (fun K hK => ?_); go_simp; first | (refine hK _ ?_; clear hK K) | (apply Exists.intro; refine ⟨fun _ => ?_, hK _ ?_⟩; (first | with_reducible exact CFX.out _ _ | with_reducible exact CT.out _ _); clear hK K)
                refine qw_take (by kernel_rfl) (fun K hK => ?_); go_simp; first | (refine hK _ ?_; clear hK K) | (apply Exists.intro; refine ⟨fun _ => ?_, hK _ ?_⟩; (first | with_reducible exact CFX.out _ _ | with_reducible exact CT.out _ _); clear hK K)
                refine qw_take (by kernel_rfl) (fun K hK => ?_); go_simp; first | (refine hK _ ?_; clear hK K) | (apply Exists.intro; refine ⟨fun _ => ?_, hK _ ?_⟩; (first | with_reducible exact CFX.out _ _ | with_reducible exact CT.out _ _); clear hK K)
                refine qw_take (by kernel_rfl) (fun K hK => ?_); go_simp; first | (refine hK _ ?_; clear hK K) | (apply Exists.intro; refine ⟨fun _ => ?_, hK _ ?_⟩; (first | with_reducible exact CFX.out _ _ | with_reducible exact CT.out _ _); clear hK K)
                refine qw_take (by kernel_rfl) (fun K hK => ?_); go_simp; first | (refine hK _ ?_; clear hK K) | (apply Exists.intro; refine ⟨fun _ => ?_, hK _ ?_⟩; (first | with_reducible exact CFX.out _ _ | with_reducible exact CT.out _ _); clear hK K)
                refine qw_take (by kernel_rfl) (fun K hK => ?_); go_simp; first | (refine hK _ ?_; clear hK K) | (apply Exists.intro; refine ⟨fun _ => ?_, hK _ ?_⟩; (first | with_reducible exact CFX.out _ _ | with_reducible exact CT.out _ _); clear hK K)
                refine qw_take (by kernel_rfl) (fun K hK => ?_); go_simp; first | (refine hK _ ?_; clear hK K) | (apply Exists.intro; refine ⟨fun _ => ?_, hK _ ?_⟩; (first | with_reducible exact CFX.out _ _ | with_reducible exact CT.out _ _); clear hK K)
                refine qw_take (by kernel_rfl) (fun K hK => ?_); go_simp; first | (refine hK _ ?_; clear hK K) | (apply Exists.intro; refine ⟨fun _ => ?_, hK _ ?_⟩; (first | with_reducible exact CFX.out _ _ | with_reducible exact CT.out _ _); clear hK K)
                refine qw_take (by kernel_rfl) (fun K hK => ?_); go_simp; first | (refine hK _ ?_; clear hK K) | (apply Exists.intro; refine ⟨fun _ => ?_, hK _ ?_⟩; (first | with_reducible exact CFX.out _ _ | with_reducible exact CT.out _ _); clear hK K)
                refine qw_take (by kernel_rfl) (fun K hK => ?_); go_simp; first | (refine hK _ ?_; clear hK K) | (apply Exists.intro; refine ⟨fun _ => ?_, hK _ ?_⟩; (first | with_reducible exact CFX.out _ _ | with_reducible exact CT.out _ _); clear hK K)
                refine qw_take (by kernel_rfl) (fun K hK => ?_); go_simp; first | (refine hK _ ?_; clear hK K) | (apply Exists.intro; refine ⟨fun _ => ?_, hK _ ?_⟩; (first | with_reducible exact CFX.out _ _ | with_reducible exact CT.out _ _); clear hK K)
                refine qw_take (by kernel_rfl) (fun K hK => ?_); go_simp; first | (refine hK _ ?_; clear hK K) | (apply Exists.intro; refine ⟨fun _ => ?_, hK _ ?_⟩; (first | with_reducible exact CFX.out _ _ | with_reducible exact CT.out _ _); clear hK K)
                refine qw_take (by kernel_rfl) (fun K hK => ?_); go_simp; first | (refine hK _ ?_; clear hK K) | (apply Exists.intro; refine ⟨fun _ => ?_, hK _ ?_⟩; (first | with_reducible exact CFX.out _ _ | with_reducible exact CT.out _ _); clear hK K)
                refine qw_take (by kernel_rfl) (fun K hK => ?_); go_simp; first | (refine hK _ ?_; clear hK K) | (apply Exists.intro; refine ⟨fun _ => ?_, hK _ ?_⟩; (first | with_reducible exact CFX.out _ _ | with_reducible exact CT.out _ _); clear hK K)
                refine qw_take (by kernel_rfl) (fun K hK => ?_); go_simp; first | (refine hK _ ?_; clear hK K) | (apply Exists.intro; refine ⟨fun _ => ?_, hK _ ?_⟩; (first | with_reducible exact CFX.out _ _ | with_reducible exact CT.out _ _); clear hK K)
                refine qw_take (by kernel_rfl) (fun K hK => ?_); go_simp; first | (refine hK _ ?_; clear hK K) | (apply Exists.intro; refine ⟨fun _ => ?_, hK _ ?_⟩; (first | with_reducible exact CFX.out _ _ | with_reducible exact CT.out _ _); clear hK K)
                refine qw_take (by kernel_rfl) (fun K hK => ?_); go_simp; first | (refine hK _ ?_; clear hK K) | (apply Exists.intro; refine ⟨fun _ => ?_, hK _ ?_⟩; (first | with_reducible exact CFX.out _ _ | with_reducible exact CT.out _ _); clear hK K)
                refine qw_take (by kernel_rfl) (fun K hK => ?_); go_simp; first | (refine hK _ ?_; clear hK K) | (apply Exists.intro; refine ⟨fun _ => ?_, hK _ ?_⟩; (first | with_reducible exact CFX.out _ _ | with_reducible exact CT.out _ _); clear hK K)
                refine qw_take (by kernel_rfl) (fun K hK => ?_); go_simp; first | (refine hK _ ?_; clear hK K) | (apply Exists.intro; refine ⟨fun _ => ?_, hK _ ?_⟩; (first | with_reducible exact CFX.out _ _ | with_reducible exact CT.out _ _); clear hK K)
                refine qw_take (by kernel_rfl) (fun K hK => ?_); go_simp; first | (refine hK _ ?_; clear hK K) | (apply Exists.intro; refine ⟨fun _ => ?_, hK _ ?_⟩; (first | with_reducible exact CFX.out _ _ | with_reducible exact CT.out _ _); clear hK K)
                refine qw_take (by kernel_rfl) (fun K hK => ?_); go_simp; first | (refine hK _ ?_; clear hK K) | (apply Exists.intro; refine ⟨fun _ => ?_, hK _ ?_⟩; (first | with_reducible exact CFX.out _ _ | with_reducible exact CT.out _ _); clear hK K)
                refine qw_nil ?_
                intro _ hw'
                obtain ⟨⟨dq, osq⟩, hw''⟩ := hw'
                subst hw''
                have HBL := Lib.hid (hBx.out.keep (below_regrown wx dq osq))
                clear c0 c1 c2' c3 c4 c5 k0 k1 CFX CT kp
                generalize Sort.grow (redrawn wx dq) osq = wl at *
                go_wp2_with fail
                go_ret
                exact ⟨ret_bool HNO.out, HBL.out.bel⟩
      · obtain rfl : k = len := by omega
        have HSK := Lib.hid (hd.out.trans (sk_done (by omega)))
        have hvp : v = presB b.sk b.hd := HV.out.symm.trans (fitB_last (by omega) HFH.out HSK.out)
        have HVP := Lib.hid hvp
        clear hd hvp
        go_wp2_with fail
        go_loopw [5] (fun i wr2 => ∃ q : Nat, q ≤ len2 ∧ i = .int .i64 (q : Int) ∧ Hid (v = presB b.sk (b.hd.drop q)) ∧ Hid (BB w wr2 a k cap a2 len2 cap2)) (fun i _ => len2 - (intOf i).toNat)
        case atStart => exact ⟨0, Nat.zero_le _, rfl, HVP, hB⟩
        case round =>
          obtain ⟨q, hq, rfl, hdq, hB2⟩ := hrel
          have k0' := hB2.out.c0
          have k1' := hB2.out.c1
          by_cases hlq : q < len2
          · have hqx : q < b.hd.length := by rw [HX.out.hd.len]; exact hlq
            obtain ⟨b5, o5, sg, la, lc, ls, tt, rfl, g5, hp5, hc5⟩ := HX.out.hd.at hlq
            obtain ⟨n, hn⟩ : ∃ n, ls.length = n := ⟨_, rfl⟩
            rw [hn] at hc5
            have hln := HZ.out.ls _ (Holds.mem_getD hqx)
            rw [hp5] at hln
            simp only at hln
            rw [hn] at hln
            have HC5 := Lib.hid hc5
            have HLS := Lib.hid (hc5 w (Below.refl _ w)).2.2.2
            have hstart : v = (presL b.sk (ls.drop 0) && presB b.sk (b.hd.drop (q + 1))) := by
              rw [hdq.out, drop_at hqx hp5, presB_cons]; rfl
            have HST := Lib.hid hstart
            clear hc5 hstart hdq hn hqx hp5
            go_wp2_with fail
            go_loopw [6] (fun j wr3 => ∃ m : Nat, m ≤ n ∧ j = .int .i64 (m : Int) ∧ Hid (v = (presL b.sk (ls.drop m) && presB b.sk (b.hd.drop (q + 1)))) ∧ Hid (BB w wr3 a k cap (some ⟨b5, o5, none⟩) len2 cap2)) (fun j _ => n - (intOf j).toNat)
            case atStart => exact ⟨0, Nat.zero_le _, rfl, HST, hB2⟩
            case round =>
              obtain ⟨m, hm, rfl, hdm, hB3⟩ := hrel
              have m0 := hB3.out.c0
              have m1 := hB3.out.c1
              obtain ⟨e1, e2, e3, dL⟩ := HC5.out wr hB3.out.bel
              by_cases hmn : m < n
              · have hmx : m < ls.length := by rw [HLS.out.1]; exact hmn
                obtain ⟨b6, o6, z, zq, rfl, g6, hp6, hmem6, hc6⟩ := ls_at HLS.out hmn
                have hix := ixS_find z b.sk 0
                obtain ⟨ix, hixv⟩ : ∃ ix, ixS z 0 b.sk = ix := ⟨_, rfl⟩
                have CP := Lib.hid (fun d os => Calls.regrown_of (rplace_any a k cap b.sk z ix hixv (Sort.grow (redrawn wr d) os) (HX.out.sk.keep (hB3.out.keep (below_regrown wr d os)).bel)))
                have HC6 := Lib.hid hc6
                clear dL hc6 g6 hmem6
                rcases hix with ⟨hfn, hi⟩ | ⟨p, hpl, hi, hfn⟩
                · have hneg : ix = -1 := hixv.symm.trans hi
                  subst hneg
                  have HNO : Hid (v = false) := by
                    show v = false
                    rw [hdm.out, presL_no hmx hp6 hfn]; rfl
                  clear hi hfn hixv hdm hp6 hmx
                  go_wp2_with fail
                  have k0 := fun d os => cell_regrown hB3.out.c0 d os
                  have k1 := fun d os => cell_regrown hB3.out.c1 d os
                  have k2 := fun d os => cell_regrown (HC5.out wr hB3.out.bel).2.1 d os
                  have k3 := fun d os => cell_regrown (HC6.out wr hB3.out.bel).1 d os
                  clear m0 m1 e1 e2 e3
                  refine wp_region_qw (by kernel_rfl) (by kernel_rfl) ?_
                  refine qw_take (by kernel_rfl) (fun K hK => ?_); go_simp; first | (refine hK _ ?_; clear hK K) | (apply Exists.intro; refine ⟨fun _ => ?_, hK _ ?_⟩; (first | with_reducible exact CP.out _ _); clear hK K)
                  refine qw_take (by kernel_rfl) (fun K hK => ?_); go_simp; first | (refine hK _ ?_; clear hK K) | (apply Exists.intro; refine ⟨fun _ => ?_, hK _ ?_⟩; (first | with_reducible exact CP.out _ _); clear hK K)
                  refine qw_take (by kernel_rfl) (fun K hK => ?_); go_simp; first | (refine hK _ ?_; clear hK K) | (apply Exists.intro; refine ⟨fun _ => ?_, hK _ ?_⟩; (first | with_reducible exact CP.out _ _); clear hK K)
                  refine qw_take (by kernel_rfl) (fun K hK => ?_); go_simp; first | (refine hK _ ?_; clear hK K) | (apply Exists.intro; refine ⟨fun _ => ?_, hK _ ?_⟩; (first | with_reducible exact CP.out _ _); clear hK K)
                  refine qw_take (by kernel_rfl) (fun K hK => ?_); go_simp; first | (refine hK _ ?_; clear hK K) | (apply Exists.intro; refine ⟨fun _ => ?_, hK _ ?_⟩; (first | with_reducible exact CP.out _ _); clear hK K)
                  refine qw_take (by kernel_rfl) (fun K hK => ?_); go_simp; first | (refine hK _ ?_; clear hK K) | (apply Exists.intro; refine ⟨fun _ => ?_, hK _ ?_⟩; (first | with_reducible exact CP.out _ _); clear hK K)
                  refine qw_take (by kernel_rfl) (fun K hK => ?_); go_simp; first | (refine hK _ ?_; clear hK K) | (apply Exists.intro; refine ⟨fun _ => ?_, hK _ ?_⟩; (first | with_reducible exact CP.out _ _); clear hK K)
                  refine qw_take (by kernel_rfl) (fun K hK => ?_); go_simp; first | (refine hK _ ?_; clear hK K) | (apply Exists.intro; refine ⟨fun _ => ?_, hK _ ?_⟩; (first | with_reducible exact CP.out _ _); clear hK K)
                  refine qw_take (by kernel_rfl) (fun K hK => ?_); go_simp; first | (refine hK _ ?_; clear hK K) | (apply Exists.intro; refine ⟨fun _ => ?_, hK _ ?_⟩; (first | with_reducible exact CP.out _ _); clear hK K)
                  refine qw_take (by kernel_rfl) (fun K hK => ?_); go_simp; first | (refine hK _ ?_; clear hK K) | (apply Exists.intro; refine ⟨fun _ => ?_, hK _ ?_⟩; (first | with_reducible exact CP.out _ _); clear hK K)
                  refine qw_take (by kernel_rfl) (fun K hK => ?_); go_simp; first | (refine hK _ ?_; clear hK K) | (apply Exists.intro; refine ⟨fun _ => ?_, hK _ ?_⟩; (first | with_reducible exact CP.out _ _); clear hK K)
                  refine qw_take (by kernel_rfl) (fun K hK => ?_); go_simp; first | (refine hK _ ?_; clear hK K) | (apply Exists.intro; refine ⟨fun _ => ?_, hK _ ?_⟩; (first | with_reducible exact CP.out _ _); clear hK K)
                  refine qw_take (by kernel_rfl) (fun K hK => ?_); go_simp; first | (refine hK _ ?_; clear hK K) | (apply Exists.intro; refine ⟨fun _ => ?_, hK _ ?_⟩; (first | with_reducible exact CP.out _ _); clear hK K)
                  refine qw_take (by kernel_rfl) (fun K hK => ?_); go_simp; first | (refine hK _ ?_; clear hK K) | (apply Exists.intro; refine ⟨fun _ => ?_, hK _ ?_⟩; (first | with_reducible exact CP.out _ _); clear hK K)
                  refine qw_nil ?_
                  intro _ hw'
                  obtain ⟨⟨dq, osq⟩, hw''⟩ := hw'
                  subst hw''
                  have HBL := Lib.hid (hB3.out.keep (below_regrown wr dq osq))
                  clear k0 k1 k2 k3 CP
                  generalize Sort.grow (redrawn wr dq) osq = wl at *
                  go_wp2_with fail
                  go_ret
                  exact ⟨ret_bool HNO.out, HBL.out.bel⟩
                · rw [Nat.zero_add] at hi
                  have hpos : ix = (p : Int) := hixv.symm.trans hi
                  subst hpos
                  have HGO : Hid (v = (presL b.sk (ls.drop (m + 1)) && presB b.sk (b.hd.drop (q + 1)))) := by
                    show v = _
                    rw [hdm.out, presL_go hmx hp6 hfn]
                  have hpn : ¬ ((p : Int) < 0) := by omega
                  clear hi hfn hixv hdm hp6 hmx
                  go_wp2_with fail
                  have k0 := fun d os => cell_regrown hB3.out.c0 d os
                  have k1 := fun d os => cell_regrown hB3.out.c1 d os
                  have k2 := fun d os => cell_regrown (HC5.out wr hB3.out.bel).2.1 d os
                  have k3 := fun d os => cell_regrown (HC6.out wr hB3.out.bel).1 d os
                  clear m0 m1 e1 e2 e3
                  refine wp_region_qw (by kernel_rfl) (by kernel_rfl) ?_
                  refine qw_take (by kernel_rfl) (fun K hK => ?_); go_simp; first | (refine hK _ ?_; clear hK K) | (apply Exists.intro; refine ⟨fun _ => ?_, hK _ ?_⟩; (first | with_reducible exact CP.out _ _); clear hK K)
                  refine qw_take (by kernel_rfl) (fun K hK => ?_); go_simp; first | (refine hK _ ?_; clear hK K) | (apply Exists.intro; refine ⟨fun _ => ?_, hK _ ?_⟩; (first | with_reducible exact CP.out _ _); clear hK K)
                  refine qw_take (by kernel_rfl) (fun K hK => ?_); go_simp; first | (refine hK _ ?_; clear hK K) | (apply Exists.intro; refine ⟨fun _ => ?_, hK _ ?_⟩; (first | with_reducible exact CP.out _ _); clear hK K)
                  refine qw_take (by kernel_rfl) (fun K hK => ?_); go_simp; first | (refine hK _ ?_; clear hK K) | (apply Exists.intro; refine ⟨fun _ => ?_, hK _ ?_⟩; (first | with_reducible exact CP.out _ _); clear hK K)
                  refine qw_take (by kernel_rfl) (fun K hK => ?_); go_simp; first | (refine hK _ ?_; clear hK K) | (apply Exists.intro; refine ⟨fun _ => ?_, hK _ ?_⟩; (first | with_reducible exact CP.out _ _); clear hK K)
                  refine qw_take (by kernel_rfl) (fun K hK => ?_); go_simp; first | (refine hK _ ?_; clear hK K) | (apply Exists.intro; refine ⟨fun _ => ?_, hK _ ?_⟩; (first | with_reducible exact CP.out _ _); clear hK K)
                  refine qw_take (by kernel_rfl) (fun K hK => ?_); go_simp; first | (refine hK _ ?_; clear hK K) | (apply Exists.intro; refine ⟨fun _ => ?_, hK _ ?_⟩; (first | with_reducible exact CP.out _ _); clear hK K)
                  refine qw_take (by kernel_rfl) (fun K hK => ?_); go_simp; first | (refine hK _ ?_; clear hK K) | (apply Exists.intro; refine ⟨fun _ => ?_, hK _ ?_⟩; (first | with_reducible exact CP.out _ _); clear hK K)
                  refine qw_take (by kernel_rfl) (fun K hK => ?_); go_simp; first | (refine hK _ ?_; clear hK K) | (apply Exists.intro; refine ⟨fun _ => ?_, hK _ ?_⟩; (first | with_reducible exact CP.out _ _); clear hK K)
                  refine qw_take (by kernel_rfl) (fun K hK => ?_); go_simp; first | (refine hK _ ?_; clear hK K) | (apply Exists.intro; refine ⟨fun _ => ?_, hK _ ?_⟩; (first | with_reducible exact CP.out _ _); clear hK K)
                  refine qw_take (by kernel_rfl) (fun K hK => ?_); go_simp; first | (refine hK _ ?_; clear hK K) | (apply Exists.intro; refine ⟨fun _ => ?_, hK _ ?_⟩; (first | with_reducible exact CP.out _ _); clear hK K)
                  refine qw_take (by kernel_rfl) (fun K hK => ?_); go_simp; first | (refine hK _ ?_; clear hK K) | (apply Exists.intro; refine ⟨fun _ => ?_, hK _ ?_⟩; (first | with_reducible exact CP.out _ _); clear hK K)
                  refine qw_take (by kernel_rfl) (fun K hK => ?_); go_simp; first | (refine hK _ ?_; clear hK K) | (apply Exists.intro; refine ⟨fun _ => ?_, hK _ ?_⟩; (first | with_reducible exact CP.out _ _); clear hK K)
                  refine qw_take (by kernel_rfl) (fun K hK => ?_); go_simp; first | (refine hK _ ?_; clear hK K) | (apply Exists.intro; refine ⟨fun _ => ?_, hK _ ?_⟩; (first | with_reducible exact CP.out _ _); clear hK K)
                  refine qw_nil ?_
                  intro _ hw'
                  obtain ⟨⟨dq, osq⟩, hw''⟩ := hw'
                  subst hw''
                  have HBL := Lib.hid (hB3.out.keep (below_regrown wr dq osq))
                  clear k0 k1 k2 k3 CP
                  generalize Sort.grow (redrawn wr dq) osq = wl at *
                  go_wp2_with fail
                  go_roundw
                  case rel => exact ⟨m + 1, by omega, by go_num, HGO, HBL⟩
                  case measure => simp [intOf]; omega
              · obtain rfl : m = n := by omega
                have HGO : Hid (v = presB b.sk (b.hd.drop (q + 1))) := by
                  show v = _
                  rw [hdm.out, presL_done (by rw [HLS.out.1]; exact hmn)]; rfl
                clear hdm dL
                go_wp2_with fail
                go_roundw
                case rel => exact ⟨q + 1, by omega, by go_num, HGO, hB3⟩
                case measure => simp [intOf]; omega
          · obtain rfl : q = len2 := by omega
            have HT : Hid (v = true) := hdq.out.trans (pres_done (by rw [HX.out.hd.len]; exact hlq))
            clear hdq
            go_wp2_with fail
            go_ret
            exact ⟨ret_bool HT.out, hB2.out.bel⟩
end Go.Proofs.YtjclkiabgemfpaaGreat.Ledger
