/-
  The contract of the document's Norm: lines merged, or why there are none; up to eight lines.
-/
import Derived.Test.YtpaemofjeadhcaaDoorLinesK
set_option linter.unusedVariables false
set_option maxRecDepth 4000
set_option maxRecDepth 4000
namespace Go.Proofs.YtpaemofjeadhcaaDoor.Lines
open Go.RowKit LinesP NameP

theorem rfold_call (s z : ByteArray) (f : Int) (w : World) (hs : s.size ≤ 300) (h : NameP.foldV (NameP.vals s.data.toList) = (z.data.toList, f)) :
    Calls Tryd.prog 20 #[.string s] w fun e w' => e = .returned (.tuple #[.string z, .int .i64 f]) ∧ Below w.heap.size w w' := Name.rfold_is s z f w (by omega) h
theorem mrg_snoc (x : Ln) : ∀ (a acc : List Ln), mrg acc (a ++ [x]) = ins (bk (fo x.1), x.2) (mrg acc a)
  | [], acc => rfl
  | y :: a, acc => by rw [List.cons_append, mrg, mrg, mrg_snoc x a]
theorem merged_snoc {l : List Ln} {k : Nat} {x : Ln} (hk : k < l.length) (hx : l.getD k ln0 = x) : merged (l.take (k + 1)) = ins (bk (fo x.1), x.2) (merged (l.take k)) := by
  unfold merged; rw [take_snoc hk hx, mrg_snoc]
theorem merged_most {l : List Ln} (h : allQ l = true) (h8 : l.length ≤ 8) (k : Nat) : ∀ y ∈ merged (l.take k), 0 ≤ y.2 ∧ y.2 ≤ 100000000 := by
  intro y hy
  rw [(merged_sums (l.take k)).sums y hy]
  have h1 := sumK_most (key y) (l.take k) (fun z hz => allQ_iff.1 h z (List.mem_of_mem_take hz))
  have h2 : (l.take k).length ≤ 8 := by rw [List.length_take]; omega
  omega
theorem over_snoc {l : List Ln} {x : Ln} {k : Nat} (hk : k < l.length) (hx : l.getD k ln0 = x) (h : over (l.take k) = false) (hq : x.2 ≤ 1048576) : over (l.take (k + 1)) = false := by
  unfold over at *
  rw [take_snoc hk hx, List.any_append, h]
  simp; omega
theorem over_mem {l : List Ln} {x : Ln} {k : Nat} (hk : k < l.length) (hx : l.getD k ln0 = x) (hq : 1048576 < x.2) : over l = true := by
  unfold over; rw [List.any_eq_true]
  refine ⟨x, ?_, by simpa using hq⟩
  rw [← hx, show l.getD k ln0 = l[k] by simp [List.getD, hk]]
  exact List.getElem_mem hk
theorem allQ_no {l : List Ln} {x : Ln} {k : Nat} (hk : k < l.length) (hx : l.getD k ln0 = x) (hq : qty x.2 = false) : allQ l = false := by
  unfold allQ; rw [List.all_eq_false]
  refine ⟨x, ?_, by rw [hq]; decide⟩
  rw [← hx, show l.getD k ln0 = l[k] by simp [List.getD, hk]]
  exact List.getElem_mem hk
set_option maxHeartbeats 4000000 in
theorem rnorm_any (a : Option Addr) (len cap : Nat) (l : List Ln) (w : World) (h : LsAt w a len l) (hs : Sz l) (h8 : len ≤ 8) :
    Calls Tryd.prog 8 #[.slice a len cap] w (OutOf w (normV l).1 (normV l).2) := by
  have HX := Lib.hid h
  have HS := Lib.hid hs
  have HL : l.length ≤ 8 := by rw [h.1]; exact h8
  obtain ⟨r, hr⟩ : ∃ r, normV l = r := ⟨_, rfl⟩
  rw [hr]
  have HR := Lib.hid hr
  clear hr h hs
  go_enter Tryd.func8, Tryd.ntmps8
  go_wp2_with fail
  go_loopw [4] (fun i wr => ∃ k : Nat, k ≤ len ∧ i = .int .i64 (k : Int) ∧ Hid (allF (l.take k) = true) ∧ Hid (Below w.heap.size w wr)) (fun i _ => len - (intOf i).toNat)
  case atStart => exact ⟨0, Nat.zero_le _, rfl, Lib.hid rfl, Below.refl _ _⟩
  case round =>
    obtain ⟨k, hk, rfl, hF, hB⟩ := hrel
    by_cases hlk : k < len
    · rcases HX.out.2.2 with h0 | ⟨b1, o1, rfl, g1, hc1⟩
      · omega
      have d1 := (hB.out.cell (p := ⟨b1, o1 + k * 2, none⟩) g1).trans (hc1 k hlk).1
      have hkx : k < l.length := by rw [HX.out.1]; exact hlk
      have hsz := (HS.out.at hkx).1
      obtain ⟨p, hp⟩ : ∃ p, l.getD k ln0 = p := ⟨_, rfl⟩
      rw [hp] at d1 hsz
      have hFS := allF_snoc hkx hp hF.out
      obtain ⟨s, n⟩ := p
      simp only at hFS hsz d1
      clear hc1 g1
      cases hfk : fok s with
      | false =>
        have HNO : Hid (r = ([], 7)) := by show r = _; rw [← HR.out]; exact normV_form (allF_take (hFS.trans hfk))
        have C1 := Lib.hid (rfold_call s ⟨#[]⟩ 7 wr hsz (fold_not hfk))
        clear hfk hkx hsz hF hFS hp
        go_wp2_with fail
        refine C1.out.mono ?_
        rintro e w4 ⟨rfl, hb4⟩
        have HB4 := Lib.hid (below_keep hB.out hb4 hB.out.size)
        clear hb4
        go_wp2_with fail
        go_ret2
        exact out_no HNO.out HB4.out
      | true =>
        have HF2 : Hid (allF (l.take (k + 1)) = true) := Lib.hid (hFS.trans hfk)
        obtain ⟨z, hz⟩ : ∃ z, bk (fo s) = z := ⟨_, rfl⟩
        have C1 := Lib.hid (rfold_call s z 0 wr hsz (by rw [fold_fo hfk, ← hz]; rfl))
        clear hfk hkx hsz hF hFS hp hz
        go_wp2_with fail
        refine C1.out.mono ?_
        rintro e w4 ⟨rfl, hb4⟩
        have HB4 := Lib.hid (below_keep hB.out hb4 hB.out.size)
        clear hb4
        go_wp2_with fail
        go_roundw
        case rel => exact ⟨k + 1, by omega, by go_num, HF2, HB4⟩
        case measure => simp [intOf]; omega
    · obtain rfl : k = len := by omega
      rw [List.take_of_length_le (Nat.le_of_eq HX.out.1)] at hF
      go_wp2_with fail
      go_loopw [7] (fun i wq => ∃ j : Nat, j ≤ k ∧ i = .int .i64 (j : Int) ∧ Hid (allQ (l.take j) = true) ∧ Hid (Below w.heap.size w wq)) (fun i _ => k - (intOf i).toNat)
      case atStart => exact ⟨0, Nat.zero_le _, rfl, Lib.hid rfl, hB⟩
      case round =>
        obtain ⟨j, hj, rfl, hQ, hB2⟩ := hrel
        by_cases hlj : j < k
        · rcases HX.out.2.2 with h0 | ⟨b1, o1, rfl, g1, hc1⟩
          · omega
          have d2 := (hB2.out.cell (p := ⟨b1, o1 + j * 2 + 1, none⟩) g1).trans (hc1 j hlj).2
          have hjx : j < l.length := by rw [HX.out.1]; exact hlj
          obtain ⟨p, hp⟩ : ∃ p, l.getD j ln0 = p := ⟨_, rfl⟩
          rw [hp] at d2
          have hQS := allQ_snoc hjx hp
          obtain ⟨s, n⟩ := p
          simp only at hQS d2
          clear hc1 g1
          by_cases hn1 : n < 1
          · have HNO : Hid (r = ([], 11)) := by show r = _; rw [← HR.out]; exact normV_range hF.out (allQ_no hjx hp (qty_no (.inl hn1)))
            clear hQS hp hQ
            go_wp2_with fail
            go_ret2
            exact out_no HNO.out hB2.out
          · by_cases hn2 : 1048576 < n
            · have HNO : Hid (r = ([], 11)) := by show r = _; rw [← HR.out]; exact normV_range hF.out (allQ_no hjx hp (qty_no (.inr hn2)))
              clear hQS hp hQ
              go_wp2_with fail
              go_ret2
              exact out_no HNO.out hB2.out
            · have HQ2 : Hid (allQ (l.take (j + 1)) = true) := by show _ = _; rw [hQS, hQ.out, qty_iff.2 ⟨by omega, by omega⟩]; rfl
              clear hQS hp hQ
              go_wp2_with fail
              go_roundw
              case rel => exact ⟨j + 1, by omega, by go_num, HQ2, hB2⟩
              case measure => simp [intOf]; omega
        · obtain rfl : j = k := by omega
          rw [List.take_of_length_le (Nat.le_of_eq HX.out.1)] at hQ
          go_wp2_with fail
          go_loopw [8, 9] (fun t i wq => ∃ (q : Nat) (a' : Option Addr) (cap' : Nat), q ≤ j ∧ i = .int .i64 (q : Int) ∧ t = .slice a' (merged (l.take q)).length cap' ∧ Hid (LsAt wq a' (merged (l.take q)).length (merged (l.take q))) ∧ Hid (Below w.heap.size w wq)) (fun _ i _ => j - (intOf i).toNat)
          case atStart => exact ⟨0, none, 0, Nat.zero_le _, rfl, rfl, Lib.hid (ls_nil _ _), hB2⟩
          case round =>
            obtain ⟨q, a', cap', hq, rfl, rfl, hA, hB3⟩ := hrel
            have hml := merged_len (l.take q)
            have hml2 : (l.take q).length ≤ 8 := by rw [List.length_take]; omega
            have HMM := Lib.hid (merged_most hQ.out HL q)
            have HUP := Lib.hid (merged_sums (l.take q)).up
            by_cases hlq : q < j
            · rcases HX.out.2.2 with h0 | ⟨b1, o1, rfl, g1, hc1⟩
              · omega
              have d1 := (hB3.out.cell (p := ⟨b1, o1 + q * 2, none⟩) g1).trans (hc1 q hlq).1
              have d2 := (hB3.out.cell (p := ⟨b1, o1 + q * 2 + 1, none⟩) g1).trans (hc1 q hlq).2
              have hqx : q < l.length := by rw [HX.out.1]; exact hlq
              have hsz := (HS.out.at hqx).1
              have hfx := allF_iff.1 hF.out (l.getD q ln0) (by rw [show l.getD q ln0 = l[q] by simp [List.getD, hqx]]; exact List.getElem_mem hqx)
              have hqy := qty_iff.1 (allQ_iff.1 hQ.out (l.getD q ln0) (by rw [show l.getD q ln0 = l[q] by simp [List.getD, hqx]]; exact List.getElem_mem hqx))
              obtain ⟨p, hp⟩ : ∃ p, l.getD q ln0 = p := ⟨_, rfl⟩
              rw [hp] at d1 d2 hsz hfx hqy
              have hms := merged_snoc hqx hp
              obtain ⟨s, n⟩ := p
              simp only at hms hsz hfx hqy d1 d2
              obtain ⟨z, hz⟩ : ∃ z, bk (fo s) = z := ⟨_, rfl⟩
              have C1 := Lib.hid (rfold_call s z 0 wr hsz (by rw [fold_fo hfx, ← hz]; rfl))
              rw [hz] at hms
              have HMS := Lib.hid hms
              have HD2 := Lib.hid (fun w4 (hb : Below wr.heap.size wr w4) => (hb.cell (p := ⟨b1, o1 + q * 2 + 1, none⟩) (Nat.lt_of_lt_of_le g1 hB3.out.size)).trans d2)
              obtain ⟨M, hM⟩ : ∃ M, merged (l.take q) = M := ⟨_, rfl⟩
              rw [hM] at hA hml HMM HUP HMS ⊢
              clear hfx hqx hp hz hms hc1 g1 hM hsz d2
              go_wp2_with fail
              refine C1.out.mono ?_
              rintro e w4 ⟨rfl, hb4⟩
              have d2 := HD2.out w4 hb4
              have HB4 := Lib.hid (below_keep hB3.out hb4 hB3.out.size)
              have HA4 := Lib.hid (hA.out.keep hb4)
              clear hb4
              have C2 := Lib.hid (radd_any a' M.length cap' M z n w4 HA4.out (by omega) HUP.out HMM.out (by omega) (by omega))
              go_wp2_with fail
              refine C2.out.mono ?_
              rintro e w5 ⟨hb5, a5, cap5, rfl, hA5⟩
              have HB5 := Lib.hid (below_keep HB4.out hb5 HB4.out.size)
              have HA5 : Hid (LsAt w5 a5 (merged (l.take (q + 1))).length (merged (l.take (q + 1)))) := by show LsAt _ _ _ _; rw [HMS.out]; exact hA5
              have HEQ : Hid ((merged (l.take (q + 1))).length = (ins (z, n) M).length) := by show _ = _; rw [HMS.out]
              obtain ⟨L5, hL5⟩ : ∃ L5, (ins (z, n) M).length = L5 := ⟨_, rfl⟩
              rw [hL5] at HEQ ⊢
              clear hb5 hA5 hL5 d2 d1
              go_wp2_with fail
              go_roundw
              case rel => exact ⟨q + 1, a5, cap5, by omega, by go_num, by rw [HEQ.out], HA5, HB5⟩
              case measure => simp [intOf]; omega
            · obtain rfl : q = j := by omega
              rw [List.take_of_length_le (Nat.le_of_eq HX.out.1)] at hA hml HMM HUP ⊢
              have HSM : Hid (over (merged l) = false → Sz (merged l)) := fun o => sz_merged hF.out hQ.out o
              obtain ⟨M, hM⟩ : ∃ M, merged l = M := ⟨_, rfl⟩
              have HMEQ := Lib.hid hM
              rw [hM] at hA hml HMM HUP HSM ⊢
              obtain ⟨L, hL⟩ : ∃ L, M.length = L := ⟨_, rfl⟩
              rw [hL] at hA hml ⊢
              have HLE := Lib.hid hL
              have hL8 : L ≤ 8 := by omega
              clear hM hml hml2 hL
              go_wp2_with fail
              go_loopw [12] (fun i wq => ∃ v : Nat, v ≤ L ∧ i = .int .i64 (v : Int) ∧ Hid (over (M.take v) = false) ∧ Hid (Below w.heap.size w wq) ∧ Hid (LsAt wq a' L M)) (fun i _ => L - (intOf i).toNat)
              case atStart => exact ⟨0, Nat.zero_le _, rfl, Lib.hid rfl, hB3, hA⟩
              case round =>
                obtain ⟨v, hv, rfl, hO, hB5, hA5⟩ := hrel
                by_cases hlv : v < L
                · rcases hA5.out.2.2 with h0 | ⟨b2, o2, rfl, g2, hc2⟩
                  · omega
                  have d2 := (hc2 v hlv).2
                  have hvx : v < M.length := by rw [hA5.out.1]; exact hlv
                  obtain ⟨p, hp⟩ : ∃ p, M.getD v ln0 = p := ⟨_, rfl⟩
                  rw [hp] at d2
                  obtain ⟨s, n⟩ := p
                  simp only at d2
                  clear hc2 g2
                  by_cases hn : 1048576 < n
                  · have HNO : Hid (r = ([], 5)) := by show r = _; rw [← HR.out]; exact normV_over hF.out hQ.out (by rw [HMEQ.out]; exact over_mem hvx hp hn)
                    clear hvx hp hO
                    go_wp2_with fail
                    go_ret2
                    exact out_no HNO.out hB5.out
                  · have HO2 : Hid (over (M.take (v + 1)) = false) := over_snoc hvx hp hO.out (by show n ≤ _; omega)
                    clear hvx hp hO
                    go_wp2_with fail
                    go_roundw
                    case rel => exact ⟨v + 1, by omega, by go_num, HO2, hB5, hA5⟩
                    case measure => simp [intOf]; omega
                · obtain rfl : v = L := by omega
                  rw [List.take_of_length_le (Nat.le_of_eq hA5.out.1)] at hO
                  have HO : Hid (over (merged l) = false) := by show _ = _; rw [HMEQ.out]; exact hO.out
                  by_cases h4 : 4 < v
                  · have HNO : Hid (r = ([], 9)) := by show r = _; rw [← HR.out]; exact normV_long hF.out hQ.out HO.out (by rw [HMEQ.out, HLE.out]; exact h4)
                    clear hO
                    go_wp2_with fail
                    go_ret2
                    exact out_no HNO.out hB5.out
                  · have HYES : Hid (r = (M, 0)) := by show r = _; rw [← HR.out, ← HMEQ.out]; exact normV_yes hF.out hQ.out HO.out (by rw [HMEQ.out, HLE.out]; exact h4)
                    have HSZ := Lib.hid (HSM.out hO.out)
                    clear hO
                    go_wp2_with fail
                    go_ret2
                    exact out_yes HYES.out HLE.out hA5.out HSZ.out hB5.out
end Go.Proofs.YtpaemofjeadhcaaDoor.Lines
