/-
  The contracts of the document's Take and Same: any few octets.
-/
import Derived.Test.YtnbpghfegfbcaaaFrameE
set_option linter.unusedVariables false
set_option maxRecDepth 4000
namespace Go.Proofs.Ytnbpghfegfbcaaa
open Go.RowKit CrcP FrameP

theorem get_drop (l : List UInt8) (p i : Nat) : (l.drop p).getD i 0 = l.getD (p + i) 0 := by simp [List.getD, List.getElem?_drop]
theorem w64_eq {x y : Int} (h : x = y) (h1 : 0 ≤ x) (h2 : x ≤ 9223372036854775807) : wrap64 x = y := by
  unfold wrap64
  omega
theorem pack_facts (c0 c1 : UInt8) (n : Nat) (hnv : n = 256 * c0.toNat + c1.toNat) :
    (wrap64 (c0.toNat : Int) = (c0.toNat : Int) ∧ wrap64 (c1.toNat : Int) = (c1.toNat : Int) ∧ wrap64 (256 * (c0.toNat : Int)) = 256 * (c0.toNat : Int) ∧ wrap64 (256 * (c0.toNat : Int) + (c1.toNat : Int)) = (n : Int)) ∧ n < 65536 := by
  have b0 := c0.toNat_lt
  have b1 := c1.toNat_lt
  exact ⟨⟨w64_byte c0, w64_byte c1, w64_eq rfl (by omega) (by omega), w64_eq (by omega) (by omega) (by omega)⟩, by omega⟩
set_option maxHeartbeats 4000000 in
theorem rtake_any (s : ByteArray) (w : World) (hs : s.size ≤ 100000) : Calls Try.prog 13 #[.string s] w (TakeP w s.data.toList) := by
  obtain ⟨i0, hi, hz0, hz1, hz2⟩ := info_parts info_string
  have HI := Lib.hid hi; have HZ0 := Lib.hid hz0; have HZ1 := Lib.hid hz1; have HZ2 := Lib.hid hz2
  clear hi hz0 hz1 hz2
  obtain ⟨l, hl⟩ : ∃ l, s.data.toList = l := ⟨_, rfl⟩
  have hll : l.length = s.size := by rw [← hl]; exact len_list s
  have HL := Lib.hid hl; have HLL := Lib.hid hll
  have HF0 := Lib.hid (fin_tk_nil l)
  rw [hl]
  clear hl hll
  go_enter Try.func13, Try.ntmps13
  go_wp2_with fail
  go_loopw [4, 5] (fun v i wr => ∃ (k p : Nat) (a : Option Addr) (cap : Nat) (D : List (List UInt8)), v = .slice a k cap ∧ i = .int .i64 (p : Int) ∧ p ≤ s.size ∧ Hid (7 * k ≤ p) ∧ Hid (fin D (tk (l.drop p)) = tk l) ∧ Hid (wr.ownsRow w.heap.size 9 1 (.slice a k cap) k (tx D)) ∧ Hid (Below w.heap.size w wr)) (fun _ i _ => s.size - (intOf i).toNat)
  case atStart => exact ⟨0, 0, none, 0, [], rfl, rfl, Nat.zero_le _, by show 7 * 0 ≤ 0; omega, by show fin [] (tk (l.drop 0)) = tk l; rw [List.drop_zero]; exact HF0.out, World.ownsRow_nil _ _ _ _, Below.refl _ _⟩
  case round =>
    obtain ⟨k, p, a, cap, D, rfl, rfl, hps, hk, hF, hO, hB⟩ := hrel
    by_cases hlt : p < s.size
    · have hul : (l.drop p).length = s.size - p := by rw [List.length_drop, HLL.out]
      have hne : l.drop p ≠ [] := fun e => by
        have := congrArg List.length e
        rw [hul, List.length_nil] at this
        omega
      by_cases h2 : s.size - p < 2
      · have hst := fin_err (D := D) hne (by rw [nx_short (by rw [hul]; exact h2)]; decide)
        rw [nx_short (by rw [hul]; exact h2)] at hst
        have HXX := Lib.hid (take_err (hF.out.symm.trans hst) hB.out)
        clear hst hne hul
        go_wp2_with fail
        go_ret2
        exact HXX.out
      · have hp1s : p + 1 < s.size := by omega
        obtain ⟨n, hn⟩ : ∃ n, len2 (l.drop p) = n := ⟨_, rfl⟩
        obtain ⟨c0, hc0⟩ : ∃ c0, s[p]'hlt = c0 := ⟨_, rfl⟩
        obtain ⟨c1, hc1⟩ : ∃ c1, s[p + 1]'hp1s = c1 := ⟨_, rfl⟩
        have hnv : n = 256 * c0.toNat + c1.toNat := by
          rw [← hn, ← hc0, ← hc1, ← at_list s p hlt, ← at_list s (p + 1) hp1s, HL.out]
          unfold len2
          rw [get_drop, get_drop]
          rfl
        have i1 : (0 : Int) ≤ (p : Int) + 1 := by omega
        have i2 : (p : Int) + 1 < (s.size : Int) := by omega
        have i3 : (p : Int) < (s.size : Int) := by omega
        obtain ⟨hw, hn16⟩ := pack_facts c0 c1 n hnv
        have HW := Lib.hid hw
        have HU := Lib.hid hul; have HNE := Lib.hid hne; have HN := Lib.hid hn
        clear hnv hn hul hne hw
        go_wp2_with fail
        obtain ⟨w2, w3, w4, w5⟩ := HW.out
        go_region
        all_goals
          simp only [w2, w3, w4, w5]
          clear w2 w3 w4 w5 i1 i2 i3 hc0 hc1
          by_cases hf : 1 ≤ n ∧ n ≤ 4096
          · by_cases h3 : s.size - p < 6 + n
            · have HX := Lib.hid (nx_less (s := l.drop p) (by rw [HU.out]; omega) (by rw [HN.out]; exact hf) (by rw [HN.out, HU.out]; exact h3))
              have hst := fin_err (D := D) HNE.out (by rw [HX.out]; decide)
              rw [HX.out] at hst
              have HXX := Lib.hid (take_err (hF.out.symm.trans hst) hB.out.drew)
              obtain ⟨f1, f2⟩ := hf
              clear hst
              go_wp2_with fail
              go_ret2
              exact HXX.out
            · obtain ⟨f1, f2⟩ := hf
              obtain ⟨x, hx⟩ : ∃ x, s.extract (p + 6) (p + 6 + n) = x := ⟨_, rfl⟩
              obtain ⟨y, hy⟩ : ∃ y, s.extract (p + 2) (p + 6) = y := ⟨_, rfl⟩
              obtain ⟨p2, hp2⟩ : ∃ p2, p + 2 = p2 := ⟨_, rfl⟩
              obtain ⟨p6, hp6⟩ : ∃ p6, p + 6 = p6 := ⟨_, rfl⟩
              have hxs : x.size = n := by rw [← hx, ByteArray.size_extract]; omega
              have hxl : x.data.toList = ((l.drop p).drop 6).take n := by
                rw [← hx, ext_list, HL.out, List.drop_drop]
                congr 1
                omega
              have hyl : y.data.toList = ((l.drop p).drop 2).take 4 := by
                rw [← hy, ext_list, HL.out, List.drop_drop]
                congr 1
                omega
              have hnew : l.drop (p + 6 + n) = (l.drop p).drop (6 + n) := by rw [List.drop_drop, Nat.add_assoc]
              have hsum := fun W => rsum_any x W (by omega)
              obtain ⟨m, hm⟩ : ∃ m, (more 0#32 x.data.toList).toNat = m := ⟨_, rfl⟩
              have hm32 : m < 4294967296 := by rw [← hm]; exact bv_lt _
              obtain ⟨c, hc⟩ : ∃ c, str (cs x.data.toList) = c := ⟨_, rfl⟩
              have hoc := fun W => roctets_any m W hm32
              rw [hm] at hsum
              have hocc : (⟨(oc m).toArray⟩ : ByteArray) = c := by rw [← hc, ← hm]; rfl
              rw [hocc] at hoc
              have k1 : ∀ d os, Calls Try.prog 18 #[.string x] (Sort.grow (redrawn wr.drew d) os) fun e w'' => e = .returned (.int .u32 (m : Int)) ∧ ∃ p : Regrown, w'' = Sort.grow (redrawn wr.drew p.d) p.os := fun d os => Calls.regrown_of ((hsum _).mono fun e w' h => ⟨h.1, h.2 ▸ Below.refl _ _⟩)
              have k2 : ∀ d os, Calls Try.prog 17 #[.int .u32 (m : Int)] (Sort.grow (redrawn wr.drew d) os) fun e w'' => e = .returned (.string c) ∧ ∃ p : Regrown, w'' = Sort.grow (redrawn wr.drew p.d) p.os := fun d os => Calls.regrown_of (hoc _)
              have hrec : y = c → nx (l.drop p) = (0, x.data.toList, l.drop (p + 6 + n)) := fun e => by
                have h1 := nx_yes (s := l.drop p) (by rw [HN.out]; exact ⟨f1, f2⟩) (by rw [HN.out, HU.out]; omega) (by rw [HN.out, ← hyl, ← hxl, e, ← hc, str_list])
                rw [HN.out, ← hxl, ← hnew] at h1
                exact h1
              have hbad : y ≠ c → nx (l.drop p) = (12, [], []) := fun e =>
                nx_bad (s := l.drop p) (by rw [HN.out]; exact ⟨f1, f2⟩) (by rw [HN.out, HU.out]; omega) (by rw [HN.out, ← hyl, ← hxl]; intro e2; exact e (by rw [← str_of y, e2, hc]))
              have i1 : (0 : Int) ≤ (p2 : Int) := by omega
              have i2 : (p2 : Int) ≤ (p6 : Int) := by omega
              have i3 : (p6 : Int) ≤ (s.size : Int) := by omega
              have i4 : p2 ≤ p6 := by omega
              have i5 : p6 ≤ s.size := by omega
              have hpn : p + 6 + n ≤ s.size := by omega
              have h7k : 7 * (k + 1) ≤ p + 6 + n := by have := hk.out; omega
              have hW2 : Hid (IntKind.i64.wrap ((p : Int) + 2) = (p2 : Int)) := by show IntKind.i64.wrap ((p : Int) + 2) = (p2 : Int); rw [IntWalk.i64_in] <;> omega
              have hW6 : Hid (IntKind.i64.wrap ((p : Int) + 6) = (p6 : Int)) := by show IntKind.i64.wrap ((p : Int) + 6) = (p6 : Int); rw [IntWalk.i64_in] <;> omega
              have HY : Hid (s.extract p2 p6 = y) := by show s.extract p2 p6 = y; rw [← hp2, ← hp6]; exact hy
              have K1 := Lib.hid k1; have K2 := Lib.hid k2; have HREC := Lib.hid hrec; have HBAD := Lib.hid hbad; have H7K := Lib.hid h7k; have HPN := Lib.hid hpn
              clear hxl hyl hnew hsum hm hm32 hc hoc hocc k1 k2 hrec hbad hy hp2 hp6 hxs h7k
              go_wp2_with fail
              have w2 := hW2.out
              have w6 := hW6.out
              have hy := HY.out
              clear hpn
              refine wp_region_quiet_below (by kernel_rfl) (by kernel_rfl) ?_
              repeat (quiet_step (first | with_reducible exact K1.out _ _ | with_reducible exact K2.out _ _))
              refine wpQuiet_nil ?_
              intro _ hw'
              obtain ⟨⟨dq, osq⟩, hw''⟩ := hw'
              subst hw''
              have hbq := below_regrown wr.drew dq osq
              have HB3 := Lib.hid (hB.out.drew.trans (hbq.mono hB.out.size))
              have HO3 : Hid ((Sort.grow (redrawn wr.drew dq) osq).ownsRow w.heap.size 9 1 (.slice a k cap) k (tx D)) := owns_below (w := wr.drew) hO.out hbq
              clear hbq K1 K2 w2 w6 hy i1 i2 i3 i4 i5
              generalize Sort.grow (redrawn wr.drew dq) osq = w3 at *
              cases hq : (y.toList == c.toList)
              · have hyc : y ≠ c := fun e => by
                  rw [e] at hq
                  simp at hq
                have hst := fin_err (D := D) HNE.out (by rw [HBAD.out hyc]; decide)
                rw [HBAD.out hyc] at hst
                have HXX := Lib.hid (take_err (hF.out.symm.trans hst) HB3.out)
                clear hst hyc hq
                go_wp2_with fail
                go_ret2
                exact HXX.out
              · have hyc : y = c := by
                  have h1 := eq_of_beq hq
                  rw [ByteArray.toList_eq, ByteArray.toList_eq] at h1
                  rw [← str_of y, h1, str_of]
                have hst := fin_step (D := D) HNE.out (by rw [HREC.out hyc])
                rw [HREC.out hyc] at hst
                have HF1 : Hid (fin (D ++ [x.data.toList]) (tk (l.drop (p + 6 + n))) = tk l) := hst.symm.trans hF.out
                have HTX : Hid (tx (D ++ [x.data.toList]) = tx D ++ [Value.string x]) := by
                  show _ = _
                  rw [tx_snoc, str_of]
                have hbs := HB3.out.size
                have hkk := H7K.out
                have hpn := HPN.out
                clear hst hyc hq
                go_wp2_with (at_builtin; refine wpList_append_own _ rfl _ _ 22 rfl w.heap.size 9 i0 _ 1 16 Try.underlying22 HI.out HZ0.out HZ1.out HZ2.out rfl (by decide) _ _ _ rfl (HO3.out.alloc _) ⟨w3.heap.size, 0, none⟩ 1 1 [.string x] rfl rfl ?c1 ?c2 ?c3 ?c4 ?c5 ?_)
                try case c1 => exact cell_one_new _ _ _
                case c2 => simp [Value.oneCell']
                case c3 => unfold maxLen; omega
                case c4 => omega
                case c5 => simp; omega
                intro v' w4 hown2 hgrow _
                have hb2 := (HB3.out.alloc hbs (.cells #[.string x] 9)).grown hgrow (by simp; omega) (fun q hq => (HO3.out.lt q hq).1)
                obtain ⟨a2, cap2, rfl⟩ := owns_slice0 hown2
                rw [← HTX.out] at hown2
                have HO4 := Lib.hid hown2
                have HB4 := Lib.hid hb2
                clear hown2 hgrow hb2
                go_wp2_with fail
                go_roundw
                case rel => exact ⟨k + 1, p + 6 + n, a2, cap2, D ++ [x.data.toList], rfl, by go_num, hpn, H7K, HF1, HO4, HB4⟩
                case measure => simp [intOf]; omega
          · have HX := Lib.hid (nx_form (s := l.drop p) (by rw [HU.out]; omega) (by rw [HN.out]; exact hf))
            have hst := fin_err (D := D) HNE.out (by rw [HX.out]; decide)
            rw [HX.out] at hst
            have HXX := Lib.hid (take_err (hF.out.symm.trans hst) hB.out.drew)
            clear hst
            by_cases h1 : n < 1
            · clear hf
              go_wp2_with fail
              go_ret2
              exact HXX.out
            · have h4 : 4096 < n := by omega
              clear hf
              go_wp2_with fail
              go_ret2
              exact HXX.out
    · obtain rfl : p = s.size := by omega
      have hfin := hF.out
      rw [List.drop_of_length_le (by rw [HLL.out]; exact Nat.le_refl _), fin_end] at hfin
      have HX := Lib.hid (take_ok hfin.symm hO.out (by have := hk.out; omega) hB.out)
      clear hfin
      go_wp2_with fail
      go_ret2
      exact HX.out
theorem same_yes (a c : Option Addr) (len ca cc : Nat) (ss : List ByteArray) (w : World) (h1 : StrsAt w a len ss) (h2 : StrsAt w c len ss) :
    Calls Try.prog 14 #[.slice a len ca, .slice c len cc] w fun e w' => e = .returned (.bool true) ∧ Below w.heap.size w w' := by
  have hl : len ≤ 9223372036854775807 := h1.2.1
  by_cases h0 : len = 0
  · subst h0
    clear h1 h2
    go_enter Try.func14, Try.ntmps14
    go_wp2_with fail
    go_loopw [5] (fun i wr => i = .int .i64 0 ∧ Hid (Below w.heap.size w wr)) (fun i _ => 0)
    case atStart => exact ⟨rfl, Below.refl _ w⟩
    case round =>
      obtain ⟨rfl, hB⟩ := hrel
      go_wp2_with fail
      go_ret
      exact ⟨rfl, hB.out⟩
  · obtain ⟨b1, o1, rfl, _, hc1⟩ := h1.2.2.resolve_left h0
    obtain ⟨b2, o2, rfl, _, hc2⟩ := h2.2.2.resolve_left h0
    have HC1 := Lib.hid hc1; have HC2 := Lib.hid hc2
    clear h1 h2 hc1 hc2
    go_enter Try.func14, Try.ntmps14
    go_wp2_with fail
    go_loopw [5] (fun i wr => ∃ j : Nat, j ≤ len ∧ i = .int .i64 (j : Int) ∧ Hid (Below w.heap.size w wr)) (fun i _ => len - (intOf i).toNat)
    case atStart => exact ⟨0, Nat.zero_le _, rfl, Below.refl _ w⟩
    case round =>
      obtain ⟨j, hj, rfl, hB⟩ := hrel
      by_cases hlt : j < len
      · have d1 := (hB.out.cell (World.block_lt_of_cell? w _ (HC1.out j hlt))).trans (HC1.out j hlt)
        have d2 := (hB.out.cell (World.block_lt_of_cell? w _ (HC2.out j hlt))).trans (HC2.out j hlt)
        have HB := Lib.hid hB.out.drew
        clear hB
        generalize ss.getD j ByteArray.empty = s at *
        go_wp2_with fail
        go_region
        all_goals
          go_wp2_with fail
          go_roundw
          case rel => exact ⟨j + 1, by omega, by go_num, HB⟩
          case measure => simp [intOf]; omega
      · obtain rfl : j = len := by omega
        go_wp2_with fail
        go_ret
        exact ⟨rfl, hB.out⟩
end Go.Proofs.Ytnbpghfegfbcaaa
