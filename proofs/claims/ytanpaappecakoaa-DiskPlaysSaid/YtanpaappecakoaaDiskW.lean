/-
  The walk of DiskLoads: any texts, any number.
-/
import Derived.Test.YtanpaappecakoaaDiskV
set_option linter.unusedVariables false
namespace Go.Proofs.Ytanpaappecakoaa
open Go.RowKit DiskP

theorem StrsAt.below {w w' : World} {a : Option Addr} {len : Nat} {ss : List ByteArray} (h : StrsAt w a len ss) (hb : Below w.heap.size w w') : StrsAt w' a len ss :=
  ⟨h.1, h.2.1, h.2.2.imp id (fun ⟨b, off, e, hlt, hc⟩ => ⟨b, off, e, by have := hb.size; omega, fun i hi => (hb.cell (p := ⟨b, off + i, none⟩) hlt).trans (hc i hi)⟩)⟩
theorem strs_of {w : World} {B n g cap : Nat} {S : List ByteArray} (h : w.ownsRow B 9 1 (.slice (some ⟨g, 0, none⟩) n cap) n (S.map Value.string)) (hn : n ≤ 512) : StrsAt w (some ⟨g, 0, none⟩) n S := by
  have hl : S.length = n := by have := h.1; simpa using this
  exact ⟨hl, by omega, .inr ⟨g, 0, rfl, owns_lt h rfl, fun i hi => by rw [Nat.zero_add]; exact owns_cell h rfl (by simp [List.getD, hl, hi])⟩⟩
theorem first_bad (p : Nat → Prop) [DecidablePred p] : ∀ n, ∃ m, m ≤ n ∧ (∀ i, i < m → p i) ∧ (m < n → ¬ p m)
  | 0 => ⟨0, Nat.le_refl _, fun i hi => absurd hi (Nat.not_lt_zero _), fun h => absurd h (Nat.lt_irrefl _)⟩
  | n + 1 => by
    obtain ⟨m, h1, h2, h3⟩ := first_bad p n
    by_cases hm : m < n
    · exact ⟨m, by omega, h2, fun _ => h3 hm⟩
    · obtain rfl : m = n := by omega
      by_cases hp : p m
      · exact ⟨m + 1, Nat.le_refl _, fun i hi => (Nat.lt_succ_iff_lt_or_eq.1 hi).elim (h2 i) (fun e => e ▸ hp), fun h => absurd h (Nat.lt_irrefl _)⟩
      · exact ⟨m, by omega, h2, fun _ => hp⟩
def TrueIn (w : World) (e : Ending) (w' : World) : Prop := e = .returned (.bool true) ∧ Below w.heap.size w w'
theorem awake_in {w w' : World} (hb : Below w.heap.size w w') : Calls Try.prog 9 #[] w' (TrueIn w) :=
  (awake_any w').mono fun e w2 ⟨he, hb2⟩ => ⟨he, hb.trans (hb2.mono hb.size)⟩
theorem diskLoads_long (a : Option Addr) (len cap : Nat) (at_ : Int) (w : World) (h : 20 < len) (hl : len ≤ 9223372036854775807) :
    Calls Try.prog 4 #[.slice a len cap, .int .i64 at_] w (TrueIn w) := by
  go_enter Try.func4, Try.ntmps4
  go_wp2_with fail
  refine (awake_in (Below.refl _ w)).mono ?_
  rintro e w2 ⟨rfl, hb⟩
  have HB := Lib.hid hb
  clear hb
  go_wp2_with fail
  go_ret
  exact ⟨rfl, HB.out⟩
set_option maxRecDepth 100000 in
set_option maxHeartbeats 4000000 in
theorem diskLoads_walk (a : Option Addr) (len cap : Nat) (ss : List ByteArray) (at_ : Int) (w : World) (hS : StrsAt w a len ss) (hz : ∀ t ∈ ss, t.size ≤ 9223372036854775807) (h : len ≤ 20) :
    Calls Try.prog 4 #[.slice a len cap, .int .i64 at_] w (TrueIn w) := by
  have HS := Lib.hid hS
  have HC : Hid (0 < len → ∃ b off, a = some ⟨b, off, none⟩ ∧ ∀ i, i < len → w.cell? ⟨b, off + i, none⟩ = some (.string (ss.getD i ByteArray.empty))) := fun h0 => by
    obtain ⟨b, off, e, _, hc⟩ := hS.2.2.resolve_left (by omega)
    exact ⟨b, off, e, hc⟩
  have HZ := Lib.hid hz
  obtain ⟨m, hm1, hm2, hm3⟩ := first_bad (fun i => (ss.getD i ByteArray.empty).size = 128) len
  have HG := Lib.hid hm2; have HBAD := Lib.hid hm3
  clear hS hz hm2 hm3
  go_enter Try.func4, Try.ntmps4
  go_wp2_with fail
  go_loop [5] (fun i => ∃ j : Nat, j ≤ len ∧ i = .int .i64 (j : Int)) (fun i => len - (intOf i).toNat)
  case atStart => exact ⟨0, Nat.zero_le _, rfl⟩
  case round =>
    obtain ⟨j, hj, rfl⟩ := hrel
    by_cases hlt : j < len
    · obtain ⟨b, off, rfl, hc⟩ := HC.out (by omega)
      have d0 := hc j hlt
      have y1 : (ss.getD j ByteArray.empty).size ≤ 9223372036854775807 := HZ.out _ (getD_mem (by rw [HS.out.1]; exact hlt))
      clear hc
      generalize ss.getD j ByteArray.empty = s at *
      by_cases h3 : s.size ≤ 300
      · go_wp2_with fail
        go_round
        case rel => exact ⟨j + 1, by omega, by go_num⟩
        case measure => simp [intOf]; omega
      · have h3' : 300 < s.size := by omega
        go_wp2_with fail
        refine (awake_in (Below.refl _ w)).mono ?_
        rintro e w2 ⟨rfl, hb⟩
        have HB := Lib.hid hb
        clear hb
        go_wp2_with fail
        go_ret
        exact ⟨rfl, HB.out⟩
    · obtain rfl : j = len := by omega
      by_cases h2 : 2 ≤ j
      · obtain ⟨b, off, rfl, hc⟩ := HC.out (by omega)
        by_cases hmj : m < j
        · have hl1 := load_bad b off j cap m ss w h2 (by omega) HS.out.1 hc hmj (HBAD.out hmj) HG.out
          have hl2 := rload_any b off j cap m ss w h2 (by omega) HS.out.1 hc hm1 HBAD.out HG.out
          have HL1 := Lib.hid hl1; have HL2 := Lib.hid hl2
          clear hl1 hl2 hc
          go_wp2_with fail
          refine HL1.out.mono ?_
          rintro e w' ⟨rfl, rfl⟩
          go_wp2_with fail
          refine HL2.out.mono ?_
          intro e w2 hr
          obtain ⟨_, rfl, hb⟩ := hr.resolve_right (fun h => by omega)
          have HB := Lib.hid hb
          clear hr hb
          go_wp2_with fail
          refine (awake_in HB.out).mono ?_
          rintro e w3 ⟨rfl, hb⟩
          have HB3 := Lib.hid hb
          clear hb
          go_wp2_with fail
          go_ret
          exact ⟨rfl, HB3.out⟩
        · obtain rfl : m = j := by omega
          have hl1 := load_yes b off m cap ss w h2 (by omega) HS.out.1 hc HG.out
          have HL1 := Lib.hid hl1; have HCC := Lib.hid hc
          have hok := fresh_ok (S := ss) (by rw [HS.out.1]; exact h2) (by rw [HS.out.1]; omega) (fun s hs => by
            obtain ⟨i, hi, rfl⟩ := List.getElem_of_mem hs
            have := HG.out i (by rw [← HS.out.1]; exact hi)
            simpa [List.getD, hi] using this)
          have HOK := Lib.hid hok
          clear hl1 hc hok
          go_wp2_with fail
          refine HL1.out.mono ?_
          rintro e w1 ⟨d, L, rfl, hD, hL, hb⟩
          have hr := rload_any b off m cap m ss w1 h2 (by omega) HS.out.1 (fun i hi => (hb.cell (World.block_lt_of_cell? w _ (HCC.out i hi))).trans (HCC.out i hi)) hm1 HBAD.out HG.out
          have HR := Lib.hid hr; have HD1 := Lib.hid hD; have HB1 := Lib.hid hb
          clear hr hD hL hb
          go_wp2_with fail
          refine HR.out.mono ?_
          intro e w2 hr
          obtain ⟨_, x, L2, rfl, hR, _, hb⟩ := hr.resolve_left (fun h => by omega)
          have HD2 := Lib.hid (dk_below HD1.out hb); have HR2 := Lib.hid hR; have HB2 := Lib.hid (HB1.out.trans (hb.mono HB1.out.size))
          clear hr hR hb HD1 HB1 HR HCC
          go_wp2_with fail
          refine (read_dk d 0 _ L at_ w2 HD2.out HOK.out (by decide)).mono ?_
          rintro e w3 ⟨rfl, hb⟩
          have HD3 := Lib.hid (dk_below HD2.out hb); have HR3 := Lib.hid (rk_below HR2.out hb); have HB3 := Lib.hid (HB2.out.trans (hb.mono HB2.out.size))
          clear hb HD2 HR2 HB2
          go_wp2_with fail
          refine (rread_rk x 0 _ L2 at_ w3 HR3.out HOK.out (by decide)).mono ?_
          rintro e w' ⟨rfl, rfl⟩
          generalize rd (fresh ss) at_ = r at *
          go_wp2_with fail
          refine (sectors_dk d 0 _ L w3 HD3.out HOK.out).mono ?_
          rintro e w4 ⟨g3, cap3, rfl, hown, hb⟩
          have hlen : (fresh ss).S.length = m := HS.out.1
          rw [hlen] at hown ⊢
          have hsame := same_yes (some ⟨g3, 0, none⟩) (some ⟨b, off, none⟩) m cap3 cap ss w4 (strs_of hown (by omega)) (HS.out.below (HB3.out.trans (hb.mono HB3.out.size)))
          have HSA := Lib.hid hsame
          have HD4 := Lib.hid (dk_below HD3.out hb); have HB4 := Lib.hid (HB3.out.trans (hb.mono HB3.out.size))
          clear hown hb hlen hsame HD3 HB3
          go_wp2_with fail
          refine HSA.out.mono ?_
          rintro e w5 ⟨rfl, hb⟩
          have HD5 := Lib.hid (dk_below HD4.out hb); have HB5 := Lib.hid (HB4.out.trans (hb.mono HB4.out.size))
          clear hb HD4 HB4 HSA
          go_wp2_with fail
          refine (dead_dk d _ L w5 HD5.out).mono ?_
          rintro e w' ⟨rfl, rfl⟩
          change Hid (Dk w5 L d (fresh ss)) at HD5
          rw [show (fresh ss).dead = false from rfl]
          go_wp2_with fail
          refine (awake_in HB5.out).mono ?_
          rintro e w6 ⟨rfl, hb⟩
          have HB6 := Lib.hid hb
          clear hb
          go_wp2_with fail
          go_ret
          exact ⟨rfl, HB6.out⟩
      · have hl1 := load_range a j cap w (by omega)
        have hl2 := rload_range a j cap w (by omega) (by omega)
        have HL1 := Lib.hid hl1; have HL2 := Lib.hid hl2
        clear hl1 hl2
        go_wp2_with fail
        refine HL1.out.mono ?_
        rintro e w' ⟨rfl, rfl⟩
        go_wp2_with fail
        refine HL2.out.mono ?_
        rintro e w' ⟨rfl, rfl⟩
        go_wp2_with fail
        refine (awake_in (Below.refl _ w)).mono ?_
        rintro e w3 ⟨rfl, hb⟩
        have HB3 := Lib.hid hb
        clear hb
        go_wp2_with fail
        go_ret
        exact ⟨rfl, HB3.out⟩
end Go.Proofs.Ytanpaappecakoaa
