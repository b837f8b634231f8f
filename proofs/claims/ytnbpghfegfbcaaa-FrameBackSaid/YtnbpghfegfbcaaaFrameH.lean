/-
  The walks of FramePuts and FrameTakes.
-/
import Derived.Test.YtnbpghfegfbcaaaFrameG
set_option linter.unusedVariables false
set_option maxRecDepth 4000
namespace Go.Proofs.Ytnbpghfegfbcaaa
open Go.RowKit CrcP FrameP

theorem first_bad (p : Nat → Prop) [DecidablePred p] : ∀ n, ∃ m, m ≤ n ∧ (∀ i, i < m → p i) ∧ (m < n → ¬ p m)
  | 0 => ⟨0, Nat.le_refl _, fun i hi => absurd hi (Nat.not_lt_zero _), fun h => absurd h (Nat.lt_irrefl _)⟩
  | n + 1 => by
    obtain ⟨m, h1, h2, h3⟩ := first_bad p n
    by_cases hm : m < n
    · exact ⟨m, by omega, h2, fun _ => h3 hm⟩
    · obtain rfl : m = n := by omega
      by_cases hp : p m
      · exact ⟨m + 1, Nat.le_refl _, fun i hi => (Nat.lt_succ_iff_lt_or_eq.1 hi).elim (h2 i) (fun e => e ▸ hp), fun h => absurd h (Nat.lt_irrefl _)⟩
      · exact ⟨m, by omega, h2, fun _ => hp⟩
/-- What both Puts tell. -/
theorem put_is (a : Option Addr) (len cap : Nat) (ss : List ByteArray) (hl : ss.length = len) (hF : Few 100 5000 ss) :
    ∃ (X : ByteArray) (er : Int), (∀ w, StrsAt w a len ss → Calls Try.prog 8 #[.slice a len cap] w fun e w' => e = .returned (.tuple #[.string X, .int .i64 er]) ∧ Below w.heap.size w w') ∧
      (∀ w, StrsAt w a len ss → Calls Try.prog 9 #[.slice a len cap] w fun e w' => e = .returned (.tuple #[.string X, .int .i64 er]) ∧ Below w.heap.size w w') ∧
      ((er = 0 ∧ X = str (frs (dt ss)) ∧ (∀ r ∈ dt ss, Rec r) ∧ sz (dt ss) ≤ 16384) ∨ (er ≠ 0 ∧ X = ⟨#[]⟩ ∧ ¬ ((∀ r ∈ dt ss, Rec r) ∧ sz (dt ss) ≤ 16384))) := by
  obtain ⟨m, hm1, hm2, hm3⟩ := first_bad (fun i => 1 ≤ (ss.getD i ByteArray.empty).size ∧ (ss.getD i ByteArray.empty).size ≤ 4096) len
  by_cases hml : m < len
  · have hb := hm3 hml
    refine ⟨⟨#[]⟩, 1, fun w hS => (put_bad a len cap m ss w hS hF hml hm2 hb).mono (fun e w' h => ⟨h.1, h.2 ▸ Below.refl _ _⟩), fun w hS => (rput_bad a len cap m ss w hS hF hml hm2 hb).mono (fun e w' h => ⟨h.1, h.2 ▸ Below.refl _ _⟩), .inr ⟨by decide, rfl, fun h => hb ?_⟩⟩
    have hlt : m < ss.length := by omega
    have h1 := h.1 _ (List.mem_map.2 ⟨_, getD_mem hlt, rfl⟩)
    unfold Rec at h1
    rw [len_list] at h1
    exact h1
  · obtain rfl : m = len := by omega
    have hr : ∀ t ∈ ss, 1 ≤ t.size ∧ t.size ≤ 4096 := fun t ht => by
      obtain ⟨i, hi, rfl⟩ := List.getElem_of_mem ht
      have := hm2 i (by omega)
      simpa [List.getD, hi] using this
    have hrec : ∀ r ∈ dt ss, Rec r := fun r h => by
      obtain ⟨s, hs, rfl⟩ := dt_mem h
      unfold Rec
      rw [len_list]
      exact hr s hs
    by_cases hz : sz (dt ss) ≤ 16384
    · exact ⟨_, 0, fun w hS => put_yes a m cap ss w hS hF hr hz, fun w hS => rput_yes a m cap ss w hS hF hr hz, .inl ⟨rfl, rfl, hrec, hz⟩⟩
    · exact ⟨⟨#[]⟩, 9, fun w hS => (put_long a m cap ss w hS hF hr (by omega)).mono (fun e w' h => ⟨h.1, h.2 ▸ Below.refl _ _⟩), fun w hS => (rput_long a m cap ss w hS hF hr (by omega)).mono (fun e w' h => ⟨h.1, h.2 ▸ Below.refl _ _⟩), .inr ⟨by decide, rfl, fun h => hz h.2⟩⟩
def TrueIn (w : World) (e : Ending) (w' : World) : Prop := e = .returned (.bool true) ∧ Below w.heap.size w w'
theorem awake_in {w w' : World} (hb : Below w.heap.size w w') : Calls Try.prog 7 #[] w' (TrueIn w) :=
  (awake_any w').mono fun e w2 ⟨he, hb2⟩ => ⟨he, hb.trans (hb2.mono hb.size)⟩
set_option maxHeartbeats 1600000 in
theorem framePuts_walk (a : Option Addr) (len cap : Nat) (ss : List ByteArray) (w : World) (hS : StrsAt w a len ss) (hz : ∀ t ∈ ss, t.size ≤ 9223372036854775807) :
    Calls Try.prog 3 #[.slice a len cap] w (TrueIn w) := by
  have HFEW := Lib.hid (few_any a len cap 12 5000 ss w hS (by decide) (by decide) hz)
  have HS := Lib.hid hS
  clear hS hz
  go_enter Try.func3, Try.ntmps3
  go_wp2_with fail
  refine HFEW.out.mono ?_
  rintro e w' ⟨r, rfl, hyes, _, rfl⟩
  clear HFEW
  cases r with
  | false =>
    clear hyes
    go_wp2_with fail
    refine (awake_in (Below.refl _ w)).mono ?_
    rintro e w2 ⟨rfl, hb⟩
    have HB := Lib.hid hb
    clear hb
    go_wp2_with fail
    go_ret
    exact ⟨rfl, HB.out⟩
  | true =>
    have hF : Few 100 5000 ss := ⟨Nat.le_trans (hyes rfl).1 (by decide), (hyes rfl).2⟩
    obtain ⟨X, er, h1, h2, _⟩ := put_is a len cap ss HS.out.1 hF
    have HF := Lib.hid hF; have H1 := Lib.hid h1; have H2 := Lib.hid h2
    clear hyes hF h1 h2
    go_wp2_with fail
    refine (H1.out w HS.out).mono ?_
    rintro e w1 ⟨rfl, hb1⟩
    have HB1 := Lib.hid hb1
    have HS1 := Lib.hid (HS.out.keep hb1)
    clear hb1
    go_wp2_with fail
    refine (H2.out w1 HS1.out).mono ?_
    rintro e w2 ⟨rfl, hb2⟩
    have HB2 := Lib.hid (HB1.out.trans (hb2.mono HB1.out.size))
    have HS2 := Lib.hid (HS1.out.keep hb2)
    clear hb2
    have K1 := Lib.hid (size_any a len cap ss w2 HS2.out HF.out)
    have K2 := Lib.hid (rsize_any a len cap ss w2 HS2.out HF.out)
    generalize sz (dt ss) = z at *
    go_wp2_with fail
    refine K1.out.mono ?_
    rintro e w' ⟨rfl, rfl⟩
    go_wp2_with fail
    refine K2.out.mono ?_
    rintro e w' ⟨rfl, rfl⟩
    go_wp2_with fail
    refine (awake_in HB2.out).mono ?_
    rintro e w3 ⟨rfl, hb⟩
    have HB := Lib.hid hb
    clear hb
    go_wp2_with fail
    go_ret
    exact ⟨rfl, HB.out⟩
set_option maxHeartbeats 1600000 in
theorem frameTakes_walk (s : ByteArray) (w : World) (hs : s.size ≤ 9223372036854775807) :
    Calls Try.prog 4 #[.string s] w (TrueIn w) := by
  by_cases h : s.size ≤ 600
  · have H1 := Lib.hid (fun w => take_any s w (by omega))
    have H2 := Lib.hid (fun w => rtake_any s w (by omega))
    go_enter Try.func4, Try.ntmps4
    go_wp2_with fail
    refine (H1.out w).mono ?_
    rintro e w1 ⟨a1, c1, rfl, hs1, hb1⟩
    have HB1 := Lib.hid hb1
    have HS1 := Lib.hid hs1
    clear hb1 hs1
    generalize hk : tk s.data.toList = t at *
    obtain ⟨rs, er⟩ := t
    dsimp only at HS1 ⊢
    go_wp2_with fail
    refine (H2.out w1).mono ?_
    rintro e w2 ⟨a2, c2, rfl, hs2, hb2⟩
    rw [hk] at hs2 ⊢
    have HB2 := Lib.hid (HB1.out.trans (hb2.mono HB1.out.size))
    have hsame := same_yes a1 a2 rs.length c1 c2 (rs.map str) w2 (HS1.out.keep hb2) hs2
    have HSA := Lib.hid hsame
    clear hb2 hs2 hsame hk
    dsimp only
    go_wp2_with fail
    refine HSA.out.mono ?_
    rintro e w3 ⟨rfl, hb3⟩
    have HB3 := Lib.hid (HB2.out.trans (hb3.mono HB2.out.size))
    clear hb3
    go_wp2_with fail
    refine (awake_in HB3.out).mono ?_
    rintro e w4 ⟨rfl, hb⟩
    have HB := Lib.hid hb
    clear hb
    go_wp2_with fail
    go_ret
    exact ⟨rfl, HB.out⟩
  · have h' : 600 < s.size := by omega
    go_enter Try.func4, Try.ntmps4
    go_wp2_with fail
    refine (awake_in (Below.refl _ w)).mono ?_
    rintro e w2 ⟨rfl, hb⟩
    have HB := Lib.hid hb
    clear hb
    go_wp2_with fail
    go_ret
    exact ⟨rfl, HB.out⟩
end Go.Proofs.Ytnbpghfegfbcaaa
