/-
  The contract of the laws' own 'awake': the chapter's example.
-/
import Derived.Test.YtnbpghfegfbcaaaFrameC
import Derived.Test.YtnbpghfegfbcaaaFrameF
set_option linter.unusedVariables false
set_option maxRecDepth 4000
namespace Go.Proofs.Ytnbpghfegfbcaaa
open Go.RowKit CrcP FrameP

theorem strs_one (s : ByteArray) (w : World) (t : TypeId) : StrsAt (w.alloc (.cells #[.string s] t)) (some ⟨w.heap.size, 0, none⟩) 1 [s] :=
  ⟨rfl, by decide, .inr ⟨w.heap.size, 0, rfl, by simp, fun i hi => by
    obtain rfl : i = 0 := by omega
    rw [cell_of_heap (heap_alloc_new _ _)]
    rfl⟩⟩
theorem frs_a : frs [[97]] = [0, 1, 232, 183, 190, 67, 97] := by decide +kernel
theorem tk_a : tk [0, 1, 232, 183, 190, 67, 97] = ([[97]], 0) := by
  rw [← frs_a]
  exact tk_all [[97]] (fun r hr => by
    obtain rfl : r = [97] := by simpa using hr
    exact ⟨by decide, by decide⟩)
theorem few_one (s : ByteArray) (h : s.size ≤ 5000) : Few 100 5000 [s] := ⟨by simp, fun t ht => by
  obtain rfl : t = s := by simpa using ht
  exact h⟩
set_option maxHeartbeats 1600000 in
theorem awake_any (w : World) : Calls Try.prog 7 #[] w fun e w' => e = .returned (.bool true) ∧ Below w.heap.size w w' := by
  have k1 : ∀ W : World, Calls Try.prog 8 #[.slice (some ⟨W.heap.size, 0, none⟩) 1 1] (W.alloc (.cells #[.string ⟨#[97]⟩] 9)) fun e w' => e = .returned (.tuple #[.string ⟨#[0, 1, 232, 183, 190, 67, 97]⟩, .int .i64 0]) ∧ Below (W.alloc (.cells #[.string ⟨#[97]⟩] 9)).heap.size (W.alloc (.cells #[.string ⟨#[97]⟩] 9)) w' := fun W => by
    have h := put_yes (some ⟨W.heap.size, 0, none⟩) 1 1 [⟨#[97]⟩] _ (strs_one ⟨#[97]⟩ W 9) (few_one _ (by decide)) (fun t ht => by
      obtain rfl : t = ⟨#[97]⟩ := by simpa using ht
      decide) (by decide)
    rw [show dt [⟨#[97]⟩] = [[97]] from rfl, frs_a] at h
    exact h
  have k2 : ∀ W : World, Calls Try.prog 12 #[.string ⟨#[0, 1, 232, 183, 190, 67, 97]⟩] W fun e w' => ∃ a cap, e = .returned (.tuple #[.slice a 1 cap, .int .i64 0]) ∧ StrsAt w' a 1 [⟨#[97]⟩] ∧ Below W.heap.size W w' := fun W => by
    have h := take_any ⟨#[0, 1, 232, 183, 190, 67, 97]⟩ W (by decide)
    unfold TakeP at h
    rw [show (⟨#[0, 1, 232, 183, 190, 67, 97]⟩ : ByteArray).data.toList = [0, 1, 232, 183, 190, 67, 97] from rfl, tk_a] at h
    exact h
  have k3 : ∀ W : World, Calls Try.prog 8 #[.slice (some ⟨W.heap.size, 0, none⟩) 1 1] (W.alloc (.cells #[.string ⟨#[]⟩] 9)) fun e w' => e = .returned (.tuple #[.string ⟨#[]⟩, .int .i64 1]) ∧ (W.alloc (.cells #[.string ⟨#[]⟩] 9)) = w' := fun W =>
    put_bad (some ⟨W.heap.size, 0, none⟩) 1 1 0 [⟨#[]⟩] _ (strs_one ⟨#[]⟩ W 9) (few_one _ (by decide)) (by decide) (fun i hi => absurd hi (Nat.not_lt_zero _)) (by decide)
  have k5 : ∀ W : World, Calls Try.prog 10 #[.slice (some ⟨W.heap.size, 0, none⟩) 1 1] (W.alloc (.cells #[.string ⟨#[97, 98]⟩] 9)) fun e w' => e = .returned (.int .i64 8) ∧ (W.alloc (.cells #[.string ⟨#[97, 98]⟩] 9)) = w' := fun W =>
    size_any (some ⟨W.heap.size, 0, none⟩) 1 1 [⟨#[97, 98]⟩] _ (strs_one ⟨#[97, 98]⟩ W 9) (few_one _ (by decide))
  have K1 := Lib.hid k1; have K2 := Lib.hid k2; have K3 := Lib.hid k3; have K5 := Lib.hid k5
  clear k1 k2 k3 k5
  go_enter Try.func7, Try.ntmps7
  go_wp2_with fail
  refine (K1.out _).mono ?_
  rintro e w1 ⟨rfl, hb1⟩
  have HB1 := Lib.hid (((Below.refl _ w).alloc (Nat.le_refl _) (.cells #[.string ⟨#[97]⟩] 9)).trans (hb1.mono (by simp)))
  clear hb1
  go_wp2_with fail
  refine (K2.out _).mono ?_
  rintro e w2 ⟨a, cap, rfl, hs2, hb2⟩
  have HB2 := Lib.hid (HB1.out.trans (hb2.mono HB1.out.size))
  have HS2 := Lib.hid hs2
  clear hb2 hs2
  go_wp2_with fail
  refine (K3.out _).mono ?_
  rintro e w' ⟨rfl, rfl⟩
  have HB3 := Lib.hid (HB2.out.alloc HB2.out.size (.cells #[.string ⟨#[]⟩] 9))
  have HS3 := Lib.hid (HS2.out.keep ((Below.refl _ w2).alloc (Nat.le_refl _) (.cells #[.string ⟨#[]⟩] 9)))
  generalize w2.alloc (.cells #[.string ⟨#[]⟩] 9) = w3 at *
  go_wp2_with fail
  have hsame := same_yes a (some ⟨w3.heap.size, 0, none⟩) 1 cap 1 [⟨#[97]⟩] _ (HS3.out.keep ((Below.refl _ w3).alloc (Nat.le_refl _) (.cells #[.string ⟨#[97]⟩] 9))) (strs_one ⟨#[97]⟩ w3 9)
  refine hsame.mono ?_
  rintro e w4 ⟨rfl, hb4⟩
  have HB4 := Lib.hid ((HB3.out.alloc HB3.out.size (.cells #[.string ⟨#[97]⟩] 9)).trans (hb4.mono (by have := HB3.out.size; simp; omega)))
  clear hb4 hsame
  go_wp2_with fail
  refine (K5.out _).mono ?_
  rintro e w' ⟨rfl, rfl⟩
  have HB5 := Lib.hid (HB4.out.alloc HB4.out.size (.cells #[.string ⟨#[97, 98]⟩] 9))
  go_wp2_with fail
  go_ret
  exact ⟨rfl, HB5.out⟩
end Go.Proofs.Ytnbpghfegfbcaaa
