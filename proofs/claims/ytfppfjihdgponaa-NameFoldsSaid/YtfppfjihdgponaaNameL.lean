/-
  The walks of the laws on runes, folding and again folding: each returns true; what was there stays as it was.
-/
import Derived.Test.YtfppfjihdgponaaNameK
set_option linter.unusedVariables false
namespace Go.Proofs.Ytfppfjihdgponaa
open Go.RowKit NameP

theorem nameTells_long (r : Int) (s : ByteArray) (w : World) (h : 80 < s.size) (hbig : s.size ≤ 9223372036854775807) :
    Calls Try.prog 3 #[.int .i32 r, .string s] w fun e w' => e = .returned (.bool true) ∧ Below w.heap.size w w' := by
  go_enter Try.func3, Try.ntmps3
  go_wp2_with fail
  refine (awake_any _).mono ?_
  rintro e w1 ⟨rfl, hb⟩
  go_wp2_with fail
  go_ret
  exact ⟨rfl, hb⟩
theorem nameTells_walk (r : Int) (s : ByteArray) (w : World) (h : s.size ≤ 80) (r0 : -2147483648 ≤ r) (r1 : r ≤ 2147483647) :
    Calls Try.prog 3 #[.int .i32 r, .string s] w fun e w' => e = .returned (.bool true) ∧ Below w.heap.size w w' := by
  go_enter Try.func3, Try.ntmps3
  go_wp2_with fail
  refine (rune_any r _).mono ?_
  rintro e w' ⟨rfl, rfl⟩
  go_wp2_with fail
  refine (rrune_any r _).mono ?_
  rintro e w' ⟨rfl, rfl⟩
  generalize nr r = q at *
  go_wp2_with fail
  refine (count_any s _ (by omega)).mono ?_
  rintro e w1 ⟨rfl, hb1⟩
  go_wp2_with fail
  refine (rcount_any s _ (by omega)).mono ?_
  rintro e w2 ⟨rfl, hb⟩
  have hb2 := below_keep hb1 hb hb1.size
  clear hb hb1
  generalize countV s.data.toList = n at *
  go_wp2_with fail
  refine (fit_any s _ (by omega)).mono ?_
  rintro e w3 ⟨rfl, hb⟩
  have hb3 := below_keep hb2 hb hb2.size
  clear hb hb2
  go_wp2_with fail
  refine (rfit_any s _ (by omega)).mono ?_
  rintro e w4 ⟨rfl, hb⟩
  have hb4 := below_keep hb3 hb hb3.size
  clear hb hb3
  generalize fitV (vals s.data.toList) = t at *
  go_wp2_with fail
  refine (awake_any _).mono ?_
  rintro e w5 ⟨rfl, hb⟩
  have hb5 := below_keep hb4 hb hb4.size
  go_wp2_with fail
  go_ret
  exact ⟨rfl, hb5⟩
theorem nameFolds_long (s : ByteArray) (w : World) (h : 80 < s.size) (hbig : s.size ≤ 9223372036854775807) :
    Calls Try.prog 4 #[.string s] w fun e w' => e = .returned (.bool true) ∧ Below w.heap.size w w' := by
  go_enter Try.func4, Try.ntmps4
  go_wp2_with fail
  refine (awake_any _).mono ?_
  rintro e w1 ⟨rfl, hb⟩
  go_wp2_with fail
  go_ret
  exact ⟨rfl, hb⟩
theorem nameFolds_walk (s : ByteArray) (w : World) (h : s.size ≤ 80) :
    Calls Try.prog 4 #[.string s] w fun e w' => e = .returned (.bool true) ∧ Below w.heap.size w w' := by
  go_enter Try.func4, Try.ntmps4
  go_wp2_with fail
  refine (fold_any s _ (by omega)).mono ?_
  rintro e w1 ⟨rfl, hb1⟩
  go_wp2_with fail
  refine (rfold_any s _ (by omega)).mono ?_
  rintro e w2 ⟨rfl, hb⟩
  have hb2 := below_keep hb1 hb hb1.size
  clear hb hb1
  generalize (⟨(foldV (vals s.data.toList)).1.toArray⟩ : ByteArray) = z at *
  generalize (foldV (vals s.data.toList)).2 = f at *
  go_wp2_with fail
  refine (awake_any _).mono ?_
  rintro e w3 ⟨rfl, hb⟩
  have hb3 := below_keep hb2 hb hb2.size
  go_wp2_with fail
  go_ret
  exact ⟨rfl, hb3⟩
theorem nameFinds_long (a : Option Addr) (len cap : Nat) (s : ByteArray) (w : World) (h : 20 < len ∨ (len ≤ 20 ∧ 40 < s.size)) (hl : len ≤ 9223372036854775807) (hbig : s.size ≤ 9223372036854775807) :
    Calls Try.prog 5 #[.slice a len cap, .string s] w fun e w' => e = .returned (.bool true) ∧ Below w.heap.size w w' := by
  rcases h with h | ⟨h, h2⟩
  all_goals
    go_enter Try.func5, Try.ntmps5
    go_wp2_with fail
    refine (awake_any _).mono ?_
    rintro e w1 ⟨rfl, hb⟩
    go_wp2_with fail
    go_ret
    exact ⟨rfl, hb⟩
theorem nameFinds_walk (a : Option Addr) (len cap : Nat) (ss : List ByteArray) (s : ByteArray) (w : World) (h : StrsAt w a len ss) (hss : ∀ t ∈ ss, t.size ≤ 9223372036854775807) (hl : len ≤ 20) (h40 : s.size ≤ 40) :
    Calls Try.prog 5 #[.slice a len cap, .string s] w fun e w' => e = .returned (.bool true) ∧ Below w.heap.size w w' := by
  have HA := Lib.hid h; have HS := Lib.hid hss; clear h hss
  go_enter Try.func5, Try.ntmps5
  go_wp2
  go_loop [5] (fun i => ∃ k : Nat, k ≤ len ∧ i = .int .i64 k) (fun i => len - (intOf i).toNat)
  case atStart => exact ⟨0, Nat.zero_le _, rfl⟩
  case round =>
    obtain ⟨k, hk, rfl⟩ := hrel
    by_cases hlk : k < len
    · rcases HA.out.2.2 with h0 | ⟨b, off, rfl, _, hc⟩
      · omega
      have hcell := hc k hlk
      obtain ⟨t, ht⟩ : ∃ t, ss.getD k ByteArray.empty = t := ⟨_, rfl⟩
      have hts : t.size ≤ 9223372036854775807 := by rw [← ht]; exact HS.out _ (by simp [List.getD, show k < ss.length by rw [HA.out.1]; exact hlk])
      rw [ht] at hcell
      clear hc ht
      by_cases h41 : 40 < t.size
      · go_wp2_with fail
        refine (awake_any _).mono ?_
        rintro e w1 ⟨rfl, hb⟩
        go_wp2_with fail
        go_ret
        exact ⟨rfl, hb⟩
      · go_wp2_with fail
        go_round
        case rel => exact ⟨k + 1, by omega, by go_num⟩
        case measure => simp [intOf]; omega
    · go_wp2_with fail
      refine (find_any a len cap ss s _ HA.out).mono ?_
      rintro e w1 ⟨rfl, hb1⟩
      go_wp2_with fail
      refine (rfind_any a len cap ss s _ (HA.out.keep hb1)).mono ?_
      rintro e w2 ⟨rfl, hb⟩
      have hb2 := below_keep hb1 hb hb1.size
      clear hb hb1
      generalize (findV s 0 ss).1 = n at *
      generalize (findV s 0 ss).2 = t at *
      go_wp2_with fail
      refine (awake_any _).mono ?_
      rintro e w3 ⟨rfl, hb⟩
      have hb3 := below_keep hb2 hb hb2.size
      go_wp2_with fail
      go_ret
      exact ⟨rfl, hb3⟩
end Go.Proofs.Ytfppfjihdgponaa
