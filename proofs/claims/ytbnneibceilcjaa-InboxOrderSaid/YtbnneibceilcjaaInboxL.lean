/-
  InboxOrder is true of any number and any pattern.
-/
import Derived.Test.YtbnneibceilcjaaInboxJ
import Derived.Test.YtbnneibceilcjaaInboxFr
set_option linter.unusedVariables false
set_option linter.unusedSimpArgs false
set_option maxRecDepth 4000
namespace Go.Proofs.Ytbnneibceilcjaa.Inbox
open Go.RowKit InP
open Go.Proofs.Ytbnneibceilcjaa.Kt
theorem fit_two {p : Int} {xs : List Int} (h0 : 0 ≤ p) (h1 : p ≤ 1000) (hx : xs = [] ∨ xs = [p + 2]) : fitB ⟨2, p, xs⟩ = true := by
  refine fitB_iff.2 ⟨.inr rfl, ⟨h0, by show p ≤ _; omega⟩, ?_, ?_, ?_, ?_⟩
  · rcases hx with rfl | rfl <;> simp
  · rcases hx with rfl | rfl
    · intro x hx; cases hx
    · intro x hx
      rw [List.mem_singleton.1 hx]; omega
  · rcases hx with rfl | rfl
    · intro x hx; cases hx
    · intro x hx
      rw [List.mem_singleton.1 hx]; show p + 1 < p + 2; omega
  · rcases hx with rfl | rfl
    · exact List.Pairwise.nil
    · exact List.pairwise_singleton _ _
theorem mk1 {p : Int} (h0 : 0 ≤ p) (h1 : p ≤ 1000) : markV ⟨2, p, []⟩ (p + 1) = (⟨2, p + 1, []⟩, 0) := by
  rw [mark_new (fit_two h0 h1 (.inl rfl)) ⟨by omega, by omega⟩ (by unfold hadB; simp; omega), next_order]
theorem mk2 {p : Int} (h0 : 0 ≤ p) (h1 : p ≤ 1000) : markV ⟨2, p, []⟩ (p + 2) = (⟨2, p, [p + 2]⟩, 0) := by
  rw [mark_new (fit_two h0 h1 (.inl rfl)) ⟨by omega, by omega⟩ (by unfold hadB; simp; omega), next_ahead]
theorem mk2b {p : Int} (h0 : 0 ≤ p) (h1 : p ≤ 1000) : markV ⟨2, p, []⟩ (p + 1 + 1) = (⟨2, p, [p + 1 + 1]⟩, 0) := by
  have h := mk2 h0 h1
  rw [show p + 2 = p + 1 + 1 by omega] at h
  exact h
theorem mk3 {p : Int} (h0 : 0 ≤ p) (h1 : p ≤ 1000) : markV ⟨2, p, [p + 2]⟩ (p + 1) = (⟨2, p + 2, []⟩, 0) := by
  rw [mark_new (fit_two h0 h1 (.inr rfl)) ⟨by omega, by omega⟩ (by unfold hadB; simp; omega), next_back]
theorem mk3b {p : Int} (h0 : 0 ≤ p) (h1 : p ≤ 1000) : markV ⟨2, p, [p + 1 + 1]⟩ (p + 1) = (⟨2, p + 1 + 1, []⟩, 0) := by
  have h := mk3 h0 h1
  rw [show p + 2 = p + 1 + 1 by omega] at h
  exact h
set_option maxHeartbeats 4000000 in
theorem order_any (n t : Int) (hn : 0 ≤ n ∧ n ≤ 255) (ht : 0 ≤ t ∧ t ≤ 18446744073709551615) (w : World) :
    Calls Try.prog 5 #[.int .u8 n, .int .u64 t] w fun e w' => e = .returned (.bool true) ∧ Below w.heap.size w w' := by
  obtain ⟨hn0, hn1⟩ := hn
  obtain ⟨m, hm⟩ : ∃ m : Nat, n.tmod 100 = (m : Int) := ⟨(n.tmod 100).toNat, by rw [Int.tmod_eq_emod_of_nonneg hn0]; omega⟩
  have hm99 : m ≤ 99 := by rw [Int.tmod_eq_emod_of_nonneg hn0] at hm; omega
  have hwn : IntKind.i64.wrap n = n := by rw [IntKind.wrap_i64]; omega
  go_enter Try.func5, Try.ntmps5
  go_wp2_with fail
  refine (new_any 2 w).mono ?_
  rintro e w1 ⟨rfl, hb1⟩
  unfold bxV
  have HB1 := Lib.hid (hb1.alloc hb1.size (.cells #[.int .i64 2, .int .i64 0, .slice none 0 0] 24))
  have HX1 := Lib.hid (at3_new 24 w1 (.int .i64 2) (.int .i64 0) (.slice none 0 0))
  have hk1 := hb1.size
  clear hb1
  go_wp2_with fail
  go_loopw [7] (fun i wr => ∃ (j : Nat) (A : Option Addr) (c : Nat), j ≤ m ∧ i = .int .i64 (2 * (j : Int) + 1) ∧ Hid (At3 24 wr w1.heap.size (.int .i64 2) (.int .i64 (2 * (j : Int))) (.slice A 0 c)) ∧ Hid (Below w.heap.size w wr)) (fun i _ => 2 * m + 1 - (intOf i).toNat)
  case atStart => exact ⟨0, none, 0, Nat.zero_le _, rfl, HX1, HB1⟩
  case round =>
    obtain ⟨j, A, c, hj, rfl, hX, hB⟩ := hrel
    obtain ⟨b0, b1, b2⟩ := cells3 hX.out
    obtain ⟨p, hp⟩ : ∃ p, 2 * (j : Int) = p := ⟨_, rfl⟩
    rw [hp] at b1 ⊢
    have hp0 : 0 ≤ p := by omega
    have hp1 : p ≤ 200 := by omega
    have hd : (p + 1).tdiv 2 = (j : Int) := by rw [Int.tdiv_eq_ediv_of_nonneg (by omega)]; omega
    obtain ⟨q, hq⟩ : ∃ q : Nat, (j : Int).tmod 64 = (q : Int) := ⟨((j : Int).tmod 64).toNat, by rw [Int.tmod_eq_emod_of_nonneg (by omega)]; omega⟩
    have hq64 : q < 64 := by rw [Int.tmod_eq_emod_of_nonneg (by omega)] at hq; omega
    by_cases hjm : j < m
    · have hle : p + 1 ≤ 2 * (m : Int) := by omega
      have M1 := Lib.hid (mk1 hp0 (by omega : p ≤ 1000))
      have M2 := Lib.hid (mk2b hp0 (by omega : p ≤ 1000))
      have M3 := Lib.hid (mk3b hp0 (by omega : p ≤ 1000))
      have M4 := Lib.hid (mk1 (by omega : 0 ≤ p + 1) (by omega : p + 1 ≤ 1000))
      go_wp2_with fail
      · refine (mark_any 2 p A 0 c [] (p + 1 + 1) wr ⟨Rw.At.nil _ _ _, Nat.zero_le _⟩).mono ?_
        rintro e w2 hm
        obtain ⟨a3, c3, rfl, hA, hb2⟩ := MarkR.of M2.out hm
        simp only [List.length_singleton, List.length_nil] at hA ⊢
        have B2 := Lib.hid (below_keep hB.out hb2 hB.out.size)
        have X2 := Lib.hid (hX.out.keep hb2)
        have B3 := Lib.hid (B2.out.alloc B2.out.size (.cells #[.int .i64 2, .int .i64 p, .slice a3 1 c3] 24))
        have X3 := Lib.hid (X2.out.alloc (.cells #[.int .i64 2, .int .i64 p, .slice a3 1 c3] 24))
        have Y3 := Lib.hid (at3_new 24 w2 (.int .i64 2) (.int .i64 (p)) (.slice a3 1 c3))
        have R3 := Lib.hid (hA.keep ((Below.refl _ w2).alloc (Nat.le_refl _) (.cells #[.int .i64 2, .int .i64 p, .slice a3 1 c3] 24)))
        clear b0 b1 b2 hm hA hb2 hX hB B2 X2 M2
        obtain ⟨y0, y1, y2⟩ := cells3 Y3.out
        go_wp2_with fail
        refine (mark_any 2 (p) a3 1 c3 [p + 1 + 1] (p + 1) _ R3.out).mono ?_
        rintro e w4 hm
        obtain ⟨a5, c5, rfl, hA, hb4⟩ := MarkR.of M3.out hm
        simp only [List.length_nil] at hA ⊢
        have B4 := Lib.hid (below_keep B3.out hb4 B3.out.size)
        have X4 := Lib.hid (X3.out.keep hb4)
        have B5 := Lib.hid (B4.out.alloc B4.out.size (.cells #[.int .i64 2, .int .i64 (p + 1 + 1), .slice a5 0 c5] 24))
        have X5 := Lib.hid (X4.out.alloc (.cells #[.int .i64 2, .int .i64 (p + 1 + 1), .slice a5 0 c5] 24))
        have Y5 := Lib.hid (at3_new 24 w4 (.int .i64 2) (.int .i64 (p + 1 + 1)) (.slice a5 0 c5))
        clear y0 y1 y2 hm hA hb4 B3 X3 Y3 R3 B4 X4 M3
        obtain ⟨y0, y1, y2⟩ := cells3 Y5.out
        obtain ⟨b0, b1, b2⟩ := cells3 X5.out
        obtain ⟨f0, f1, f2⟩ := free3 X5.out
        have XQ := Lib.hid (heap_put3 X5.out (.int .i64 2) (.int .i64 (p + 1 + 1)) (.slice a5 0 c5))
        have BQ := Lib.hid (below_put3 B5.out hk1 (.int .i64 2) (.int .i64 (p + 1 + 1)) (.slice a5 0 c5))
        clear X5 B5 Y5
        have hpn : p + 1 + 1 = 2 * ((j + 1 : Nat) : Int) := by omega
        have hpn2 : p + 1 + 2 = 2 * ((j + 1 : Nat) : Int) + 1 := by omega
        have HPN := Lib.hid hpn; have HPN2 := Lib.hid hpn2
        clear hpn hpn2 hp hd hq
        go_wp2_with fail
        go_roundw
        case rel => exact ⟨j + 1, a5, c5, by omega, by rw [HPN2.out], by rw [← HPN.out]; exact XQ, BQ⟩
        case measure => simp [intOf]; omega
      · refine (mark_any 2 p A 0 c [] (p + 1) wr ⟨Rw.At.nil _ _ _, Nat.zero_le _⟩).mono ?_
        rintro e w2 hm
        obtain ⟨a3, c3, rfl, hA, hb2⟩ := MarkR.of M1.out hm
        simp only [List.length_singleton, List.length_nil] at hA ⊢
        have B2 := Lib.hid (below_keep hB.out hb2 hB.out.size)
        have X2 := Lib.hid (hX.out.keep hb2)
        have B3 := Lib.hid (B2.out.alloc B2.out.size (.cells #[.int .i64 2, .int .i64 (p + 1), .slice a3 0 c3] 24))
        have X3 := Lib.hid (X2.out.alloc (.cells #[.int .i64 2, .int .i64 (p + 1), .slice a3 0 c3] 24))
        have Y3 := Lib.hid (at3_new 24 w2 (.int .i64 2) (.int .i64 (p + 1)) (.slice a3 0 c3))
        have R3 := Lib.hid (hA.keep ((Below.refl _ w2).alloc (Nat.le_refl _) (.cells #[.int .i64 2, .int .i64 (p + 1), .slice a3 0 c3] 24)))
        clear b0 b1 b2 hm hA hb2 hX hB B2 X2 M1
        obtain ⟨y0, y1, y2⟩ := cells3 Y3.out
        go_wp2_with fail
        refine (mark_any 2 (p + 1) a3 0 c3 [] (p + 1 + 1) _ R3.out).mono ?_
        rintro e w4 hm
        obtain ⟨a5, c5, rfl, hA, hb4⟩ := MarkR.of M4.out hm
        simp only [List.length_nil] at hA ⊢
        have B4 := Lib.hid (below_keep B3.out hb4 B3.out.size)
        have X4 := Lib.hid (X3.out.keep hb4)
        have B5 := Lib.hid (B4.out.alloc B4.out.size (.cells #[.int .i64 2, .int .i64 (p + 1 + 1), .slice a5 0 c5] 24))
        have X5 := Lib.hid (X4.out.alloc (.cells #[.int .i64 2, .int .i64 (p + 1 + 1), .slice a5 0 c5] 24))
        have Y5 := Lib.hid (at3_new 24 w4 (.int .i64 2) (.int .i64 (p + 1 + 1)) (.slice a5 0 c5))
        clear y0 y1 y2 hm hA hb4 B3 X3 Y3 R3 B4 X4 M4
        obtain ⟨y0, y1, y2⟩ := cells3 Y5.out
        obtain ⟨b0, b1, b2⟩ := cells3 X5.out
        obtain ⟨f0, f1, f2⟩ := free3 X5.out
        have XQ := Lib.hid (heap_put3 X5.out (.int .i64 2) (.int .i64 (p + 1 + 1)) (.slice a5 0 c5))
        have BQ := Lib.hid (below_put3 B5.out hk1 (.int .i64 2) (.int .i64 (p + 1 + 1)) (.slice a5 0 c5))
        clear X5 B5 Y5
        have hpn : p + 1 + 1 = 2 * ((j + 1 : Nat) : Int) := by omega
        have hpn2 : p + 1 + 2 = 2 * ((j + 1 : Nat) : Int) + 1 := by omega
        have HPN := Lib.hid hpn; have HPN2 := Lib.hid hpn2
        clear hpn hpn2 hp hd hq
        go_wp2_with fail
        go_roundw
        case rel => exact ⟨j + 1, a5, c5, by omega, by rw [HPN2.out], by rw [← HPN.out]; exact XQ, BQ⟩
        case measure => simp [intOf]; omega
    · obtain rfl : j = m := by omega
      have hle : ¬ (p + 1 ≤ p) := by omega
      have K := Lib.hid (had_any 2 p A 0 c [] (p + 1) false (by unfold hadB; simp; omega) wr (Rw.At.nil _ _ _))
      clear hd hq
      rw [hp]
      go_wp2_with fail
      refine K.out.mono ?_
      rintro e w2 ⟨rfl, hb2⟩
      have B2 := Lib.hid (below_keep hB.out hb2 hB.out.size)
      clear hb2 b0 b1 b2
      go_wp2_with fail
      refine (awake_any _).mono ?_
      rintro e w3 ⟨rfl, hb3⟩
      have B3 := Lib.hid (below_keep B2.out hb3 B2.out.size)
      clear hb3
      go_wp2_with fail
      go_ret
      exact ⟨rfl, B3.out⟩
end Go.Proofs.Ytbnneibceilcjaa.Inbox
namespace Go.Proofs.Ytbnneibceilcjaa
open Go.RowKit
theorem Contract.inboxOrder (n t : Int) (W : World) (hn : (Lit.int .u8 n).wf = true) (ht : (Lit.int .u64 t).wf = true) :
    Calls Try.prog 5 #[.int .u8 n, .int .u64 t] W fun e W' => e = .returned (.bool true) ∧ Below W.heap.size W W' := by
  have hu : 0 ≤ n ∧ n ≤ 255 := by simpa [Lit.wf, IntKind.min, IntKind.max, IntKind.signed, IntKind.bits] using hn
  have hv : 0 ≤ t ∧ t ≤ 18446744073709551615 := by simpa [Lit.wf, IntKind.min, IntKind.max, IntKind.signed, IntKind.bits] using ht
  exact Go.Proofs.Ytbnneibceilcjaa.Inbox.order_any n t hu hv W
end Go.Proofs.Ytbnneibceilcjaa
