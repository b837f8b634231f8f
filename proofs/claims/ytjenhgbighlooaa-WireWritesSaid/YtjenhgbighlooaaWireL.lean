/-
  The laws WireWrites and WireNobody, walked: each returns true, and leaves what was there.
-/
import Derived.Test.YtjenhgbighlooaaWireK
set_option linter.unusedVariables false
namespace Go.Proofs.Ytjenhgbighlooaa
open Go.RowKit WireP

theorem wireWrites_long (a : Option Addr) (len cap : Nat) (v : Bool) (s : ByteArray) (W : World) (h : 20 < len ∨ (len ≤ 20 ∧ 300 < s.size)) (hl : len ≤ 9223372036854775807) (hs : s.size ≤ 9223372036854775807) :
    Calls Try.prog 3 #[.slice a len cap, .bool v, .string s] W fun e w' => e = .returned (.bool true) ∧ Below W.heap.size W w' := by
  rcases h with h | ⟨h, h2⟩
  all_goals
    go_enter Try.func3, Try.ntmps3
    go_wp2_with fail
    refine (awake_any W).mono ?_
    rintro e w' ⟨rfl, hb⟩
    go_wp2_with fail
    go_ret
    exact ⟨rfl, hb⟩
theorem int_both (n : Int) (h0 : -9223372036854775808 ≤ n) (h1 : n ≤ 9223372036854775807) : ∃ z : ByteArray, (∀ w, Calls Try.prog 8 #[.int .i64 n] w fun e w' => e = .returned (.string z) ∧ Below w.heap.size w w') ∧ ∀ w, Calls Try.prog 9 #[.int .i64 n] w fun e w' => e = .returned (.string z) ∧ Below w.heap.size w w' :=
  ⟨_, fun w => int_any n w h0 h1, fun w => rint_any n w h0 h1⟩
theorem flag_both (v : Bool) : ∃ z : ByteArray, (∀ w, Calls Try.prog 10 #[.bool v] w fun e w' => e = .returned (.string z) ∧ w = w') ∧ ∀ w, Calls Try.prog 11 #[.bool v] w fun e w' => e = .returned (.string z) ∧ w = w' :=
  ⟨_, fun w => flag_any v w, fun w => rflag_any v w⟩
theorem text_both (s : ByteArray) (hs : s.size ≤ 4398046511104) : ∃ z : ByteArray, (∀ w, Calls Try.prog 12 #[.string s] w fun e w' => e = .returned (.string z) ∧ Below w.heap.size w w') ∧ ∀ w, Calls Try.prog 13 #[.string s] w fun e w' => e = .returned (.string z) ∧ Below w.heap.size w w' :=
  ⟨_, fun w => text_any s w hs, fun w => rtext_any s w hs⟩
theorem ints_both (a : Option Addr) (len cap : Nat) (xs : List Int) (hlen : len ≤ 1000000) : ∃ z : ByteArray, (∀ w, IntsAt w a len xs → Calls Try.prog 14 #[.slice a len cap] w fun e w' => e = .returned (.string z) ∧ Below w.heap.size w w') ∧ ∀ w, IntsAt w a len xs → Calls Try.prog 15 #[.slice a len cap] w fun e w' => e = .returned (.string z) ∧ Below w.heap.size w w' :=
  ⟨_, fun w h => ints_any a len cap xs w h hlen, fun w h => rints_any a len cap xs w h hlen⟩
theorem wireWrites_walk (a : Option Addr) (len cap : Nat) (xs : List Int) (v : Bool) (s : ByteArray) (W : World) (h : IntsAt W a len xs) (hl : len ≤ 20) (hs : s.size ≤ 300) :
    Calls Try.prog 3 #[.slice a len cap, .bool v, .string s] W fun e w' => e = .returned (.bool true) ∧ Below W.heap.size W w' := by
  obtain ⟨n, hn⟩ : ∃ n, (if len = 0 then 0 else xs.getD 0 0) = n := ⟨_, rfl⟩
  have hnb : -9223372036854775808 ≤ n ∧ n ≤ 9223372036854775807 := by
    rw [← hn]
    by_cases h0 : len = 0
    · rw [if_pos h0]; exact ⟨by decide, by decide⟩
    · rw [if_neg h0]; exact h.2.1 _ (getD_mem (by rw [h.1]; omega))
  obtain ⟨z1, hi1, hi2⟩ := int_both n hnb.1 hnb.2
  obtain ⟨z2, hf1, hf2⟩ := flag_both v
  obtain ⟨z3, ht1, ht2⟩ := text_both s (by omega)
  obtain ⟨z4, hs1, hs2⟩ := ints_both a len cap xs (by omega)
  have I1 := Lib.hid hi1; have I2 := Lib.hid hi2; have F1 := Lib.hid hf1; have F2 := Lib.hid hf2
  have T1 := Lib.hid ht1; have T2 := Lib.hid ht2; have S1 := Lib.hid hs1; have S2 := Lib.hid hs2
  have HA := Lib.hid h
  clear hi1 hi2 hf1 hf2 ht1 ht2 hs1 hs2 hnb
  by_cases h0 : len = 0
  · rw [if_pos h0] at hn
    subst hn; subst h0
    go_enter Try.func3, Try.ntmps3
    go_wp2_with fail
    refine (I1.out _).mono ?_
    rintro e w1 ⟨rfl, hb1⟩
    go_wp2_with fail
    refine (I2.out _).mono ?_
    rintro e w2 ⟨rfl, hb2⟩
    have HB2 := Lib.hid (below_keep hb1 hb2 hb1.size)
    clear hb1 hb2
    go_wp2_with fail
    refine (F1.out _).mono ?_
    rintro e w3 ⟨rfl, rfl⟩
    go_wp2_with fail
    refine (F2.out _).mono ?_
    rintro e w3 ⟨rfl, rfl⟩
    go_wp2_with fail
    refine (T1.out _).mono ?_
    rintro e w3 ⟨rfl, hb3⟩
    have HB3 := Lib.hid (below_keep HB2.out hb3 HB2.out.size)
    clear hb3
    go_wp2_with fail
    refine (T2.out _).mono ?_
    rintro e w4 ⟨rfl, hb4⟩
    have HB4 := Lib.hid (below_keep HB3.out hb4 HB3.out.size)
    clear hb4
    go_wp2_with fail
    refine (S1.out _ (HA.out.keep HB4.out)).mono ?_
    rintro e w5 ⟨rfl, hb5⟩
    have HB5 := Lib.hid (below_keep HB4.out hb5 HB4.out.size)
    clear hb5
    go_wp2_with fail
    refine (S2.out _ (HA.out.keep HB5.out)).mono ?_
    rintro e w6 ⟨rfl, hb6⟩
    have HB6 := Lib.hid (below_keep HB5.out hb6 HB5.out.size)
    clear hb6
    go_wp2_with fail
    refine (awake_any w6).mono ?_
    rintro e w7 ⟨rfl, hb7⟩
    have HB7 := Lib.hid (below_keep HB6.out hb7 HB6.out.size)
    clear hb7
    go_wp2_with fail
    go_ret
    exact ⟨rfl, HB7.out⟩
  · rw [if_neg h0] at hn
    have hp : 0 < len := by omega
    obtain ⟨hl1, _, hc⟩ := h
    rcases hc with hc | ⟨b, off, rfl, hlt, hc⟩
    · exact absurd hc h0
    have hg := hc 0 hp
    rw [hn, Nat.add_zero] at hg
    clear hc hn hl1 h0
    go_enter Try.func3, Try.ntmps3
    go_wp2_with fail
    refine (I1.out _).mono ?_
    rintro e w1 ⟨rfl, hb1⟩
    go_wp2_with fail
    refine (I2.out _).mono ?_
    rintro e w2 ⟨rfl, hb2⟩
    have HB2 := Lib.hid (below_keep hb1 hb2 hb1.size)
    clear hb1 hb2
    go_wp2_with fail
    refine (F1.out _).mono ?_
    rintro e w3 ⟨rfl, rfl⟩
    go_wp2_with fail
    refine (F2.out _).mono ?_
    rintro e w3 ⟨rfl, rfl⟩
    go_wp2_with fail
    refine (T1.out _).mono ?_
    rintro e w3 ⟨rfl, hb3⟩
    have HB3 := Lib.hid (below_keep HB2.out hb3 HB2.out.size)
    clear hb3
    go_wp2_with fail
    refine (T2.out _).mono ?_
    rintro e w4 ⟨rfl, hb4⟩
    have HB4 := Lib.hid (below_keep HB3.out hb4 HB3.out.size)
    clear hb4
    go_wp2_with fail
    refine (S1.out _ (HA.out.keep HB4.out)).mono ?_
    rintro e w5 ⟨rfl, hb5⟩
    have HB5 := Lib.hid (below_keep HB4.out hb5 HB4.out.size)
    clear hb5
    go_wp2_with fail
    refine (S2.out _ (HA.out.keep HB5.out)).mono ?_
    rintro e w6 ⟨rfl, hb6⟩
    have HB6 := Lib.hid (below_keep HB5.out hb6 HB5.out.size)
    clear hb6
    go_wp2_with fail
    refine (awake_any w6).mono ?_
    rintro e w7 ⟨rfl, hb7⟩
    have HB7 := Lib.hid (below_keep HB6.out hb7 HB6.out.size)
    clear hb7
    go_wp2_with fail
    go_ret
    exact ⟨rfl, HB7.out⟩

/-- The two readers that nobody made, and the slice that holds them. -/
def NobodyAt (B : Nat) (w : World) : Prop := RdAt w B none ∧ w.cell? ⟨B + 1, 0, none⟩ = some (.pointer none) ∧ w.cell? ⟨B + 1, 1, none⟩ = some (.pointer (some ⟨B, 0, none⟩)) ∧ B + 1 < w.heap.size
theorem NobodyAt.keep {B : Nat} {w w' : World} (h : NobodyAt B w) (hb : Below w.heap.size w w') : NobodyAt B w' := by
  obtain ⟨h1, h2, h3, h4⟩ := h
  exact ⟨h1.keep (hb.block _ h1.lt), (hb.cell (p := ⟨B + 1, 0, none⟩) h4).trans h2, (hb.cell (p := ⟨B + 1, 1, none⟩) h4).trans h3, by have := hb.size; omega⟩
theorem NobodyAt.step {B : Nat} {w w' : World} (h : NobodyAt B w) (hs : RdStep w B none w') : NobodyAt B w' := by
  obtain ⟨h1, h2, h3, h4⟩ := h
  have hne : some (B + 1) ≠ some B := by simp
  exact ⟨hs.1, hs.2.cell h2 hne, hs.2.cell h3 hne, by have := hs.2.size; omega⟩
theorem nobody_at (W : World) : NobodyAt W.heap.size ((W.alloc (.cells #[.bool false, .string ⟨#[]⟩] 44)).alloc (.cells #[.pointer none, .pointer (some ⟨W.heap.size, 0, none⟩)] 31)) := by
  refine ⟨⟨⟨#[]⟩, ?_, rfl, by decide⟩, ?_, ?_, ?_⟩
  · rw [Below.heap_alloc _ _ _ (by simp)]
    exact heap_alloc_new _ _
  · have h := World.cell?_alloc_at (w := W.alloc (.cells #[.bool false, .string ⟨#[]⟩] 44)) #[.pointer none, .pointer (some ⟨W.heap.size, 0, none⟩)] 31 (W.heap.size + 1) 0 (by simp)
    exact h
  · have h := World.cell?_alloc_at (w := W.alloc (.cells #[.bool false, .string ⟨#[]⟩] 44)) #[.pointer none, .pointer (some ⟨W.heap.size, 0, none⟩)] 31 (W.heap.size + 1) 1 (by simp)
    exact h
  · simp
theorem wireNobody_walk (lo hi : Int) (W : World) :
    Calls Try.prog 6 #[.int .i64 lo, .int .i64 hi] W fun e w' => e = .returned (.bool true) ∧ Below W.heap.size W w' := by
  have hnob := nobody_at W
  have HNOB := Lib.hid hnob; clear hnob
  have t0 : (⟨#[]⟩ : ByteArray).toList.isEmpty = true := empty_yes _ rfl
  go_enter Try.func6, Try.ntmps6
  go_wp2_with fail
  go_loopw [6] (fun i wr => ∃ k : Nat, k ≤ 2 ∧ i = .int .i64 (k : Int) ∧ Hid (NobodyAt W.heap.size wr) ∧ Below W.heap.size W wr) (fun i _ => 2 - (intOf i).toNat)
  case atStart => exact ⟨0, by omega, rfl, HNOB, ((Below.refl _ W).alloc (Nat.le_refl _) _).alloc (by simp) _⟩
  case round =>
    obtain ⟨k, hk, rfl, hN, hbw⟩ := hrel
    obtain rfl | rfl | rfl : k = 0 ∨ k = 1 ∨ k = 2 := by omega
    · have c0 := hN.out.2.1
      have HB0 := Lib.hid hbw
      clear hbw
      go_wp2_with fail
      refine (rdint_nil lo hi wr).mono ?_
      rintro e w1 ⟨rfl, hb1⟩
      have HN1 := Lib.hid (hN.out.keep hb1); have HB1 := Lib.hid (below_keep HB0.out hb1 HB0.out.size)
      clear hb1
      go_wp2_with fail
      refine (rdflag_nil w1).mono ?_
      rintro e w2 ⟨rfl, hb2⟩
      have HN2 := Lib.hid (HN1.out.keep hb2); have HB2 := Lib.hid (below_keep HB1.out hb2 HB1.out.size)
      clear hb2
      go_wp2_with fail
      refine (rdtext_nil hi w2).mono ?_
      rintro e w3 ⟨rfl, hb3⟩
      have HN3 := Lib.hid (HN2.out.keep hb3); have HB3 := Lib.hid (below_keep HB2.out hb3 HB2.out.size)
      clear hb3
      go_wp2_with fail
      refine (rdlist_nil hi w3).mono ?_
      rintro e w4 ⟨rfl, hb4⟩
      have HN4 := Lib.hid (HN3.out.keep hb4); have HB4 := Lib.hid (below_keep HB3.out hb4 HB3.out.size)
      clear hb4
      go_wp2_with fail
      refine (left_nil w4).mono ?_
      rintro e w5 ⟨rfl, rfl⟩
      go_wp2_with fail
      refine (rddone_nil w4).mono ?_
      rintro e w6 ⟨rfl, hb6⟩
      have HN6 := Lib.hid (HN4.out.keep hb6); have HB6 := Lib.hid (below_keep HB4.out hb6 HB4.out.size)
      clear hb6
      go_wp2_with fail
      go_roundw
      case rel => exact ⟨1, by omega, by simp, HN6, HB6.out⟩
      case measure => simp [intOf]
    · have c0 := hN.out.2.2.1
      have HB0 := Lib.hid hbw
      clear hbw
      go_wp2_with fail
      refine (rdint_is W.heap.size none none lo hi 0 wr hN.out.1 rfl).mono ?_
      rintro e w1 ⟨rfl, hs1⟩
      have HN1 := Lib.hid (hN.out.step hs1); have HB1 := Lib.hid (HB0.out.trans (hs1.below hN.out.1 (Nat.le_refl _)))
      clear hs1
      go_wp2_with fail
      refine (rdflag_is W.heap.size none none false w1 HN1.out.1 rfl).mono ?_
      rintro e w2 ⟨rfl, hs2⟩
      have HN2 := Lib.hid (HN1.out.step hs2); have HB2 := Lib.hid (HB1.out.trans (hs2.below HN1.out.1 (Nat.le_refl _)))
      clear hs2
      go_wp2_with fail
      refine (rdtext_is W.heap.size none none hi ⟨#[]⟩ w2 HN2.out.1 rfl).mono ?_
      rintro e w3 ⟨rfl, hs3⟩
      have HN3 := Lib.hid (HN2.out.step hs3); have HB3 := Lib.hid (HB2.out.trans (hs3.below HN2.out.1 (Nat.le_refl _)))
      clear hs3
      go_wp2_with fail
      refine (rdlist_is W.heap.size none none hi 0 w3 HN3.out.1 rfl).mono ?_
      rintro e w4 ⟨rfl, hs4⟩
      have HN4 := Lib.hid (HN3.out.step hs4); have HB4 := Lib.hid (HB3.out.trans (hs4.below HN3.out.1 (Nat.le_refl _)))
      clear hs4
      go_wp2_with fail
      refine (left_any W.heap.size none w4 HN4.out.1).mono ?_
      rintro e w5 ⟨rfl, rfl⟩
      go_wp2_with fail
      refine (rddone_is W.heap.size none false w4 HN4.out.1 rfl).mono ?_
      rintro e w6 ⟨rfl, hb6⟩
      have HN6 := Lib.hid (HN4.out.keep hb6); have HB6 := Lib.hid (below_keep HB4.out hb6 HB4.out.size)
      clear hb6
      go_wp2_with fail
      go_roundw
      case rel => exact ⟨2, by omega, by simp, HN6, HB6.out⟩
      case measure => simp [intOf]
    · go_wp2_with fail
      refine (awake_any wr).mono ?_
      rintro e w1 ⟨rfl, hb1⟩
      go_wp2_with fail
      go_ret
      exact ⟨rfl, below_keep hbw hb1 hbw.size⟩
end Go.Proofs.Ytjenhgbighlooaa
