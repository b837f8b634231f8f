/-
  The law StampTorn, walked.
-/
import Derived.Test.YtacmnejdellbbaaStampJ
import Derived.Lib.QuietBelow
import Derived.Deep.QuietTactic
set_option linter.unusedVariables false
namespace Go.Proofs.Ytacmnejdellbbaa
open Go.RowKit CrcP StampP

/-- A slice of numbers. -/
def NumsAt (w : World) (a : Option Addr) (len : Nat) (xs : List Int) : Prop :=
  len ≤ 9223372036854775807 ∧ (len = 0 ∨ ∃ b off, a = some ⟨b, off, none⟩ ∧ b < w.heap.size ∧ ∀ i, i < len → w.cell? ⟨b, off + i, none⟩ = some (.int .i64 (xs.getD i 0)))
/-- The stamp that came in stands in a block of its own. -/
structure Bx (w w' : World) (n i c : Int) : Prop where
  bel : Below w.heap.size w w'
  box : w'.heap[w.heap.size]? = some (.cells #[.int .i64 n, .int .i64 i, .int .i64 c] 23 (0, 0))
theorem Bx.lt {w w' : World} {n i c : Int} (h : Bx w w' n i c) : w.heap.size < w'.heap.size := (Array.getElem?_eq_some_iff.1 h.box).1
theorem Bx.keep {w w' w2 : World} {n i c : Int} (h : Bx w w' n i c) (hB : Below w'.heap.size w' w2) : Bx w w2 n i c :=
  ⟨h.bel.trans (hB.mono (Nat.le_of_lt h.lt)), (hB.block _ h.lt).trans h.box⟩
theorem Bx.alloc {w w' : World} {n i c : Int} (h : Bx w w' n i c) (o : Obj) : Bx w (w'.alloc o) n i c := h.keep ((Below.refl _ _).alloc (Nat.le_refl _) o)
theorem bx_new (w : World) (n i c : Int) : Bx w (w.alloc (.cells #[.int .i64 n, .int .i64 i, .int .i64 c] 23)) n i c := ⟨(Below.refl _ w).alloc (Nat.le_refl _) _, heap_alloc_new _ _⟩
theorem stampTorn_long (n i c tear : Int) (s : ByteArray) (a : Option Addr) (len cap : Nat) (W : World) (h : 104 < s.size) (hs : s.size ≤ 9223372036854775807) (hl : len ≤ 9223372036854775807) :
    Calls Try.prog 6 #[stV n i c, .string s, .int .i64 tear, .slice a len cap] W fun e w' => e = .returned (.bool true) ∧ Below W.heap.size W w' := by
  unfold stV
  have HB := Lib.hid (bx_new W n i c)
  go_enter Try.func6, Try.ntmps6
  go_wp2_with fail
  refine (awake_any _).mono ?_
  rintro e w' ⟨rfl, hb⟩
  have HB2 := Lib.hid (HB.out.keep hb)
  clear hb
  go_wp2_with fail
  go_ret
  exact ⟨rfl, HB2.out.bel⟩
theorem stampTorn_many (n i c tear : Int) (s : ByteArray) (a : Option Addr) (len cap : Nat) (W : World) (h : s.size ≤ 104) (h2 : 12 < len) (hl : len ≤ 9223372036854775807) :
    Calls Try.prog 6 #[stV n i c, .string s, .int .i64 tear, .slice a len cap] W fun e w' => e = .returned (.bool true) ∧ Below W.heap.size W w' := by
  unfold stV
  have HB := Lib.hid (bx_new W n i c)
  go_enter Try.func6, Try.ntmps6
  go_wp2_with fail
  refine (awake_any _).mono ?_
  rintro e w' ⟨rfl, hb⟩
  have HB2 := Lib.hid (HB.out.keep hb)
  clear hb
  go_wp2_with fail
  go_ret
  exact ⟨rfl, HB2.out.bel⟩
theorem stampTorn_not (n i c tear : Int) (s : ByteArray) (a : Option Addr) (len cap : Nat) (W : World) (h : s.size ≤ 104) (h2 : len ≤ 12) (hf : ¬ fit n i c) :
    Calls Try.prog 6 #[stV n i c, .string s, .int .i64 tear, .slice a len cap] W fun e w' => e = .returned (.bool true) ∧ Below W.heap.size W w' := by
  have k1 := fun w => seal_not n i c s w hf
  unfold stV at *
  have HB := Lib.hid (bx_new W n i c); have K1 := Lib.hid k1
  clear k1 hf
  go_enter Try.func6, Try.ntmps6
  go_wp2_with fail
  refine (K1.out _).mono ?_
  rintro e w1 ⟨rfl, hb⟩
  have HB1 := Lib.hid (HB.out.keep hb)
  clear hb HB
  go_wp2_with fail
  refine (awake_any _).mono ?_
  rintro e w' ⟨rfl, hb⟩
  have HB2 := Lib.hid (HB1.out.keep hb)
  clear hb
  go_wp2_with fail
  go_ret
  exact ⟨rfl, HB2.out.bel⟩
/-- What Open says of a torn sector. -/
theorem torn_says {n i c : Nat} {s : ByteArray} {B : ByteArray} (hf : fit n i c) (hs : s.size ≤ 104) (ht : Torn (sl n i c s.data.toList) B.data.toList) :
    (opn B.data.toList = none ∧ (B.toList == (str (sl n i c s.data.toList)).toList) = false) ∨ (opn B.data.toList = some (n, i, c, s.data.toList) ∧ B = str (sl n i c s.data.toList)) := by
  have hl : s.data.toList.length ≤ 104 := by rw [len_list]; exact hs
  rcases ho : opn B.data.toList with _ | ⟨n2, i2, c2, s2⟩
  · refine .inl ⟨rfl, beq_eq_false_iff_ne.2 fun e => ?_⟩
    rw [ByteArray.toList_eq, ByteArray.toList_eq] at e
    rw [e, show (str (sl n i c s.data.toList)).data.toList = sl n i c s.data.toList from rfl, opn_sl hf hl] at ho
    cases ho
  · have e := torn_open hf hl ht ho
    refine .inr ⟨?_, text_inj e⟩
    rw [← ho, e, opn_sl hf hl]
set_option maxHeartbeats 4000000 in
theorem stampTorn_walk (n i c : Nat) (tear : Int) (s : ByteArray) (a : Option Addr) (len cap : Nat) (xs : List Int) (W : World) (h : s.size ≤ 104) (h2 : len ≤ 12) (hf : fit n i c) (hx : NumsAt W a len xs) :
    Calls Try.prog 6 #[stV n i c, .string s, .int .i64 tear, .slice a len cap] W fun e w' => e = .returned (.bool true) ∧ Below W.heap.size W w' := by
  have k1 := fun w => seal_yes n i c s w hf h
  have hsl : (sl n i c s.data.toList).length = 128 := sl_length _ _ _ _ (by rw [len_list]; exact h)
  have hsays := fun B ht => torn_says (n := n) (i := i) (c := c) (s := s) (B := B) hf h ht
  obtain ⟨A, hA⟩ : ∃ A, sl n i c s.data.toList = A := ⟨_, rfl⟩
  rw [hA] at k1 hsl hsays
  obtain ⟨t, ht⟩ : ∃ t, str A = t := ⟨_, rfl⟩
  have hts : t.size = 128 := by rw [← ht]; exact hsl
  have htd : t.data.toList = A := by rw [← ht]; rfl
  rw [ht] at k1 hsays
  obtain ⟨bl, hbl⟩ : ∃ bl, str zeros = bl := ⟨_, rfl⟩
  have hbs : bl.size = 128 := by rw [← hbl, str_size, zeros, List.length_replicate]
  have hbd : bl.data.toList = zeros := by rw [← hbl]; rfl
  have k2 := fun w => rblank_any w
  rw [hbl] at k2
  obtain ⟨k, hk, k3⟩ := torn_any bl t tear hbs hts
  rw [htd, hbd] at k3
  have ht0 := torn_first hsl hk
  obtain ⟨B0, hB0⟩ : ∃ B0, str (A.take k ++ zeros.drop k) = B0 := ⟨_, rfl⟩
  rw [hB0] at k3
  have hB0s : B0.size = 128 := by rw [← hB0]; exact ht0.2.1
  have hT0 : Torn A B0.data.toList := by rw [← hB0]; exact ht0
  have hsome : opV (some (n, i, c, s.data.toList)) = .tuple #[.agg #[.int .i64 n, .int .i64 i, .int .i64 c], .string s, .int .i64 0] := by show Value.tuple #[stV _ _ _, .string (str _), .int .i64 0] = _; rw [str_data]; rfl
  have hnone : opV none = .tuple #[.agg #[.int .i64 0, .int .i64 0, .int .i64 0], .string ⟨#[]⟩, .int .i64 12] := rfl
  unfold stV at *
  have HB := Lib.hid (bx_new W n i c)
  have K1 := Lib.hid k1; have K2 := Lib.hid k2; have K3 := Lib.hid k3; have HSAYS := Lib.hid hsays; have HT0 := Lib.hid hT0; have HBS := Lib.hid hbs; have HBD := Lib.hid hbd; have HX := Lib.hid hx
  have HSOME := Lib.hid hsome; have HNONE := Lib.hid hnone; have HB0S := Lib.hid hB0s
  clear k1 k2 k3 hsays hT0 hbs hbd hx hsome hnone ht0 hB0 hbl ht hA htd hsl hf hB0s hts
  go_enter Try.func6, Try.ntmps6
  go_wp2_with fail
  refine (K1.out _).mono ?_
  rintro e w1 ⟨rfl, hb⟩
  have HB1 := Lib.hid (HB.out.keep hb)
  clear hb HB
  go_wp2_with fail
  refine (K2.out _).mono ?_
  rintro e w2 ⟨rfl, hb⟩
  have HB2 := Lib.hid (HB1.out.keep hb)
  clear hb HB1
  go_wp2_with fail
  refine (K3.out _).mono ?_
  rintro e w3 ⟨rfl, hb⟩
  have HB3 := Lib.hid (HB2.out.keep hb)
  clear hb HB2 K3
  go_wp2_with fail
  go_loopw [11, 12] (fun x y wr => ∃ (j : Nat) (B : ByteArray), j ≤ len + 1 ∧ x = .string B ∧ y = .int .i64 (j : Int) ∧ Hid (B.size = 128) ∧ Hid (Torn A B.data.toList) ∧ Hid (Bx W wr n i c)) (fun _ y _ => len + 1 - (intOf y).toNat)
  case atStart => exact ⟨0, B0, Nat.zero_le _, rfl, rfl, HB0S, HT0, HB3⟩
  case round =>
    obtain ⟨j, B, hj, rfl, rfl, hBs, hT, hBx⟩ := hrel
    by_cases hlt : j < len + 1
    · have hji : (j : Int) ≤ (len : Int) := by omega
      have ho := fun w => open_any B w (by rw [hBs.out]; decide)
      rcases HSAYS.out B hT.out with ⟨e1, e2⟩ | ⟨e1, e2⟩
      · rw [e1, HNONE.out] at ho
        have HO := Lib.hid ho
        clear ho e1
        go_wp2_with fail
        refine (HO.out _).mono ?_
        rintro e w4 ⟨rfl, hb⟩
        have HB4 := Lib.hid ((hBx.out.keep hb).alloc (.cells #[.int .i64 0, .int .i64 0, .int .i64 0] 23))
        clear hb
        have hbl := HB4.out.bel
        by_cases hjl : j < len
        · rcases HX.out.2 with h0 | ⟨xb, off, rfl, hxl, hc⟩
          · omega
          have d1 := (hbl.cell (p := ⟨xb, off + j, none⟩) hxl).trans (hc j hjl)
          obtain ⟨xj, hxj⟩ : ∃ y, xs.getD j 0 = y := ⟨_, rfl⟩
          rw [hxj] at d1
          obtain ⟨k5, hk5, kt⟩ := torn_any B bl xj hBs.out HBS.out
          rw [HBD.out] at kt
          have ht5 := torn_more hT.out hk5
          obtain ⟨B5, hB5⟩ : ∃ B5, str (zeros.take k5 ++ (B).data.toList.drop k5) = B5 := ⟨_, rfl⟩
          rw [hB5] at kt
          have HS5 := Lib.hid (show B5.size = 128 by rw [← hB5]; exact ht5.2.1)
          have HT5 := Lib.hid (show Torn A B5.data.toList by rw [← hB5]; exact ht5)
          have KT := Lib.hid kt
          clear hbl hxj kt ht5 hB5 hc
          have hji2 : (j : Int) < (len : Int) := by omega
          have hji0 : (0 : Int) ≤ (j : Int) := by omega
          go_wp2_with fail
          generalize w4.alloc (.cells #[.int .i64 0, .int .i64 0, .int .i64 0] 23) = w5 at *
          have g1 := fun d os => cell_regrown d1 d os
          have C1 := Lib.hid (fun d os => Calls.regrown_of (K2.out (Sort.grow (redrawn w5 d) os)))
          have C2 := Lib.hid (fun d os => Calls.regrown_of (KT.out (Sort.grow (redrawn w5 d) os)))
          refine wp_region_quiet_below (by kernel_rfl) (by kernel_rfl) ?_
          repeat (quiet_step (first | with_reducible exact C1.out _ _ | with_reducible exact C2.out _ _))
          refine wpQuiet_nil ?_
          intro _ hw'
          obtain ⟨⟨dq, osq⟩, hw''⟩ := hw'
          subst hw''
          have HB6 := Lib.hid (HB4.out.keep (below_regrown w5 dq osq))
          clear g1 C1 C2 HB4 d1
          generalize Sort.grow (redrawn w5 dq) osq = w6 at *
          go_wp2_with fail
          go_roundw
          case rel => exact ⟨j + 1, B5, by omega, rfl, by go_num, HS5, HT5, HB6⟩
          case measure => simp [intOf]; omega
        · have hji2 : ¬ (j : Int) < (len : Int) := by omega
          go_wp2_with fail
          go_roundw
          case rel => exact ⟨j + 1, B, by omega, rfl, by go_num, hBs, hT, HB4⟩
          case measure => simp [intOf]; omega
      · subst e2
        rw [e1, HSOME.out] at ho
        have HO := Lib.hid ho
        clear ho e1
        go_wp2_with fail
        refine (HO.out _).mono ?_
        rintro e w4 ⟨rfl, hb⟩
        have HB4 := Lib.hid ((hBx.out.keep hb).alloc (.cells #[.int .i64 n, .int .i64 i, .int .i64 c] 23))
        have x0 : (w4.alloc (.cells #[.int .i64 n, .int .i64 i, .int .i64 c] 23)).cell? ⟨W.heap.size, 0, none⟩ = some (.int .i64 n) := cell_of_heap HB4.out.box
        have x1 : (w4.alloc (.cells #[.int .i64 n, .int .i64 i, .int .i64 c] 23)).cell? ⟨W.heap.size, 1, none⟩ = some (.int .i64 i) := cell_of_heap HB4.out.box
        have x2 : (w4.alloc (.cells #[.int .i64 n, .int .i64 i, .int .i64 c] 23)).cell? ⟨W.heap.size, 2, none⟩ = some (.int .i64 c) := cell_of_heap HB4.out.box
        clear hb
        have hbl := HB4.out.bel
        by_cases hjl : j < len
        · rcases HX.out.2 with h0 | ⟨xb, off, rfl, hxl, hc⟩
          · omega
          have d1 := (hbl.cell (p := ⟨xb, off + j, none⟩) hxl).trans (hc j hjl)
          obtain ⟨xj, hxj⟩ : ∃ y, xs.getD j 0 = y := ⟨_, rfl⟩
          rw [hxj] at d1
          obtain ⟨k5, hk5, kt⟩ := torn_any B bl xj hBs.out HBS.out
          rw [HBD.out] at kt
          have ht5 := torn_more hT.out hk5
          obtain ⟨B5, hB5⟩ : ∃ B5, str (zeros.take k5 ++ (B).data.toList.drop k5) = B5 := ⟨_, rfl⟩
          rw [hB5] at kt
          have HS5 := Lib.hid (show B5.size = 128 by rw [← hB5]; exact ht5.2.1)
          have HT5 := Lib.hid (show Torn A B5.data.toList by rw [← hB5]; exact ht5)
          have KT := Lib.hid kt
          clear hbl hxj kt ht5 hB5 hc
          have hji2 : (j : Int) < (len : Int) := by omega
          have hji0 : (0 : Int) ≤ (j : Int) := by omega
          go_wp2_with fail
          generalize w4.alloc (.cells #[.int .i64 n, .int .i64 i, .int .i64 c] 23) = w5 at *
          have g1 := fun d os => cell_regrown d1 d os
          have C1 := Lib.hid (fun d os => Calls.regrown_of (K2.out (Sort.grow (redrawn w5 d) os)))
          have C2 := Lib.hid (fun d os => Calls.regrown_of (KT.out (Sort.grow (redrawn w5 d) os)))
          refine wp_region_quiet_below (by kernel_rfl) (by kernel_rfl) ?_
          repeat (quiet_step (first | with_reducible exact C1.out _ _ | with_reducible exact C2.out _ _))
          refine wpQuiet_nil ?_
          intro _ hw'
          obtain ⟨⟨dq, osq⟩, hw''⟩ := hw'
          subst hw''
          have HB6 := Lib.hid (HB4.out.keep (below_regrown w5 dq osq))
          clear g1 C1 C2 HB4 d1
          generalize Sort.grow (redrawn w5 dq) osq = w6 at *
          go_wp2_with fail
          go_roundw
          case rel => exact ⟨j + 1, B5, by omega, rfl, by go_num, HS5, HT5, HB6⟩
          case measure => simp [intOf]; omega
        · have hji2 : ¬ (j : Int) < (len : Int) := by omega
          go_wp2_with fail
          go_roundw
          case rel => exact ⟨j + 1, B, by omega, rfl, by go_num, hBs, hT, HB4⟩
          case measure => simp [intOf]; omega
    · obtain rfl : j = len + 1 := by omega
      go_wp2_with fail
      refine (awake_any _).mono ?_
      rintro e w5 ⟨rfl, hb⟩
      have HB5 := Lib.hid (hBx.out.keep hb)
      clear hb
      go_wp2_with fail
      go_ret
      exact ⟨rfl, HB5.out.bel⟩
end Go.Proofs.Ytacmnejdellbbaa
