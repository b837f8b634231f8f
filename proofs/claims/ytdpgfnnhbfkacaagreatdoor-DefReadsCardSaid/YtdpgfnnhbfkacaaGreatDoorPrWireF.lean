/-
  The contracts of wire.length and of the methods of wire.Reader: a reader that stands anywhere, a bad one, none; any bounds.
-/
import Derived.Test.YtdpgfnnhbfkacaaGreatDoorPrWireB
import Derived.Maps.AppendAt
import Derived.OwnWalk
set_option linter.unusedVariables false
set_option maxRecDepth 4000
namespace Go.Proofs.YtdpgfnnhbfkacaaGreatDoor.Wire
open Go.RowKit WireP
theorem grown_of_below {w w' : World} {row : Option Nat} (h : Below w.heap.size w w') : w.grownBy w' row := ⟨h.os, h.tape, h.output, h.size, fun k hk _ => h.block k hk⟩
theorem below_of_grown {w w' : World} {b B : Nat} (h : w.grownBy w' (some b)) (hB : B ≤ b) (hb : b < w.heap.size) : Below B w w' := ⟨h.os, h.tape, h.output, h.size, fun k hk => h.block k (by omega) (fun e => by cases e; omega)⟩
theorem number_is (s : ByteArray) (l : List UInt8) (n k : Int) (w : World) (hs : s.size ≤ 4398046511104) (hl : s.data.toList = l) (h : numOut l = (n, k)) :
    Calls Tryz.prog 126 #[.string s] w fun e w' => e = .returned (.tuple #[.int .i64 n, .int .i64 k]) ∧ Below w.heap.size w w' := by
  have h2 := number_any s w hs
  rw [hl, h] at h2
  exact h2
theorem ahead_is (b : Nat) (st : St) (z : ByteArray) (w : World) (h : RdAt w b st) (hz : z.data.toList = st.getD []) :
    Calls Tryz.prog 80 #[.pointer (some ⟨b, 0, none⟩)] w fun e w' => e = .returned (.string z) ∧ w = w' := by
  have h2 := ahead_any b st w h
  rw [← str_eq hz] at h2
  exact h2
theorem RdAt.text {w : World} {b : Nat} {st : St} (h : RdAt w b st) : ∃ z : ByteArray, z.data.toList = st.getD [] ∧ z.size ≤ 4398046511104 := by
  obtain ⟨z, h1, h2, h3⟩ := h
  exact ⟨z, h2, h3⟩
theorem pass_on (b : Nat) (k : Int) (l : List UInt8) (w : World) (h : RdAt w b (some l)) (h0 : 0 ≤ k) (hk : k ≤ (l.length : Nat)) :
    Calls Tryz.prog 106 #[.pointer (some ⟨b, 0, none⟩), .int .i64 k, .bool true] w fun e w' => e = .returned (.bool true) ∧ RdAt w' b (some (l.drop k.toNat)) ∧ w.grownBy w' (some b) := by
  obtain ⟨n, rfl⟩ : ∃ n : Nat, k = n := ⟨k.toNat, by omega⟩
  rw [Int.toNat_natCast]
  exact pass_yes b n l w h (by omega)
def lenOut (most : Int) (l : List UInt8) : Int × Int × Bool := if lenOk most l then (num l, 1 + ((nl l : Nat) : Int), true) else (0, 0, false)
theorem lenOut_no {most : Int} {l : List UInt8} (h : ¬ lenOk most l) : lenOut most l = (0, 0, false) := by unfold lenOut; rw [if_neg h]
theorem lenOut_yes {most : Int} {l : List UInt8} (h : lenOk most l) : lenOut most l = (num l, 1 + ((nl l : Nat) : Int), true) := by unfold lenOut; rw [if_pos h]
theorem length_any (s : ByteArray) (most : Int) (w : World) (hs : s.size ≤ 4398046511104) :
    Calls Tryz.prog 105 #[.string s, .int .i64 most] w fun e w' => e = .returned (.tuple #[.int .i64 (lenOut most s.data.toList).1, .int .i64 (lenOut most s.data.toList).2.1, .bool (lenOut most s.data.toList).2.2]) ∧ Below w.heap.size w w' := by
  obtain ⟨l, hl⟩ : ∃ l, s.data.toList = l := ⟨_, rfl⟩
  have hll : l.length = s.size := by rw [← hl, len_list]
  rw [hl]
  cases hok : ok l with
  | false =>
    rw [lenOut_no (fun h => by rw [h.1] at hok; cases hok)]
    have hnum := fun w => number_is s l 0 0 w hs hl (numOut_no hok)
    have HN := Lib.hid hnum
    clear hnum hl hok hll
    go_enter Tryz.func105, Tryz.ntmps105
    go_wp2_with fail
    refine (HN.out _).mono ?_
    rintro e w' ⟨rfl, hb⟩
    go_wp2_with fail
    go_ret3
    exact ⟨rfl, hb⟩
  | true =>
    have ⟨_, h8, hlt, _⟩ := ok_iff.1 hok
    have hnb := num_bounds hok
    have hnum := fun w => number_is s l (num l) (1 + ((nl l : Nat) : Int)) w hs hl (numOut_yes hok)
    by_cases hlk : lenOk most l
    · rw [lenOut_yes hlk]
      have ⟨_, hk0, hk1, hk2⟩ := hlk
      generalize num l = N at *
      generalize nl l = K at *
      have t1 : (1 + (K : Int) == 0) = false := beq_eq_false_iff_ne.2 (by omega)
      have t2 : decide (N < 0) = false := decide_eq_false (by omega)
      have t3 : decide (most < N) = false := decide_eq_false (by omega)
      have t4 : decide ((s.size : Int) - (1 + (K : Int)) < N) = false := decide_eq_false (by omega)
      have HN := Lib.hid hnum
      clear hnum hl hok hlk hk2 hll
      go_enter Tryz.func105, Tryz.ntmps105
      go_wp2_with fail
      refine (HN.out _).mono ?_
      rintro e w' ⟨rfl, hb⟩
      go_wp2_with fail
      go_ret3
      exact ⟨rfl, hb⟩
    · rw [lenOut_no hlk]
      have hcase : num l < 0 ∨ (0 ≤ num l ∧ most < num l) ∨ (0 ≤ num l ∧ num l ≤ most ∧ (s.size : Int) - (1 + ((nl l : Nat) : Int)) < num l) := by
        by_cases c1 : num l < 0
        · exact .inl c1
        by_cases c2 : most < num l
        · exact .inr (.inl ⟨by omega, c2⟩)
        · refine .inr (.inr ⟨by omega, by omega, ?_⟩)
          have c3 : ¬ num l ≤ ((l.length - (1 + nl l) : Nat) : Int) := fun h => hlk ⟨hok, by omega, by omega, h⟩
          omega
      generalize num l = N at *
      generalize nl l = K at *
      have HN := Lib.hid hnum
      clear hnum hl hok hlk hll
      have t1 : (1 + (K : Int) == 0) = false := beq_eq_false_iff_ne.2 (by omega)
      rcases hcase with c1 | ⟨c1, c2⟩ | ⟨c1, c2, c3⟩
      · have t2 : decide (N < 0) = true := decide_eq_true (by omega)
        go_enter Tryz.func105, Tryz.ntmps105
        go_wp2_with fail
        refine (HN.out _).mono ?_
        rintro e w' ⟨rfl, hb⟩
        go_wp2_with fail
        go_ret3
        exact ⟨rfl, hb⟩
      · have t2 : decide (N < 0) = false := decide_eq_false (by omega)
        have t3 : decide (most < N) = true := decide_eq_true (by omega)
        go_enter Tryz.func105, Tryz.ntmps105
        go_wp2_with fail
        refine (HN.out _).mono ?_
        rintro e w' ⟨rfl, hb⟩
        go_wp2_with fail
        go_ret3
        exact ⟨rfl, hb⟩
      · have t2 : decide (N < 0) = false := decide_eq_false (by omega)
        have t3 : decide (most < N) = false := decide_eq_false (by omega)
        have t4 : decide ((s.size : Int) - (1 + (K : Int)) < N) = true := decide_eq_true (by omega)
        go_enter Tryz.func105, Tryz.ntmps105
        go_wp2_with fail
        refine (HN.out _).mono ?_
        rintro e w' ⟨rfl, hb⟩
        go_wp2_with fail
        go_ret3
        exact ⟨rfl, hb⟩
theorem length_is (s : ByteArray) (l : List UInt8) (most n k : Int) (v : Bool) (w : World) (hs : s.size ≤ 4398046511104) (hl : s.data.toList = l) (h : lenOut most l = (n, k, v)) :
    Calls Tryz.prog 105 #[.string s, .int .i64 most] w fun e w' => e = .returned (.tuple #[.int .i64 n, .int .i64 k, .bool v]) ∧ Below w.heap.size w w' := by
  have h2 := length_any s most w hs
  rw [hl, h] at h2
  exact h2

theorem rdInt_no {lo hi : Int} {l : List UInt8} (h : ¬ (ok l = true ∧ lo ≤ num l ∧ num l ≤ hi)) : rdInt lo hi (some l) = (0, none) := by show ite _ _ _ = _; rw [if_neg h]
theorem rdInt_yes {lo hi : Int} {l : List UInt8} (h : ok l = true ∧ lo ≤ num l ∧ num l ≤ hi) : rdInt lo hi (some l) = (num l, some (l.drop (1 + nl l))) := by show ite _ _ _ = _; rw [if_pos h]
theorem rdint_fail (b : Nat) (st : St) (lo hi n k : Int) (w : World) (h : RdAt w b st) (hn : numOut (st.getD []) = (n, k)) (hc : k ≤ 0 ∨ (0 < k ∧ n < lo) ∨ (0 < k ∧ lo ≤ n ∧ hi < n)) :
    Calls Tryz.prog 108 #[.pointer (some ⟨b, 0, none⟩), .int .i64 lo, .int .i64 hi] w fun e w' => e = .returned (.int .i64 0) ∧ RdAt w' b none ∧ w.grownBy w' (some b) := by
  obtain ⟨z, hz, hzs⟩ := h.text
  have HA := Lib.hid (ahead_is b st z w h hz)
  have HN := Lib.hid (fun w => number_is z (st.getD []) n k w hzs hz hn)
  have HR := Lib.hid h
  clear h hz hn
  rcases hc with c1 | ⟨c1, c2⟩ | ⟨c1, c2, c3⟩
  · have t1 : decide (0 < k) = false := decide_eq_false (by omega)
    go_enter Tryz.func108, Tryz.ntmps108
    go_wp2_with fail
    refine HA.out.mono ?_
    rintro e w' ⟨rfl, rfl⟩
    go_wp2_with fail
    refine (HN.out _).mono ?_
    rintro e w1 ⟨rfl, hb⟩
    go_wp2_with fail
    refine (pass_no b _ st w1 (HR.out.keep (hb.block b HR.out.lt))).mono ?_
    rintro e w2 ⟨rfl, hr, hg⟩
    have HG := Lib.hid ((grown_of_below hb).trans hg)
    have HR2 := Lib.hid hr
    clear hb hg hr
    go_wp2_with fail
    go_ret
    exact ⟨rfl, HR2.out, HG.out⟩
  · have t1 : decide (0 < k) = true := decide_eq_true (by omega)
    have t2 : decide (lo ≤ n) = false := decide_eq_false (by omega)
    go_enter Tryz.func108, Tryz.ntmps108
    go_wp2_with fail
    refine HA.out.mono ?_
    rintro e w' ⟨rfl, rfl⟩
    go_wp2_with fail
    refine (HN.out _).mono ?_
    rintro e w1 ⟨rfl, hb⟩
    go_wp2_with fail
    refine (pass_no b _ st w1 (HR.out.keep (hb.block b HR.out.lt))).mono ?_
    rintro e w2 ⟨rfl, hr, hg⟩
    have HG := Lib.hid ((grown_of_below hb).trans hg)
    have HR2 := Lib.hid hr
    clear hb hg hr
    go_wp2_with fail
    go_ret
    exact ⟨rfl, HR2.out, HG.out⟩
  · have t1 : decide (0 < k) = true := decide_eq_true (by omega)
    have t2 : decide (lo ≤ n) = true := decide_eq_true (by omega)
    have t3 : decide (n ≤ hi) = false := decide_eq_false (by omega)
    go_enter Tryz.func108, Tryz.ntmps108
    go_wp2_with fail
    refine HA.out.mono ?_
    rintro e w' ⟨rfl, rfl⟩
    go_wp2_with fail
    refine (HN.out _).mono ?_
    rintro e w1 ⟨rfl, hb⟩
    go_wp2_with fail
    refine (pass_no b _ st w1 (HR.out.keep (hb.block b HR.out.lt))).mono ?_
    rintro e w2 ⟨rfl, hr, hg⟩
    have HG := Lib.hid ((grown_of_below hb).trans hg)
    have HR2 := Lib.hid hr
    clear hb hg hr
    go_wp2_with fail
    go_ret
    exact ⟨rfl, HR2.out, HG.out⟩
theorem rdint_any (b : Nat) (st : St) (lo hi : Int) (w : World) (h : RdAt w b st) :
    Calls Tryz.prog 108 #[.pointer (some ⟨b, 0, none⟩), .int .i64 lo, .int .i64 hi] w fun e w' => e = .returned (.int .i64 (rdInt lo hi st).1) ∧ RdAt w' b (rdInt lo hi st).2 ∧ w.grownBy w' (some b) := by
  cases st with
  | none => exact rdint_fail b none lo hi 0 0 w h rfl (.inl (by omega))
  | some l =>
    cases hok : ok l with
    | false =>
      rw [rdInt_no (fun h => by rw [h.1] at hok; cases hok)]
      exact rdint_fail b (some l) lo hi 0 0 w h (numOut_no hok) (.inl (by omega))
    | true =>
      by_cases h1 : num l < lo
      · rw [rdInt_no (fun h => by omega)]
        exact rdint_fail b (some l) lo hi (num l) (1 + ((nl l : Nat) : Int)) w h (numOut_yes hok) (.inr (.inl ⟨by omega, h1⟩))
      by_cases h2 : hi < num l
      · rw [rdInt_no (fun h => by omega)]
        exact rdint_fail b (some l) lo hi (num l) (1 + ((nl l : Nat) : Int)) w h (numOut_yes hok) (.inr (.inr ⟨by omega, by omega, h2⟩))
      rw [rdInt_yes ⟨hok, by omega, by omega⟩]
      have ⟨_, h8, hlt, _⟩ := ok_iff.1 hok
      obtain ⟨z, hz, hzs⟩ := h.text
      have HA := Lib.hid (ahead_is b (some l) z w h hz)
      have HN := Lib.hid (fun w => number_is z l (num l) (1 + ((nl l : Nat) : Int)) w hzs hz (numOut_yes hok))
      have HR := Lib.hid h
      have c1 : lo ≤ num l := by omega
      have c2 : num l ≤ hi := by omega
      clear h hz hok h1 h2
      generalize num l = N at *
      generalize nl l = K at *
      have hk2 : (1 + (K : Int)).toNat = 1 + K := by omega
      have HK := Lib.hid hk2
      clear hk2
      go_enter Tryz.func108, Tryz.ntmps108
      go_wp2_with fail
      refine HA.out.mono ?_
      rintro e w' ⟨rfl, rfl⟩
      go_wp2_with fail
      refine (HN.out _).mono ?_
      rintro e w1 ⟨rfl, hb⟩
      go_wp2_with fail
      refine (pass_on b (1 + (K : Int)) l w1 (HR.out.keep (hb.block b HR.out.lt)) (by omega) (by omega)).mono ?_
      rintro e w2 ⟨rfl, hr, hg⟩
      rw [HK.out] at hr
      have HG := Lib.hid ((grown_of_below hb).trans hg)
      have HR2 := Lib.hid hr
      clear hb hg hr
      go_wp2_with fail
      go_ret
      exact ⟨rfl, HR2.out, HG.out⟩
theorem lenOut_nil (most : Int) : lenOut most [] = (0, 0, false) := lenOut_no (fun h => by have := h.1; cases this)
theorem rdlist_any (b : Nat) (st : St) (most : Int) (w : World) (h : RdAt w b st) :
    Calls Tryz.prog 74 #[.pointer (some ⟨b, 0, none⟩), .int .i64 most] w fun e w' => e = .returned (.int .i64 (rdList most st).1) ∧ RdAt w' b (rdList most st).2 ∧ w.grownBy w' (some b) := by
  obtain ⟨z, hz, hzs⟩ := h.text
  have HA := Lib.hid (ahead_is b st z w h hz)
  have HR := Lib.hid h
  by_cases hy : ∃ l, st = some l ∧ lenOk most l
  · obtain ⟨l, rfl, hlk⟩ := hy
    have ⟨hok, hk0, hk1, hk2⟩ := hlk
    have ⟨_, h8, hlt, _⟩ := ok_iff.1 hok
    have HN := Lib.hid (fun w => length_is z l most _ _ _ w hzs hz (lenOut_yes hlk))
    have hrd : rdList most (some l) = (num l, some (l.drop (1 + nl l))) := by show ite _ _ _ = _; rw [if_pos hlk]
    rw [hrd]
    clear h hz hlk hok hrd
    generalize num l = N at *
    generalize nl l = K at *
    have hk2 : (1 + (K : Int)).toNat = 1 + K := by omega
    have HK := Lib.hid hk2
    clear hk2
    go_enter Tryz.func74, Tryz.ntmps74
    go_wp2_with fail
    refine HA.out.mono ?_
    rintro e w' ⟨rfl, rfl⟩
    go_wp2_with fail
    refine (HN.out _).mono ?_
    rintro e w1 ⟨rfl, hb⟩
    go_wp2_with fail
    refine (pass_on b (1 + (K : Int)) l w1 (HR.out.keep (hb.block b HR.out.lt)) (by omega) (by omega)).mono ?_
    rintro e w2 ⟨rfl, hr, hg⟩
    rw [HK.out] at hr
    have HG := Lib.hid ((grown_of_below hb).trans hg)
    have HR2 := Lib.hid hr
    clear hb hg hr
    go_wp2_with fail
    go_ret
    exact ⟨rfl, HR2.out, HG.out⟩
  · have hln : lenOut most (st.getD []) = (0, 0, false) := by
      cases st with
      | none => exact lenOut_nil most
      | some l => exact lenOut_no (fun h => hy ⟨l, rfl, h⟩)
    have hrd : rdList most st = (0, none) := by
      cases st with
      | none => rfl
      | some l => show ite _ _ _ = _; rw [if_neg (fun h => hy ⟨l, rfl, h⟩)]
    rw [hrd]
    have HN := Lib.hid (fun w => length_is z (st.getD []) most 0 0 false w hzs hz hln)
    clear h hz hln hrd hy
    go_enter Tryz.func74, Tryz.ntmps74
    go_wp2_with fail
    refine HA.out.mono ?_
    rintro e w' ⟨rfl, rfl⟩
    go_wp2_with fail
    refine (HN.out _).mono ?_
    rintro e w1 ⟨rfl, hb⟩
    go_wp2_with fail
    refine (pass_no b _ st w1 (HR.out.keep (hb.block b HR.out.lt))).mono ?_
    rintro e w2 ⟨rfl, hr, hg⟩
    have HG := Lib.hid ((grown_of_below hb).trans hg)
    have HR2 := Lib.hid hr
    clear hb hg hr
    go_wp2_with fail
    go_ret
    exact ⟨rfl, HR2.out, HG.out⟩
theorem text_part (z : ByteArray) (l : List UInt8) (i j : Nat) (hl : z.data.toList = l) : z.extract i j = ⟨((l.drop i).take (j - i)).toArray⟩ := str_eq (by rw [extract_list, hl])
theorem rdtext_any (b : Nat) (st : St) (most : Int) (w : World) (h : RdAt w b st) :
    Calls Tryz.prog 73 #[.pointer (some ⟨b, 0, none⟩), .int .i64 most] w fun e w' => e = .returned (.string ⟨(rdText most st).1.toArray⟩) ∧ RdAt w' b (rdText most st).2 ∧ w.grownBy w' (some b) := by
  obtain ⟨z, hz, hzs⟩ := h.text
  have HA := Lib.hid (ahead_is b st z w h hz)
  have HR := Lib.hid h
  by_cases hy : ∃ l, st = some l ∧ lenOk most l
  · obtain ⟨l, rfl, hlk⟩ := hy
    have ⟨hok, hk0, hk1, hk2⟩ := hlk
    have ⟨_, h8, hlt, _⟩ := ok_iff.1 hok
    have HN := Lib.hid (fun w => length_is z l most _ _ _ w hzs hz (lenOut_yes hlk))
    have hrd : rdText most (some l) = ((l.drop (1 + nl l)).take (num l).toNat, some (l.drop (1 + nl l + (num l).toNat))) := by show ite _ _ _ = _; rw [if_pos hlk]
    rw [hrd]
    have hll : l.length = z.size := by rw [← len_list]; exact congrArg List.length hz.symm
    have HZ := Lib.hid (show z.data.toList = l from hz)
    clear h hz hlk hok hrd
    obtain ⟨M, hM⟩ : ∃ M : Nat, num l = M := ⟨(num l).toNat, by omega⟩
    rw [hM, Int.toNat_natCast]
    rw [hM] at HN hk0 hk1 hk2
    clear hM
    generalize nl l = K at *
    have hk3 : ((1 + (K : Int)) + (M : Int)).toNat = 1 + K + M := by omega
    have hk4 : (1 + (K : Int)).toNat = 1 + K := by omega
    have hk5 : 1 + (K : Int) + (M : Int) ≤ (z.size : Int) := by omega
    have hk6 : 0 ≤ 1 + (K : Int) := by omega
    have hk7 : 0 ≤ 1 + (K : Int) + (M : Int) := by omega
    have hk8 : 1 + (K : Int) ≤ 1 + (K : Int) + (M : Int) := by omega
    have hex := text_part z l (1 + K) (1 + K + M) HZ.out
    rw [show 1 + K + M - (1 + K) = M by omega] at hex
    rw [← hex]
    have HK := Lib.hid hk3
    clear hex hk2
    go_enter Tryz.func73, Tryz.ntmps73
    go_wp2_with fail
    refine HA.out.mono ?_
    rintro e w' ⟨rfl, rfl⟩
    go_wp2_with fail
    refine (HN.out _).mono ?_
    rintro e w1 ⟨rfl, hb⟩
    go_wp2_with fail
    refine (pass_on b (1 + (K : Int) + (M : Int)) l w1 (HR.out.keep (hb.block b HR.out.lt)) (by omega) (by omega)).mono ?_
    rintro e w2 ⟨rfl, hr, hg⟩
    rw [HK.out] at hr
    have HG := Lib.hid ((grown_of_below hb).trans hg)
    have HR2 := Lib.hid hr
    clear hb hg hr
    go_wp2_with fail
    go_ret
    exact ⟨rfl, HR2.out, HG.out⟩
  · have hln : lenOut most (st.getD []) = (0, 0, false) := by
      cases st with
      | none => exact lenOut_nil most
      | some l => exact lenOut_no (fun h => hy ⟨l, rfl, h⟩)
    have hrd : rdText most st = ([], none) := by
      cases st with
      | none => rfl
      | some l => show ite _ _ _ = _; rw [if_neg (fun h => hy ⟨l, rfl, h⟩)]
    rw [hrd]
    have HN := Lib.hid (fun w => length_is z (st.getD []) most 0 0 false w hzs hz hln)
    clear h hz hln hrd hy
    go_enter Tryz.func73, Tryz.ntmps73
    go_wp2_with fail
    refine HA.out.mono ?_
    rintro e w' ⟨rfl, rfl⟩
    go_wp2_with fail
    refine (HN.out _).mono ?_
    rintro e w1 ⟨rfl, hb⟩
    go_wp2_with fail
    refine (pass_no b _ st w1 (HR.out.keep (hb.block b HR.out.lt))).mono ?_
    rintro e w2 ⟨rfl, hr, hg⟩
    have HG := Lib.hid ((grown_of_below hb).trans hg)
    have HR2 := Lib.hid hr
    clear hb hg hr
    go_wp2_with fail
    go_ret
    exact ⟨rfl, HR2.out, HG.out⟩
end Go.Proofs.YtdpgfnnhbfkacaaGreatDoor.Wire

/-
  The contracts of wire.Reader's Flag and Done, and of the methods of the document's Reader: a reader that stands anywhere, a bad one; any bounds.
-/
set_option linter.unusedVariables false
set_option maxRecDepth 4000
namespace Go.Proofs.YtdpgfnnhbfkacaaGreatDoor.Wire
open Go.RowKit WireP
theorem grown_drewN (w : World) (n : Nat) (row : Option Nat) : w.grownBy (w.drewN n) row := ⟨rfl, rfl, rfl, Nat.le_refl _, fun _ _ _ => rfl⟩
theorem RqAt.drewN {w : World} {b : Nat} {st : St} (h : RqAt w b st) (n : Nat) : RqAt (w.drewN n) b st := h
theorem rfails_any (b : Nat) (st : St) (w : World) (h : RqAt w b st) :
    Calls Tryz.prog 110 #[.pointer (some ⟨b, 0, none⟩)] w fun e w' => e = .returned (.tuple #[]) ∧ RqAt w' b none ∧ w.grownBy w' (some b) := by
  obtain ⟨z, hz, hl, hs⟩ := h
  have h0 : w.cell? ⟨b, 0, none⟩ = some (.string z) := cell_of_heap hz
  have h1 : w.cell? ⟨b, 1, none⟩ = some (.bool st.isNone) := cell_of_heap hz
  have f0 : w.frozen? ⟨b, 0, none⟩ = false := frozen_of_heap hz
  have f1 : w.frozen? ⟨b, 1, none⟩ = false := frozen_of_heap hz
  have HZ := Lib.hid hz
  clear hz hl
  go_enter Tryz.func110, Tryz.ntmps110
  go_wp2
  go_end0
  refine ⟨rfl, ⟨⟨#[]⟩, ?_, rfl, by decide⟩, ?_⟩
  · exact Lib.heap_setCell_same (i := 0) (Lib.heap_setCell_same (i := 1) HZ.out _) _
  · exact (Lib.grownBy_setCell w b 1 _).trans (Lib.grownBy_setCell _ b 0 _)
theorem rqint_fail (b : Nat) (st : St) (lo hi : Int) (w : World) (h : RqAt w b st) (hc : ok (st.getD []) = false) :
    Calls Tryz.prog 109 #[.pointer (some ⟨b, 0, none⟩), .int .i64 lo, .int .i64 hi] w fun e w' => e = .returned (.int .i64 0) ∧ RqAt w' b none ∧ w.grownBy w' (some b) := by
  have HR := Lib.hid h
  obtain ⟨z, hz, hl, hs⟩ := h
  have h0 : w.cell? ⟨b, 0, none⟩ = some (.string z) := cell_of_heap hz
  have h1 : w.cell? ⟨b, 1, none⟩ = some (.bool st.isNone) := cell_of_heap hz
  have HL := Lib.hid hl
  have hcase : (st.isNone = true) ∨ (st.isNone = false ∧ z.size = 0) ∨ (∃ (c : Nat) (h : 0 < z.size), st.isNone = false ∧ z[0].toNat = c ∧ 8 < c) ∨ (∃ (c : Nat) (h : 0 < z.size), st.isNone = false ∧ z[0].toNat = c ∧ c ≤ 8 ∧ (z.size : Int) < 1 + (c : Int)) ∨ (∃ (c : Nat) (h : 1 < z.size), st.isNone = false ∧ z[0].toNat = c ∧ c ≤ 8 ∧ 1 + (c : Int) ≤ (z.size : Int) ∧ 0 < c ∧ z[1].toNat = 0) := by
    by_cases c0 : st.isNone = true
    · exact .inl c0
    have c0' : st.isNone = false := by
      cases hx : st.isNone with
      | false => rfl
      | true => exact absurd hx c0
    right
    by_cases c1 : z.size = 0
    · exact .inl ⟨c0', c1⟩
    right
    have c1' : 0 < z.size := by omega
    have hnl : nl z.data.toList = z[0].toNat := by unfold nl; rw [headD_at z c1']
    by_cases c2 : 8 < z[0].toNat
    · exact .inl ⟨_, c1', c0', rfl, c2⟩
    right
    by_cases c3 : (z.size : Int) < 1 + ((z[0].toNat : Nat) : Int)
    · exact .inl ⟨_, c1', c0', rfl, by omega, c3⟩
    right
    have hno : ¬ ((nb z.data.toList).headD 1 ≠ 0) := fun h => by
      have := ok_iff.2 ⟨by intro e; have := len_list z; rw [e] at this; simp at this; omega, by omega, by rw [len_list]; omega, h⟩
      rw [hl, hc] at this
      cases this
    by_cases c4 : z[0].toNat = 0
    · exact absurd (by rw [nb_zero (by omega)]; decide) hno
    have c5 : 1 < z.size := by omega
    refine ⟨_, c5, c0', rfl, by omega, by omega, by omega, ?_⟩
    have h6 : (nb z.data.toList).headD 1 = 0 := Classical.byContradiction hno
    rw [nb_head (by omega) (by rw [len_list]; exact c5), at_getD z 1 c5] at h6
    rw [h6]; rfl
  clear hz hl hc
  rcases hcase with c0 | ⟨c0, c1⟩ | ⟨c, g, c0, c1, c2⟩ | ⟨c, g, c0, c1, c2, c3⟩ | ⟨c, g, c0, c1, c2, c3, c4, c5⟩
  · rw [c0] at h1
    go_enter Tryz.func109, Tryz.ntmps109
    go_wp2
    go_quiet (fail)
    go_wp2_with fail
    refine (rfails_any b st (w.drewN nq) (HR.out.drewN nq)).mono ?_
    rintro e w2 ⟨rfl, hr, hg⟩
    have HG := Lib.hid ((grown_drewN w _ (some b)).trans hg)
    have HR2 := Lib.hid hr
    clear hg hr
    go_wp2_with fail
    go_ret
    exact ⟨rfl, HR2.out, HG.out⟩
  · rw [c0] at h1
    have t0 : ((z.size : Int) == 0) = true := beq_iff_eq.2 (by omega)
    clear c1
    go_enter Tryz.func109, Tryz.ntmps109
    go_wp2
    go_quiet (fail)
    go_wp2_with fail
    refine (rfails_any b st (w.drewN nq) (HR.out.drewN nq)).mono ?_
    rintro e w2 ⟨rfl, hr, hg⟩
    have HG := Lib.hid ((grown_drewN w _ (some b)).trans hg)
    have HR2 := Lib.hid hr
    clear hg hr
    go_wp2_with fail
    go_ret
    exact ⟨rfl, HR2.out, HG.out⟩
  · rw [c0] at h1
    have t0 : ((z.size : Int) == 0) = false := beq_eq_false_iff_ne.2 (by omega)
    have t5 : (0 : Int) < (z.size : Int) := by omega
    have t1 : decide (8 < (c : Int)) = true := decide_eq_true (by omega)
    go_enter Tryz.func109, Tryz.ntmps109
    go_wp2
    go_quiet (fail)
    go_wp2_with fail
    refine (rfails_any b st (w.drewN nq) (HR.out.drewN nq)).mono ?_
    rintro e w2 ⟨rfl, hr, hg⟩
    have HG := Lib.hid ((grown_drewN w _ (some b)).trans hg)
    have HR2 := Lib.hid hr
    clear hg hr
    go_wp2_with fail
    go_ret
    exact ⟨rfl, HR2.out, HG.out⟩
  · rw [c0] at h1
    have t0 : ((z.size : Int) == 0) = false := beq_eq_false_iff_ne.2 (by omega)
    have t5 : (0 : Int) < (z.size : Int) := by omega
    have t1 : decide (8 < (c : Int)) = false := decide_eq_false (by omega)
    have t2 : decide ((z.size : Int) < 1 + (c : Int)) = true := decide_eq_true (by omega)
    go_enter Tryz.func109, Tryz.ntmps109
    go_wp2
    go_quiet (fail)
    go_wp2_with fail
    refine (rfails_any b st (w.drewN nq) (HR.out.drewN nq)).mono ?_
    rintro e w2 ⟨rfl, hr, hg⟩
    have HG := Lib.hid ((grown_drewN w _ (some b)).trans hg)
    have HR2 := Lib.hid hr
    clear hg hr
    go_wp2_with fail
    go_ret
    exact ⟨rfl, HR2.out, HG.out⟩
  · rw [c0] at h1
    have t0 : ((z.size : Int) == 0) = false := beq_eq_false_iff_ne.2 (by omega)
    have t5 : (0 : Int) < (z.size : Int) := by omega
    have t6 : (1 : Int) < (z.size : Int) := by omega
    have t1 : decide (8 < (c : Int)) = false := decide_eq_false (by omega)
    have t2 : decide ((z.size : Int) < 1 + (c : Int)) = false := decide_eq_false (by omega)
    have t3 : decide (0 < (c : Int)) = true := decide_eq_true (by omega)
    have t4 : ((z[1].toNat : Int) == 0) = true := beq_iff_eq.2 (by omega)
    go_enter Tryz.func109, Tryz.ntmps109
    go_wp2
    go_quiet (fail)
    go_wp2_with fail
    refine (rfails_any b st (w.drewN nq) (HR.out.drewN nq)).mono ?_
    rintro e w2 ⟨rfl, hr, hg⟩
    have HG := Lib.hid ((grown_drewN w _ (some b)).trans hg)
    have HR2 := Lib.hid hr
    clear hg hr
    go_wp2_with fail
    go_ret
    exact ⟨rfl, HR2.out, HG.out⟩
end Go.Proofs.YtdpgfnnhbfkacaaGreatDoor.Wire

/-
  The contracts of the document's Reader.Int where there is a number, and so of all of Int: a reader that stands anywhere; any bounds.
-/
set_option linter.unusedVariables false
set_option maxRecDepth 4000
namespace Go.Proofs.YtdpgfnnhbfkacaaGreatDoor.Wire
open Go.RowKit WireP
theorem val_next {l : List UInt8} {k X y : Nat} (h : X = val ((l.drop 1).take (k - 1))) (hk : 1 ≤ k) (hl : k < l.length) (hy : (l.getD k 0).toNat = y) : X * 256 + y = val ((l.drop 1).take (k + 1 - 1)) := by
  have hd : k - 1 < (l.drop 1).length := by rw [List.length_drop]; omega
  have h2 := val_step (zs := l.drop 1) (k := k - 1) (c := l.getD k 0) hd (by
    rw [List.getD_eq_getElem?_getD, List.getElem?_drop, show 1 + (k - 1) = k by omega, ← List.getD_eq_getElem?_getD])
  rw [show k - 1 + 1 = k + 1 - 1 by omega] at h2
  rw [h2, hy, ← h]
set_option maxHeartbeats 2000000 in
theorem rqint_ok (b : Nat) (l : List UInt8) (lo hi : Int) (w : World) (h : RqAt w b (some l)) (hok : ok l = true) :
    Calls Tryz.prog 109 #[.pointer (some ⟨b, 0, none⟩), .int .i64 lo, .int .i64 hi] w fun e w' => e = .returned (.int .i64 (rdInt lo hi (some l)).1) ∧ RqAt w' b (rdInt lo hi (some l)).2 ∧ w.grownBy w' (some b) := by
  have HR := Lib.hid h
  have HOK := Lib.hid hok
  obtain ⟨z, hz, hl, hs⟩ := h
  have hl2 : z.data.toList = l := hl
  have hll : l.length = z.size := by rw [← hl2, len_list]
  have ⟨hne, h8, hlt, hhd⟩ := ok_iff.1 hok
  have hz0 : 0 < z.size := by omega
  have h0 : w.cell? ⟨b, 0, none⟩ = some (.string z) := cell_of_heap hz
  have h1 : w.cell? ⟨b, 1, none⟩ = some (.bool false) := cell_of_heap hz
  have f0 : w.frozen? ⟨b, 0, none⟩ = false := frozen_of_heap hz
  obtain ⟨c, hc⟩ : ∃ c, nl l = c := ⟨_, rfl⟩
  have hzc : z[0].toNat = c := by rw [← hc, ← hl2]; unfold nl; rw [headD_at z hz0]
  obtain ⟨V, hV⟩ : ∃ V, val (nb l) = V := ⟨_, rfl⟩
  have hV64 : V < 18446744073709551616 := by rw [← hV]; exact val_lt64 (by rw [nb_len hlt]; exact h8)
  obtain ⟨N, hN⟩ : ∃ N, nx V = N := ⟨_, rfl⟩
  have hNl : num l = N := by rw [← hN, ← hV]; rfl
  have hrd : rdInt lo hi (some l) = if lo ≤ N ∧ N ≤ hi then (N, some (l.drop (1 + c))) else (0, none) := by
    by_cases hb : lo ≤ N ∧ N ≤ hi
    · rw [if_pos hb, rdInt_yes ⟨hok, by rw [hNl]; exact hb.1, by rw [hNl]; exact hb.2⟩, hNl, hc]
    · rw [if_neg hb, rdInt_no (fun h => hb (by rw [← hNl]; exact h.2))]
  rw [hrd]
  have hnb : (l.drop 1).take c = nb l := by unfold nb; rw [hc]
  have hguard : (0 < c ∧ ∃ h : 1 < z.size, z[1].toNat ≠ 0) ∨ c = 0 := by
    by_cases hc0 : c = 0
    · exact .inr hc0
    · left
      have h1z : 1 < z.size := by omega
      refine ⟨by omega, h1z, ?_⟩
      rw [nb_head (by omega) (by omega), ← hl2, at_getD z 1 h1z] at hhd
      exact fun e => hhd (UInt8.toNat_inj.1 e)
  have HL := Lib.hid hl2; have HV : Hid (val ((l.drop 1).take c) = V) := by show _ = _; rw [hnb]; exact hV
  have HN := Lib.hid hN; have HZ := Lib.hid hz
  rw [hc] at h8 hlt
  rw [hll] at hlt
  have t0 : ((z.size : Int) == 0) = false := beq_eq_false_iff_ne.2 (by omega)
  have t1 : decide (8 < (c : Int)) = false := decide_eq_false (by omega)
  have t2 : decide ((z.size : Int) < 1 + (c : Int)) = false := decide_eq_false (by omega)
  have t5 : (0 : Int) < (z.size : Int) := by omega
  clear hz hl hl2 hll hok hne hhd hnb hc hV hN hNl hrd
  rcases hguard with ⟨g1, g2, g3⟩ | g1
  · have t3 : decide (0 < (c : Int)) = true := decide_eq_true (by omega)
    have t4 : ((z[1].toNat : Int) == 0) = false := beq_eq_false_iff_ne.2 (by omega)
    have t6 : (1 : Int) < (z.size : Int) := by omega
    go_enter Tryz.func109, Tryz.ntmps109
    go_wp2
    go_quiet (fail)
    go_wp2
    clear t0 t1 t2 t3
    go_loopw [8, 9] (fun p i wr => ∃ (k X : Nat), 1 ≤ k ∧ k ≤ 1 + c ∧ p = .int .u64 (X : Int) ∧ i = .int .i64 (k : Int) ∧ wr = w.drewN nq ∧ Hid (X = val ((l.drop 1).take (k - 1)))) (fun _ i _ => 1 + c - (intOf i).toNat)
    case atStart => exact ⟨1, 0, by omega, by omega, rfl, rfl, rfl, rfl⟩
    case round =>
      obtain ⟨k, X, hk1, hk2, rfl, rfl, rfl, hX⟩ := hrel
      by_cases hlt : k < 1 + c
      · have hkz : k < z.size := by omega
        have hlt2 : (k : Int) < 1 + (c : Int) := by omega
        have hX56 : X < 72057594037927936 := by
          rw [hX.out]
          exact val_lt56 (by rw [List.length_take]; omega)
        obtain ⟨y, hy⟩ : ∃ y : Nat, z[k].toNat = y := ⟨_, rfl⟩
        have hyb : y ≤ 255 := by have := z[k].toNat_lt; omega
        have hst := val_next (l := l) (k := k) (X := X) (y := y) hX.out hk1 (by rw [← HL.out, len_list]; exact hkz) (by rw [← HL.out, at_getD z k hkz, hy])
        have HST := Lib.hid hst
        clear hst hX
        go_wp2
        go_roundw
        case rel => exact ⟨k + 1, X * 256 + y, by omega, by omega, by simp, by go_num, by first | rfl | trivial, HST.out⟩
        case measure => simp [intOf]; omega
      · obtain rfl : k = 1 + c := by omega
        have hXV : X = V := by rw [hX.out, ← HV.out, show 1 + c - 1 = c by omega]
        subst hXV
        have hnlt : ¬ (1 + (c : Int) < 1 + (c : Int)) := by omega
        clear hX hlt
        have hq1 : 0 ≤ 1 + (c : Int) := by omega
        have hq2 : 1 + (c : Int) ≤ (z.size : Int) := by omega
        have hq3 : (1 + (c : Int)).toNat = 1 + c := by omega
        have hq4 : ((1 + c : Nat) : Int) = 1 + (c : Int) := by omega
        have HL2 := HL
        rcases Int.lt_or_le N lo with c1 | c1
        · have d1 : decide (N < lo) = true := decide_eq_true c1
          have hif : ¬ (lo ≤ N ∧ N ≤ hi) := by omega
          have HIF := Lib.hid hif
          clear c1 hif
          by_cases hodd : X % 2 = 1
          · have ho : ((X : Int) % 2 == 1) = true := beq_iff_eq.2 (by omega)
            have hn : -((X : Int) / 2) - 1 = N := by rw [← HN.out, nx_odd hodd]; omega
            clear hodd
            go_wp2_with fail
            refine (rfails_any b _ (w.drewN nq) (HR.out.drewN nq)).mono ?_
            rintro e w2 ⟨rfl, hr, hg⟩
            have HG := Lib.hid ((grown_drewN w _ (some b)).trans hg)
            have HR2 := Lib.hid hr
            clear hg hr
            go_wp2_with fail
            go_ret
            try rw [if_neg HIF.out]
            exact ⟨rfl, HR2.out, HG.out⟩
          · have ho : ((X : Int) % 2 == 1) = false := beq_eq_false_iff_ne.2 (by omega)
            have hn : (X : Int) / 2 = N := by rw [← HN.out, nx_even hodd]; omega
            clear hodd
            go_wp2_with fail
            refine (rfails_any b _ (w.drewN nq) (HR.out.drewN nq)).mono ?_
            rintro e w2 ⟨rfl, hr, hg⟩
            have HG := Lib.hid ((grown_drewN w _ (some b)).trans hg)
            have HR2 := Lib.hid hr
            clear hg hr
            go_wp2_with fail
            go_ret
            try rw [if_neg HIF.out]
            exact ⟨rfl, HR2.out, HG.out⟩
        have d1 : decide (N < lo) = false := decide_eq_false (by omega)
        rcases Int.lt_or_le hi N with c2 | c2
        · have d2 : decide (hi < N) = true := decide_eq_true c2
          have hif : ¬ (lo ≤ N ∧ N ≤ hi) := by omega
          have HIF := Lib.hid hif
          clear c1 c2 hif
          by_cases hodd : X % 2 = 1
          · have ho : ((X : Int) % 2 == 1) = true := beq_iff_eq.2 (by omega)
            have hn : -((X : Int) / 2) - 1 = N := by rw [← HN.out, nx_odd hodd]; omega
            clear hodd
            go_wp2_with fail
            refine (rfails_any b _ (w.drewN nq) (HR.out.drewN nq)).mono ?_
            rintro e w2 ⟨rfl, hr, hg⟩
            have HG := Lib.hid ((grown_drewN w _ (some b)).trans hg)
            have HR2 := Lib.hid hr
            clear hg hr
            go_wp2_with fail
            go_ret
            try rw [if_neg HIF.out]
            exact ⟨rfl, HR2.out, HG.out⟩
          · have ho : ((X : Int) % 2 == 1) = false := beq_eq_false_iff_ne.2 (by omega)
            have hn : (X : Int) / 2 = N := by rw [← HN.out, nx_even hodd]; omega
            clear hodd
            go_wp2_with fail
            refine (rfails_any b _ (w.drewN nq) (HR.out.drewN nq)).mono ?_
            rintro e w2 ⟨rfl, hr, hg⟩
            have HG := Lib.hid ((grown_drewN w _ (some b)).trans hg)
            have HR2 := Lib.hid hr
            clear hg hr
            go_wp2_with fail
            go_ret
            try rw [if_neg HIF.out]
            exact ⟨rfl, HR2.out, HG.out⟩
        · have d2 : decide (hi < N) = false := decide_eq_false (by omega)
          have hif : lo ≤ N ∧ N ≤ hi := by omega
          have HIF := Lib.hid hif
          clear c1 c2 hif
          by_cases hodd : X % 2 = 1
          · have ho : ((X : Int) % 2 == 1) = true := beq_iff_eq.2 (by omega)
            have hn : -((X : Int) / 2) - 1 = N := by rw [← HN.out, nx_odd hodd]; omega
            clear hodd
            go_wp2_with fail
            go_ret
            try rw [if_pos HIF.out]
            refine ⟨by simp, ?_, (grown_drewN w _ (some b)).trans (Lib.grownBy_setCell _ b 0 _)⟩
            refine ⟨_, Lib.heap_setCell_same (i := 0) HZ.out _, ?_, ?_⟩
            · rw [extract_list, HL.out, ← len_list z, HL.out]
              exact List.take_of_length_le (by simp)
            · rw [ByteArray.size_extract]; omega
          · have ho : ((X : Int) % 2 == 1) = false := beq_eq_false_iff_ne.2 (by omega)
            have hn : (X : Int) / 2 = N := by rw [← HN.out, nx_even hodd]; omega
            clear hodd
            go_wp2_with fail
            go_ret
            try rw [if_pos HIF.out]
            refine ⟨by simp, ?_, (grown_drewN w _ (some b)).trans (Lib.grownBy_setCell _ b 0 _)⟩
            refine ⟨_, Lib.heap_setCell_same (i := 0) HZ.out _, ?_, ?_⟩
            · rw [extract_list, HL.out, ← len_list z, HL.out]
              exact List.take_of_length_le (by simp)
            · rw [ByteArray.size_extract]; omega
  · have t3 : decide (0 < (c : Int)) = false := decide_eq_false (by omega)
    have t3n : decide (0 < c) = false := decide_eq_false (by omega)
    clear g1
    go_enter Tryz.func109, Tryz.ntmps109
    go_wp2
    go_quiet (fail)
    go_wp2
    clear t0 t1 t2 t3
    go_loopw [8, 9] (fun p i wr => ∃ (k X : Nat), 1 ≤ k ∧ k ≤ 1 + c ∧ p = .int .u64 (X : Int) ∧ i = .int .i64 (k : Int) ∧ wr = w.drewN nq ∧ Hid (X = val ((l.drop 1).take (k - 1)))) (fun _ i _ => 1 + c - (intOf i).toNat)
    case atStart => exact ⟨1, 0, by omega, by omega, rfl, rfl, rfl, rfl⟩
    case round =>
      obtain ⟨k, X, hk1, hk2, rfl, rfl, rfl, hX⟩ := hrel
      by_cases hlt : k < 1 + c
      · have hkz : k < z.size := by omega
        have hlt2 : (k : Int) < 1 + (c : Int) := by omega
        have hX56 : X < 72057594037927936 := by
          rw [hX.out]
          exact val_lt56 (by rw [List.length_take]; omega)
        obtain ⟨y, hy⟩ : ∃ y : Nat, z[k].toNat = y := ⟨_, rfl⟩
        have hyb : y ≤ 255 := by have := z[k].toNat_lt; omega
        have hst := val_next (l := l) (k := k) (X := X) (y := y) hX.out hk1 (by rw [← HL.out, len_list]; exact hkz) (by rw [← HL.out, at_getD z k hkz, hy])
        have HST := Lib.hid hst
        clear hst hX
        go_wp2
        go_roundw
        case rel => exact ⟨k + 1, X * 256 + y, by omega, by omega, by simp, by go_num, by first | rfl | trivial, HST.out⟩
        case measure => simp [intOf]; omega
      · obtain rfl : k = 1 + c := by omega
        have hXV : X = V := by rw [hX.out, ← HV.out, show 1 + c - 1 = c by omega]
        subst hXV
        have hnlt : ¬ (1 + (c : Int) < 1 + (c : Int)) := by omega
        clear hX hlt
        have hq1 : 0 ≤ 1 + (c : Int) := by omega
        have hq2 : 1 + (c : Int) ≤ (z.size : Int) := by omega
        have hq3 : (1 + (c : Int)).toNat = 1 + c := by omega
        have hq4 : ((1 + c : Nat) : Int) = 1 + (c : Int) := by omega
        have HL2 := HL
        rcases Int.lt_or_le N lo with c1 | c1
        · have d1 : decide (N < lo) = true := decide_eq_true c1
          have hif : ¬ (lo ≤ N ∧ N ≤ hi) := by omega
          have HIF := Lib.hid hif
          clear c1 hif
          by_cases hodd : X % 2 = 1
          · have ho : ((X : Int) % 2 == 1) = true := beq_iff_eq.2 (by omega)
            have hn : -((X : Int) / 2) - 1 = N := by rw [← HN.out, nx_odd hodd]; omega
            clear hodd
            go_wp2_with fail
            refine (rfails_any b _ (w.drewN nq) (HR.out.drewN nq)).mono ?_
            rintro e w2 ⟨rfl, hr, hg⟩
            have HG := Lib.hid ((grown_drewN w _ (some b)).trans hg)
            have HR2 := Lib.hid hr
            clear hg hr
            go_wp2_with fail
            go_ret
            try rw [if_neg HIF.out]
            exact ⟨rfl, HR2.out, HG.out⟩
          · have ho : ((X : Int) % 2 == 1) = false := beq_eq_false_iff_ne.2 (by omega)
            have hn : (X : Int) / 2 = N := by rw [← HN.out, nx_even hodd]; omega
            clear hodd
            go_wp2_with fail
            refine (rfails_any b _ (w.drewN nq) (HR.out.drewN nq)).mono ?_
            rintro e w2 ⟨rfl, hr, hg⟩
            have HG := Lib.hid ((grown_drewN w _ (some b)).trans hg)
            have HR2 := Lib.hid hr
            clear hg hr
            go_wp2_with fail
            go_ret
            try rw [if_neg HIF.out]
            exact ⟨rfl, HR2.out, HG.out⟩
        have d1 : decide (N < lo) = false := decide_eq_false (by omega)
        rcases Int.lt_or_le hi N with c2 | c2
        · have d2 : decide (hi < N) = true := decide_eq_true c2
          have hif : ¬ (lo ≤ N ∧ N ≤ hi) := by omega
          have HIF := Lib.hid hif
          clear c1 c2 hif
          by_cases hodd : X % 2 = 1
          · have ho : ((X : Int) % 2 == 1) = true := beq_iff_eq.2 (by omega)
            have hn : -((X : Int) / 2) - 1 = N := by rw [← HN.out, nx_odd hodd]; omega
            clear hodd
            go_wp2_with fail
            refine (rfails_any b _ (w.drewN nq) (HR.out.drewN nq)).mono ?_
            rintro e w2 ⟨rfl, hr, hg⟩
            have HG := Lib.hid ((grown_drewN w _ (some b)).trans hg)
            have HR2 := Lib.hid hr
            clear hg hr
            go_wp2_with fail
            go_ret
            try rw [if_neg HIF.out]
            exact ⟨rfl, HR2.out, HG.out⟩
          · have ho : ((X : Int) % 2 == 1) = false := beq_eq_false_iff_ne.2 (by omega)
            have hn : (X : Int) / 2 = N := by rw [← HN.out, nx_even hodd]; omega
            clear hodd
            go_wp2_with fail
            refine (rfails_any b _ (w.drewN nq) (HR.out.drewN nq)).mono ?_
            rintro e w2 ⟨rfl, hr, hg⟩
            have HG := Lib.hid ((grown_drewN w _ (some b)).trans hg)
            have HR2 := Lib.hid hr
            clear hg hr
            go_wp2_with fail
            go_ret
            try rw [if_neg HIF.out]
            exact ⟨rfl, HR2.out, HG.out⟩
        · have d2 : decide (hi < N) = false := decide_eq_false (by omega)
          have hif : lo ≤ N ∧ N ≤ hi := by omega
          have HIF := Lib.hid hif
          clear c1 c2 hif
          by_cases hodd : X % 2 = 1
          · have ho : ((X : Int) % 2 == 1) = true := beq_iff_eq.2 (by omega)
            have hn : -((X : Int) / 2) - 1 = N := by rw [← HN.out, nx_odd hodd]; omega
            clear hodd
            go_wp2_with fail
            go_ret
            try rw [if_pos HIF.out]
            refine ⟨by simp, ?_, (grown_drewN w _ (some b)).trans (Lib.grownBy_setCell _ b 0 _)⟩
            refine ⟨_, Lib.heap_setCell_same (i := 0) HZ.out _, ?_, ?_⟩
            · rw [extract_list, HL.out, ← len_list z, HL.out]
              exact List.take_of_length_le (by simp)
            · rw [ByteArray.size_extract]; omega
          · have ho : ((X : Int) % 2 == 1) = false := beq_eq_false_iff_ne.2 (by omega)
            have hn : (X : Int) / 2 = N := by rw [← HN.out, nx_even hodd]; omega
            clear hodd
            go_wp2_with fail
            go_ret
            try rw [if_pos HIF.out]
            refine ⟨by simp, ?_, (grown_drewN w _ (some b)).trans (Lib.grownBy_setCell _ b 0 _)⟩
            refine ⟨_, Lib.heap_setCell_same (i := 0) HZ.out _, ?_, ?_⟩
            · rw [extract_list, HL.out, ← len_list z, HL.out]
              exact List.take_of_length_le (by simp)
            · rw [ByteArray.size_extract]; omega
theorem rqint_any (b : Nat) (st : St) (lo hi : Int) (w : World) (h : RqAt w b st) :
    Calls Tryz.prog 109 #[.pointer (some ⟨b, 0, none⟩), .int .i64 lo, .int .i64 hi] w fun e w' => e = .returned (.int .i64 (rdInt lo hi st).1) ∧ RqAt w' b (rdInt lo hi st).2 ∧ w.grownBy w' (some b) := by
  cases st with
  | none => exact rqint_fail b none lo hi w h rfl
  | some l =>
    cases hok : ok l with
    | false =>
      rw [rdInt_no (fun h => by rw [h.1] at hok; cases hok)]
      exact rqint_fail b (some l) lo hi w h hok
    | true => exact rqint_ok b l lo hi w h hok
end Go.Proofs.YtdpgfnnhbfkacaaGreatDoor.Wire

/-
  The contracts of wire.Reader's Flag and Done and of the document's Flag, Text, List, Left, Done: a reader that stands anywhere, a bad one; any bounds.
-/
set_option linter.unusedVariables false
set_option maxRecDepth 4000
namespace Go.Proofs.YtdpgfnnhbfkacaaGreatDoor.Wire
open Go.RowKit WireP
theorem rdFlag_no {st : St} (h : st = none ∨ ∃ l, st = some l ∧ (l = [] ∨ 1 < (l.headD 0).toNat)) : rdFlag st = (false, none) := by
  rcases h with rfl | ⟨l, rfl, h⟩
  · rfl
  · show ite _ _ _ = _
    rw [if_neg]
    rintro ⟨h1, h2⟩
    rcases h with h | h
    · exact h1 h
    · omega
theorem rdFlag_yes {l : List UInt8} {c : Nat} (h : l ≠ []) (hc : (l.headD 0).toNat = c) (h1 : c ≤ 1) : rdFlag (some l) = (decide (c = 1), some (l.drop 1)) := by
  show ite _ _ _ = _
  rw [if_pos ⟨h, by omega⟩, hc]
theorem flag_cases (st : St) (z : ByteArray) (hz : z.data.toList = st.getD []) :
    (z.size = 0 ∧ rdFlag st = (false, none)) ∨ (∃ (h : 0 < z.size) (c : Nat), z[0].toNat = c ∧ 1 < c ∧ rdFlag st = (false, none) ∧ st.isNone = false) ∨ ∃ (h : 0 < z.size) (l : List UInt8) (c : Nat), z[0].toNat = c ∧ c ≤ 1 ∧ st = some l ∧ rdFlag st = (decide (c = 1), some (l.drop 1)) := by
  cases st with
  | none =>
    left
    have : z.data.toList = [] := hz
    exact ⟨by rw [← len_list, this]; rfl, rfl⟩
  | some l =>
    have hz2 : z.data.toList = l := hz
    by_cases h0 : z.size = 0
    · left
      exact ⟨h0, rdFlag_no (.inr ⟨l, rfl, .inl (List.eq_nil_of_length_eq_zero (by rw [← hz2, len_list]; exact h0))⟩)⟩
    right
    have h : 0 < z.size := by omega
    have hh : (l.headD 0).toNat = z[0].toNat := by rw [← hz2, headD_at z h]
    have hne : l ≠ [] := by intro e; have := len_list z; rw [hz2, e] at this; simp at this; omega
    by_cases h1 : 1 < z[0].toNat
    · exact .inl ⟨h, _, rfl, h1, rdFlag_no (.inr ⟨l, rfl, .inr (by omega)⟩), rfl⟩
    · exact .inr ⟨h, l, _, rfl, by omega, rfl, rdFlag_yes hne hh (by omega)⟩
theorem done_cases (st : St) (z : ByteArray) (hz : z.data.toList = st.getD []) : (st.isSome = false ∧ st.isNone = true ∧ done st = false) ∨ (st.isSome = true ∧ st.isNone = false ∧ z.size = 0 ∧ done st = true) ∨ (st.isSome = true ∧ st.isNone = false ∧ 0 < z.size ∧ done st = false) := by
  cases st with
  | none => exact .inl ⟨rfl, rfl, rfl⟩
  | some l =>
    have hz2 : z.data.toList = l := hz
    right
    by_cases h0 : z.size = 0
    · left
      have : l = [] := List.eq_nil_of_length_eq_zero (by rw [← hz2, len_list]; exact h0)
      subst this
      exact ⟨rfl, rfl, h0, rfl⟩
    · right
      refine ⟨rfl, rfl, by omega, decide_eq_false ?_⟩
      intro e
      cases e
      have := len_list z
      rw [hz2] at this
      simp at this
      omega
theorem rddone_any (b : Nat) (st : St) (w : World) (h : RdAt w b st) :
    Calls Tryz.prog 27 #[.pointer (some ⟨b, 0, none⟩)] w fun e w' => e = .returned (.bool (done st)) ∧ Below w.heap.size w w' := by
  obtain ⟨z, hz, hl, hs⟩ := h
  have h0 : w.cell? ⟨b, 0, none⟩ = some (.bool st.isSome) := cell_of_heap hz
  have h1 : w.cell? ⟨b, 1, none⟩ = some (.string z) := cell_of_heap hz
  have hcase := done_cases st z hl
  clear hz hl
  rcases hcase with ⟨c1, c2, c3⟩ | ⟨c1, c2, c3, c4⟩ | ⟨c1, c2, c3, c4⟩
  · rw [c3]
    rw [c1] at h0
    clear c1 c2 c3
    go_enter Tryz.func27, Tryz.ntmps27
    go_wp2
    go_ret
    exact ⟨rfl, Below.refl _ _⟩
  · rw [c4]
    rw [c1] at h0
    have t0 := empty_yes z c3
    clear c1 c2 c3 c4
    go_enter Tryz.func27, Tryz.ntmps27
    go_wp2
    go_ret
    exact ⟨rfl, Below.refl _ _⟩
  · rw [c4]
    rw [c1] at h0
    have t0 := empty_no z c3
    clear c1 c2 c3 c4
    go_enter Tryz.func27, Tryz.ntmps27
    go_wp2
    go_ret
    exact ⟨rfl, Below.refl _ _⟩
end Go.Proofs.YtdpgfnnhbfkacaaGreatDoor.Wire

/-
  The contracts of the document's Reader: Flag, Text, List, Left, Done: a reader that stands anywhere, a bad one; any bounds.
-/
set_option linter.unusedVariables false
set_option maxRecDepth 4000
namespace Go.Proofs.YtdpgfnnhbfkacaaGreatDoor.Wire
open Go.RowKit WireP
theorem rdInt_none' (lo hi : Int) : rdInt lo hi none = (0, none) := rfl
theorem rdText_of (most : Int) (st : St) : rdText most st = if (rdInt 0 most st).1 ≤ (left (rdInt 0 most st).2 : Nat) then (((rdInt 0 most st).2.getD []).take (rdInt 0 most st).1.toNat, (rdInt 0 most st).2.map (·.drop (rdInt 0 most st).1.toNat)) else ([], none) := by
  cases st with
  | none => rw [rdInt_none', if_pos (by decide)]; rfl
  | some l =>
    show ite _ _ _ = _
    by_cases h : ok l = true ∧ 0 ≤ num l ∧ num l ≤ most
    · rw [rdInt_yes h]
      by_cases h2 : num l ≤ ((l.length - (1 + nl l) : Nat) : Int)
      · rw [if_pos ⟨h.1, h.2.1, h.2.2, h2⟩, if_pos (by show num l ≤ ((l.drop (1 + nl l)).length : Int); rw [List.length_drop]; exact h2)]
        simp [List.drop_drop]
      · rw [if_neg (fun h3 => h2 h3.2.2.2), if_neg (by show ¬ num l ≤ ((l.drop (1 + nl l)).length : Int); rw [List.length_drop]; exact h2)]
    · rw [rdInt_no h, if_neg (fun h3 => h ⟨h3.1, h3.2.1, h3.2.2.1⟩), if_pos (by decide)]
      rfl
theorem rdList_of (most : Int) (st : St) : rdList most st = if (rdInt 0 most st).1 ≤ (left (rdInt 0 most st).2 : Nat) then rdInt 0 most st else (0, none) := by
  cases st with
  | none => rw [rdInt_none', if_pos (by decide)]; rfl
  | some l =>
    show ite _ _ _ = _
    by_cases h : ok l = true ∧ 0 ≤ num l ∧ num l ≤ most
    · rw [rdInt_yes h]
      by_cases h2 : num l ≤ ((l.length - (1 + nl l) : Nat) : Int)
      · rw [if_pos ⟨h.1, h.2.1, h.2.2, h2⟩, if_pos (by show num l ≤ ((l.drop (1 + nl l)).length : Int); rw [List.length_drop]; exact h2)]
      · rw [if_neg (fun h3 => h2 h3.2.2.2), if_neg (by show ¬ num l ≤ ((l.drop (1 + nl l)).length : Int); rw [List.length_drop]; exact h2)]
    · rw [rdInt_no h, if_neg (fun h3 => h ⟨h3.1, h3.2.1, h3.2.2.1⟩), if_pos (by decide)]
theorem rdInt_zero_le (most : Int) (st : St) : 0 ≤ (rdInt 0 most st).1 := by
  cases st with
  | none => exact Int.le_refl 0
  | some l =>
    by_cases h : ok l = true ∧ 0 ≤ num l ∧ num l ≤ most
    · rw [rdInt_yes h]; exact h.2.1
    · rw [rdInt_no h]; decide
theorem rdInt_bounds (lo hi : Int) (st : St) : -9223372036854775808 ≤ (rdInt lo hi st).1 ∧ (rdInt lo hi st).1 ≤ 9223372036854775807 := by
  cases st with
  | none => rw [rdInt_none']; exact ⟨by decide, by decide⟩
  | some l =>
    by_cases h : ok l = true ∧ lo ≤ num l ∧ num l ≤ hi
    · rw [rdInt_yes h]; exact num_bounds h.1
    · rw [rdInt_no h]; exact ⟨by decide, by decide⟩
theorem rqleft_any (b : Nat) (st : St) (w : World) (h : RqAt w b st) :
    Calls Tryz.prog 26 #[.pointer (some ⟨b, 0, none⟩)] w fun e w' => e = .returned (.int .i64 (left st : Nat)) ∧ w = w' := by
  obtain ⟨z, hz, hl, hs⟩ := h
  have h0 : w.cell? ⟨b, 0, none⟩ = some (.string z) := cell_of_heap hz
  have hzl : left st = z.size := by unfold left; rw [← hl, len_list]
  rw [hzl]
  clear hz hl hzl
  go_enter Tryz.func26, Tryz.ntmps26
  go_wp2
  go_ret
  exact ⟨rfl, rfl⟩
theorem rqdone_any (b : Nat) (st : St) (w : World) (h : RqAt w b st) :
    Calls Tryz.prog 28 #[.pointer (some ⟨b, 0, none⟩)] w fun e w' => e = .returned (.bool (done st)) ∧ Below w.heap.size w w' := by
  obtain ⟨z, hz, hl, hs⟩ := h
  have h0 : w.cell? ⟨b, 0, none⟩ = some (.string z) := cell_of_heap hz
  have h1 : w.cell? ⟨b, 1, none⟩ = some (.bool st.isNone) := cell_of_heap hz
  have hcase := done_cases st z hl
  clear hz hl
  rcases hcase with ⟨c1, c2, c3⟩ | ⟨c1, c2, c3, c4⟩ | ⟨c1, c2, c3, c4⟩
  · rw [c3]
    rw [c2] at h1
    clear c1 c2 c3
    go_enter Tryz.func28, Tryz.ntmps28
    go_wp2
    go_ret
    exact ⟨rfl, Below.refl _ _⟩
  · rw [c4]
    rw [c2] at h1
    have t0 : ((z.size : Int) == 0) = true := beq_iff_eq.2 (by omega)
    clear c1 c2 c3 c4
    go_enter Tryz.func28, Tryz.ntmps28
    go_wp2
    go_ret
    exact ⟨rfl, Below.refl _ _⟩
  · rw [c4]
    rw [c2] at h1
    have t0 : ((z.size : Int) == 0) = false := beq_eq_false_iff_ne.2 (by omega)
    clear c1 c2 c3 c4
    go_enter Tryz.func28, Tryz.ntmps28
    go_wp2
    go_ret
    exact ⟨rfl, Below.refl _ _⟩
theorem RqAt.open {w : World} {b : Nat} {st : St} (h : RqAt w b st) : ∃ z : ByteArray, w.cell? ⟨b, 0, none⟩ = some (.string z) ∧ w.cell? ⟨b, 1, none⟩ = some (.bool st.isNone) ∧ w.frozen? ⟨b, 0, none⟩ = false ∧ z.size = left st ∧ z.size ≤ 4398046511104 ∧ z.data.toList = st.getD [] ∧ w.heap[b]? = some (.cells #[.string z, .bool st.isNone] 39 (0, 0)) := by
  obtain ⟨z, hz, hl, hs⟩ := h
  exact ⟨z, cell_of_heap hz, cell_of_heap hz, frozen_of_heap hz, by unfold left; rw [← hl, len_list], hs, hl, hz⟩
theorem rqlist_any (b : Nat) (st : St) (most : Int) (w : World) (h : RqAt w b st) :
    Calls Tryz.prog 78 #[.pointer (some ⟨b, 0, none⟩), .int .i64 most] w fun e w' => e = .returned (.int .i64 (rdList most st).1) ∧ RqAt w' b (rdList most st).2 ∧ w.grownBy w' (some b) := by
  have hin := rqint_any b st 0 most w h
  rw [rdList_of]
  have hn0 := rdInt_zero_le most st
  have hbd := rdInt_bounds 0 most st
  obtain ⟨n, st1, hres⟩ : ∃ n st1, rdInt 0 most st = (n, st1) := ⟨_, _, rfl⟩
  rw [hres] at hin hn0 hbd ⊢
  have hn1 : 0 ≤ n := hn0
  have hb1 : n ≤ 9223372036854775807 := hbd.2
  have HIN := Lib.hid hin
  clear hin hn0 hbd hres
  by_cases hle : n ≤ (left st1 : Nat)
  · rw [if_pos hle]
    go_enter Tryz.func78, Tryz.ntmps78
    go_wp2_with fail
    refine HIN.out.mono ?_
    rintro e w1 ⟨rfl, hr1, hg1⟩
    have HR1 := Lib.hid hr1; have HG1 := Lib.hid hg1
    obtain ⟨z1, c0, _, _, hsz, hs1, _, _⟩ := hr1.open
    have hle2 : n ≤ (z1.size : Int) := by omega
    clear hg1 hsz
    go_wp2_with fail
    go_ret
    exact ⟨rfl, HR1.out, HG1.out⟩
  · rw [if_neg hle]
    go_enter Tryz.func78, Tryz.ntmps78
    go_wp2_with fail
    refine HIN.out.mono ?_
    rintro e w1 ⟨rfl, hr1, hg1⟩
    have HR1 := Lib.hid hr1; have HG1 := Lib.hid hg1
    obtain ⟨z1, c0, _, _, hsz, hs1, _, _⟩ := hr1.open
    have hle2 : (z1.size : Int) < n := by omega
    clear hg1 hsz
    go_wp2_with fail
    refine (rfails_any b st1 w1 HR1.out).mono ?_
    rintro e w2 ⟨rfl, hr2, hg2⟩
    have HR2 := Lib.hid hr2; have HG2 := Lib.hid (HG1.out.trans hg2)
    clear hr2 hg2
    go_wp2_with fail
    go_ret
    exact ⟨rfl, HR2.out, HG2.out⟩
theorem rqtext_any (b : Nat) (st : St) (most : Int) (w : World) (h : RqAt w b st) :
    Calls Tryz.prog 77 #[.pointer (some ⟨b, 0, none⟩), .int .i64 most] w fun e w' => e = .returned (.string ⟨(rdText most st).1.toArray⟩) ∧ RqAt w' b (rdText most st).2 ∧ w.grownBy w' (some b) := by
  have hin := rqint_any b st 0 most w h
  rw [rdText_of]
  have hn0 := rdInt_zero_le most st
  have hbd := rdInt_bounds 0 most st
  obtain ⟨n, st1, hres⟩ : ∃ n st1, rdInt 0 most st = (n, st1) := ⟨_, _, rfl⟩
  rw [hres] at hin hn0 hbd ⊢
  have hn1 : 0 ≤ n := hn0
  have hb1 : n ≤ 9223372036854775807 := hbd.2
  obtain ⟨m, rfl⟩ : ∃ m : Nat, n = m := ⟨n.toNat, by omega⟩
  have HIN := Lib.hid hin
  clear hin hn0 hbd hres
  by_cases hle : (m : Int) ≤ (left st1 : Nat)
  · rw [if_pos hle]
    simp only [Int.toNat_natCast]
    obtain ⟨S, hS⟩ : ∃ S : ByteArray, (⟨((st1.getD []).take m).toArray⟩ : ByteArray) = S := ⟨_, rfl⟩
    obtain ⟨T, hT⟩ : ∃ T : St, st1.map (·.drop m) = T := ⟨_, rfl⟩
    rw [hS, hT]
    have HS := Lib.hid hS; have HT := Lib.hid hT
    clear hS hT
    go_enter Tryz.func77, Tryz.ntmps77
    go_wp2_with fail
    refine HIN.out.mono ?_
    rintro e w1 ⟨rfl, hr1, hg1⟩
    have HG1 := Lib.hid hg1
    obtain ⟨z1, c0, c1, f0, hsz, hs1, hl1, hh1⟩ := hr1.open
    have hle2 : (m : Int) ≤ (z1.size : Int) := by omega
    have hle3 : m ≤ z1.size := by omega
    have hfin : z1.extract 0 m = S := by rw [← HS.out]; exact str_eq (by rw [extract_list, hl1]; rfl)
    have HF := Lib.hid hfin; have HH := Lib.hid hh1; have HL := Lib.hid hl1
    have HN : Hid (T.isNone = st1.isNone ∧ T.getD [] = (st1.getD []).drop m) := by
      show _ ∧ _
      rw [← HT.out]
      cases st1 with
      | none => exact ⟨rfl, by simp⟩
      | some q => exact ⟨rfl, rfl⟩
    clear hg1 hsz hfin hh1 hl1
    go_wp2_with fail
    go_ret
    refine ⟨?_, ?_, HG1.out.trans (Lib.grownBy_setCell w1 b 0 _)⟩
    · rw [← HF.out]; rfl
    · refine ⟨z1.extract m z1.size, ?_, ?_, by rw [ByteArray.size_extract]; omega⟩
      · rw [HN.out.1]
        exact Lib.heap_setCell_same (i := 0) HH.out _
      · rw [HN.out.2, extract_list, ← len_list z1, HL.out]
        exact List.take_of_length_le (by simp)
  · rw [if_neg hle]
    go_enter Tryz.func77, Tryz.ntmps77
    go_wp2_with fail
    refine HIN.out.mono ?_
    rintro e w1 ⟨rfl, hr1, hg1⟩
    have HR1 := Lib.hid hr1; have HG1 := Lib.hid hg1
    obtain ⟨z1, c0, _, _, hsz, hs1, _, _⟩ := hr1.open
    have hle2 : (z1.size : Int) < (m : Int) := by omega
    clear hg1 hsz
    go_wp2_with fail
    refine (rfails_any b st1 w1 HR1.out).mono ?_
    rintro e w2 ⟨rfl, hr2, hg2⟩
    have HR2 := Lib.hid hr2; have HG2 := Lib.hid (HG1.out.trans hg2)
    clear hr2 hg2
    go_wp2_with fail
    go_ret
    exact ⟨rfl, HR2.out, HG2.out⟩
end Go.Proofs.YtdpgfnnhbfkacaaGreatDoor.Wire
