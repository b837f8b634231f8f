/-
  The contracts of wire.length and of the methods of wire.Reader: a reader that stands anywhere, a bad one, none; any bounds.
-/
import Derived.Test.YtdpgfnnhbfkacaaGreatDoorPbWireB
import Derived.Maps.AppendAt
import Derived.OwnWalk
set_option linter.unusedVariables false
set_option maxRecDepth 4000
namespace Go.Proofs.YtdpgfnnhbfkacaaGreatDoor.Wire
open Go.RowKit WireP
theorem grown_of_below {w w' : World} {row : Option Nat} (h : Below w.heap.size w w') : w.grownBy w' row := ⟨h.os, h.tape, h.output, h.size, fun k hk _ => h.block k hk⟩
theorem below_of_grown {w w' : World} {b B : Nat} (h : w.grownBy w' (some b)) (hB : B ≤ b) (hb : b < w.heap.size) : Below B w w' := ⟨h.os, h.tape, h.output, h.size, fun k hk => h.block k (by omega) (fun e => by cases e; omega)⟩
theorem number_is (s : ByteArray) (l : List UInt8) (n k : Int) (w : World) (hs : s.size ≤ 4398046511104) (hl : s.data.toList = l) (h : numOut l = (n, k)) :
    Calls Tryz.prog 126 #[.string s] w fun e w' => e = .returned (.tuple #[.int .i64 n, .int .i64 k]) ∧ Below w.heap.size w w' := by
  have h2 := number_any s w hs
  rw [hl, h] at h2
  exact h2
theorem ahead_is (b : Nat) (st : St) (z : ByteArray) (w : World) (h : RdAt w b st) (hz : z.data.toList = st.getD []) :
    Calls Tryz.prog 80 #[.pointer (some ⟨b, 0, none⟩)] w fun e w' => e = .returned (.string z) ∧ w = w' := by
  have h2 := ahead_any b st w h
  rw [← str_eq hz] at h2
  exact h2
theorem RdAt.text {w : World} {b : Nat} {st : St} (h : RdAt w b st) : ∃ z : ByteArray, z.data.toList = st.getD [] ∧ z.size ≤ 4398046511104 := by
  obtain ⟨z, h1, h2, h3⟩ := h
  exact ⟨z, h2, h3⟩
theorem pass_on (b : Nat) (k : Int) (l : List UInt8) (w : World) (h : RdAt w b (some l)) (h0 : 0 ≤ k) (hk : k ≤ (l.length : Nat)) :
    Calls Tryz.prog 106 #[.pointer (some ⟨b, 0, none⟩), .int .i64 k, .bool true] w fun e w' => e = .returned (.bool true) ∧ RdAt w' b (some (l.drop k.toNat)) ∧ w.grownBy w' (some b) := by
  obtain ⟨n, rfl⟩ : ∃ n : Nat, k = n := ⟨k.toNat, by omega⟩
  rw [Int.toNat_natCast]
  exact pass_yes b n l w h (by omega)
def lenOut (most : Int) (l : List UInt8) : Int × Int × Bool := if lenOk most l then (num l, 1 + ((nl l : Nat) : Int), true) else (0, 0, false)
theorem lenOut_no {most : Int} {l : List UInt8} (h : ¬ lenOk most l) : lenOut most l = (0, 0, false) := by unfold lenOut; rw [if_neg h]
theorem lenOut_yes {most : Int} {l : List UInt8} (h : lenOk most l) : lenOut most l = (num l, 1 + ((nl l : Nat) : Int), true) := by unfold lenOut; rw [if_pos h]
theorem length_any (s : ByteArray) (most : Int) (w : World) (hs : s.size ≤ 4398046511104) :
    Calls Tryz.prog 105 #[.string s, .int .i64 most] w fun e w' => e = .returned (.tuple #[.int .i64 (lenOut most s.data.toList).1, .int .i64 (lenOut most s.data.toList).2.1, .bool (lenOut most s.data.toList).2.2]) ∧ Below w.heap.size w w' := by
  obtain ⟨l, hl⟩ : ∃ l, s.data.toList = l := ⟨_, rfl⟩
  have hll : l.length = s.size := by rw [← hl, len_list]
  rw [hl]
  cases hok : ok l with
  | false =>
    rw [lenOut_no (fun h => by rw [h.1] at hok; cases hok)]
    have hnum := fun w => number_is s l 0 0 w hs hl (numOut_no hok)
    have HN := Lib.hid hnum
    clear hnum hl hok hll
    go_enter Tryz.func105, Tryz.ntmps105
    go_wp2_with fail
    refine (HN.out _).mono ?_
    rintro e w' ⟨rfl, hb⟩
    go_wp2_with fail
    go_ret3
    exact ⟨rfl, hb⟩
  | true =>
    have ⟨_, h8, hlt, _⟩ := ok_iff.1 hok
    have hnb := num_bounds hok
    have hnum := fun w => number_is s l (num l) (1 + ((nl l : Nat) : Int)) w hs hl (numOut_yes hok)
    by_cases hlk : lenOk most l
    · rw [lenOut_yes hlk]
      have ⟨_, hk0, hk1, hk2⟩ := hlk
      generalize num l = N at *
      generalize nl l = K at *
      have t1 : (1 + (K : Int) == 0) = false := beq_eq_false_iff_ne.2 (by omega)
      have t2 : decide (N < 0) = false := decide_eq_false (by omega)
      have t3 : decide (most < N) = false := decide_eq_false (by omega)
      have t4 : decide ((s.size : Int) - (1 + (K : Int)) < N) = false := decide_eq_false (by omega)
      have HN := Lib.hid hnum
      clear hnum hl hok hlk hk2 hll
      go_enter Tryz.func105, Tryz.ntmps105
      go_wp2_with fail
      refine (HN.out _).mono ?_
      rintro e w' ⟨rfl, hb⟩
      go_wp2_with fail
      go_ret3
      exact ⟨rfl, hb⟩
    · rw [lenOut_no hlk]
      have hcase : num l < 0 ∨ (0 ≤ num l ∧ most < num l) ∨ (0 ≤ num l ∧ num l ≤ most ∧ (s.size : Int) - (1 + ((nl l : Nat) : Int)) < num l) := by
        by_cases c1 : num l < 0
        · exact .inl c1
        by_cases c2 : most < num l
        · exact .inr (.inl ⟨by omega, c2⟩)
        · refine .inr (.inr ⟨by omega, by omega, ?_⟩)
          have c3 : ¬ num l ≤ ((l.length - (1 + nl l) : Nat) : Int) := fun h => hlk ⟨hok, by omega, by omega, h⟩
          omega
      generalize num l = N at *
      generalize nl l = K at *
      have HN := Lib.hid hnum
      clear hnum hl hok hlk hll
      have t1 : (1 + (K : Int) == 0) = false := beq_eq_false_iff_ne.2 (by omega)
      rcases hcase with c1 | ⟨c1, c2⟩ | ⟨c1, c2, c3⟩
      · have t2 : decide (N < 0) = true := decide_eq_true (by omega)
        go_enter Tryz.func105, Tryz.ntmps105
        go_wp2_with fail
        refine (HN.out _).mono ?_
        rintro e w' ⟨rfl, hb⟩
        go_wp2_with fail
        go_ret3
        exact ⟨rfl, hb⟩
      · have t2 : decide (N < 0) = false := decide_eq_false (by omega)
        have t3 : decide (most < N) = true := decide_eq_true (by omega)
        go_enter Tryz.func105, Tryz.ntmps105
        go_wp2_with fail
        refine (HN.out _).mono ?_
        rintro e w' ⟨rfl, hb⟩
        go_wp2_with fail
        go_ret3
        exact ⟨rfl, hb⟩
      · have t2 : decide (N < 0) = false := decide_eq_false (by omega)
        have t3 : decide (most < N) = false := decide_eq_false (by omega)
        have t4 : decide ((s.size : Int) - (1 + (K : Int)) < N) = true := decide_eq_true (by omega)
        go_enter Tryz.func105, Tryz.ntmps105
        go_wp2_with fail
        refine (HN.out _).mono ?_
        rintro e w' ⟨rfl, hb⟩
        go_wp2_with fail
        go_ret3
        exact ⟨rfl, hb⟩
theorem length_is (s : ByteArray) (l : List UInt8) (most n k : Int) (v : Bool) (w : World) (hs : s.size ≤ 4398046511104) (hl : s.data.toList = l) (h : lenOut most l = (n, k, v)) :
    Calls Tryz.prog 105 #[.string s, .int .i64 most] w fun e w' => e = .returned (.tuple #[.int .i64 n, .int .i64 k, .bool v]) ∧ Below w.heap.size w w' := by
  have h2 := length_any s most w hs
  rw [hl, h] at h2
  exact h2

theorem rdInt_no {lo hi : Int} {l : List UInt8} (h : ¬ (ok l = true ∧ lo ≤ num l ∧ num l ≤ hi)) : rdInt lo hi (some l) = (0, none) := by show ite _ _ _ = _; rw [if_neg h]
theorem rdInt_yes {lo hi : Int} {l : List UInt8} (h : ok l = true ∧ lo ≤ num l ∧ num l ≤ hi) : rdInt lo hi (some l) = (num l, some (l.drop (1 + nl l))) := by show ite _ _ _ = _; rw [if_pos h]
theorem rdint_fail (b : Nat) (st : St) (lo hi n k : Int) (w : World) (h : RdAt w b st) (hn : numOut (st.getD []) = (n, k)) (hc : k ≤ 0 ∨ (0 < k ∧ n < lo) ∨ (0 < k ∧ lo ≤ n ∧ hi < n)) :
    Calls Tryz.prog 108 #[.pointer (some ⟨b, 0, none⟩), .int .i64 lo, .int .i64 hi] w fun e w' => e = .returned (.int .i64 0) ∧ RdAt w' b none ∧ w.grownBy w' (some b) := by
  obtain ⟨z, hz, hzs⟩ := h.text
  have HA := Lib.hid (ahead_is b st z w h hz)
  have HN := Lib.hid (fun w => number_is z (st.getD []) n k w hzs hz hn)
  have HR := Lib.hid h
  clear h hz hn
  rcases hc with c1 | ⟨c1, c2⟩ | ⟨c1, c2, c3⟩
  · have t1 : decide (0 < k) = false := decide_eq_false (by omega)
    go_enter Tryz.func108, Tryz.ntmps108
    go_wp2_with fail
    refine HA.out.mono ?_
    rintro e w' ⟨rfl, rfl⟩
    go_wp2_with fail
    refine (HN.out _).mono ?_
    rintro e w1 ⟨rfl, hb⟩
    go_wp2_with fail
    refine (pass_no b _ st w1 (HR.out.keep (hb.block b HR.out.lt))).mono ?_
    rintro e w2 ⟨rfl, hr, hg⟩
    have HG := Lib.hid ((grown_of_below hb).trans hg)
    have HR2 := Lib.hid hr
    clear hb hg hr
    go_wp2_with fail
    go_ret
    exact ⟨rfl, HR2.out, HG.out⟩
  · have t1 : decide (0 < k) = true := decide_eq_true (by omega)
    have t2 : decide (lo ≤ n) = false := decide_eq_false (by omega)
    go_enter Tryz.func108, Tryz.ntmps108
    go_wp2_with fail
    refine HA.out.mono ?_
    rintro e w' ⟨rfl, rfl⟩
    go_wp2_with fail
    refine (HN.out _).mono ?_
    rintro e w1 ⟨rfl, hb⟩
    go_wp2_with fail
    refine (pass_no b _ st w1 (HR.out.keep (hb.block b HR.out.lt))).mono ?_
    rintro e w2 ⟨rfl, hr, hg⟩
    have HG := Lib.hid ((grown_of_below hb).trans hg)
    have HR2 := Lib.hid hr
    clear hb hg hr
    go_wp2_with fail
    go_ret
    exact ⟨rfl, HR2.out, HG.out⟩
  · have t1 : decide (0 < k) = true := decide_eq_true (by omega)
    have t2 : decide (lo ≤ n) = true := decide_eq_true (by omega)
    have t3 : decide (n ≤ hi) = false := decide_eq_false (by omega)
    go_enter Tryz.func108, Tryz.ntmps108
    go_wp2_with fail
    refine HA.out.mono ?_
    rintro e w' ⟨rfl, rfl⟩
    go_wp2_with fail
    refine (HN.out _).mono ?_
    rintro e w1 ⟨rfl, hb⟩
    go_wp2_with fail
    refine (pass_no b _ st w1 (HR.out.keep (hb.block b HR.out.lt))).mono ?_
    rintro e w2 ⟨rfl, hr, hg⟩
    have HG := Lib.hid ((grown_of_below hb).trans hg)
    have HR2 := Lib.hid hr
    clear hb hg hr
    go_wp2_with fail
    go_ret
    exact ⟨rfl, HR2.out, HG.out⟩
theorem rdint_any (b : Nat) (st : St) (lo hi : Int) (w : World) (h : RdAt w b st) :
    Calls Tryz.prog 108 #[.pointer (some ⟨b, 0, none⟩), .int .i64 lo, .int .i64 hi] w fun e w' => e = .returned (.int .i64 (rdInt lo hi st).1) ∧ RdAt w' b (rdInt lo hi st).2 ∧ w.grownBy w' (some b) := by
  cases st with
  | none => exact rdint_fail b none lo hi 0 0 w h rfl (.inl (by omega))
  | some l =>
    cases hok : ok l with
    | false =>
      rw [rdInt_no (fun h => by rw [h.1] at hok; cases hok)]
      exact rdint_fail b (some l) lo hi 0 0 w h (numOut_no hok) (.inl (by omega))
    | true =>
      by_cases h1 : num l < lo
      · rw [rdInt_no (fun h => by omega)]
        exact rdint_fail b (some l) lo hi (num l) (1 + ((nl l : Nat) : Int)) w h (numOut_yes hok) (.inr (.inl ⟨by omega, h1⟩))
      by_cases h2 : hi < num l
      · rw [rdInt_no (fun h => by omega)]
        exact rdint_fail b (some l) lo hi (num l) (1 + ((nl l : Nat) : Int)) w h (numOut_yes hok) (.inr (.inr ⟨by omega, by omega, h2⟩))
      rw [rdInt_yes ⟨hok, by omega, by omega⟩]
      have ⟨_, h8, hlt, _⟩ := ok_iff.1 hok
      obtain ⟨z, hz, hzs⟩ := h.text
      have HA := Lib.hid (ahead_is b (some l) z w h hz)
      have HN := Lib.hid (fun w => number_is z l (num l) (1 + ((nl l : Nat) : Int)) w hzs hz (numOut_yes hok))
      have HR := Lib.hid h
      have c1 : lo ≤ num l := by omega
      have c2 : num l ≤ hi := by omega
      clear h hz hok h1 h2
      generalize num l = N at *
      generalize nl l = K at *
      have hk2 : (1 + (K : Int)).toNat = 1 + K := by omega
      have HK := Lib.hid hk2
      clear hk2
      go_enter Tryz.func108, Tryz.ntmps108
      go_wp2_with fail
      refine HA.out.mono ?_
      rintro e w' ⟨rfl, rfl⟩
      go_wp2_with fail
      refine (HN.out _).mono ?_
      rintro e w1 ⟨rfl, hb⟩
      go_wp2_with fail
      refine (pass_on b (1 + (K : Int)) l w1 (HR.out.keep (hb.block b HR.out.lt)) (by omega) (by omega)).mono ?_
      rintro e w2 ⟨rfl, hr, hg⟩
      rw [HK.out] at hr
      have HG := Lib.hid ((grown_of_below hb).trans hg)
      have HR2 := Lib.hid hr
      clear hb hg hr
      go_wp2_with fail
      go_ret
      exact ⟨rfl, HR2.out, HG.out⟩
theorem lenOut_nil (most : Int) : lenOut most [] = (0, 0, false) := lenOut_no (fun h => by have := h.1; cases this)
theorem rdlist_any (b : Nat) (st : St) (most : Int) (w : World) (h : RdAt w b st) :
    Calls Tryz.prog 74 #[.pointer (some ⟨b, 0, none⟩), .int .i64 most] w fun e w' => e = .returned (.int .i64 (rdList most st).1) ∧ RdAt w' b (rdList most st).2 ∧ w.grownBy w' (some b) := by
  obtain ⟨z, hz, hzs⟩ := h.text
  have HA := Lib.hid (ahead_is b st z w h hz)
  have HR := Lib.hid h
  by_cases hy : ∃ l, st = some l ∧ lenOk most l
  · obtain ⟨l, rfl, hlk⟩ := hy
    have ⟨hok, hk0, hk1, hk2⟩ := hlk
    have ⟨_, h8, hlt, _⟩ := ok_iff.1 hok
    have HN := Lib.hid (fun w => length_is z l most _ _ _ w hzs hz (lenOut_yes hlk))
    have hrd : rdList most (some l) = (num l, some (l.drop (1 + nl l))) := by show ite _ _ _ = _; rw [if_pos hlk]
    rw [hrd]
    clear h hz hlk hok hrd
    generalize num l = N at *
    generalize nl l = K at *
    have hk2 : (1 + (K : Int)).toNat = 1 + K := by omega
    have HK := Lib.hid hk2
    clear hk2
    go_enter Tryz.func74, Tryz.ntmps74
    go_wp2_with fail
    refine HA.out.mono ?_
    rintro e w' ⟨rfl, rfl⟩
    go_wp2_with fail
    refine (HN.out _).mono ?_
    rintro e w1 ⟨rfl, hb⟩
    go_wp2_with fail
    refine (pass_on b (1 + (K : Int)) l w1 (HR.out.keep (hb.block b HR.out.lt)) (by omega) (by omega)).mono ?_
    rintro e w2 ⟨rfl, hr, hg⟩
    rw [HK.out] at hr
    have HG := Lib.hid ((grown_of_below hb).trans hg)
    have HR2 := Lib.hid hr
    clear hb hg hr
    go_wp2_with fail
    go_ret
    exact ⟨rfl, HR2.out, HG.out⟩
  · have hln : lenOut most (st.getD []) = (0, 0, false) := by
      cases st with
      | none => exact lenOut_nil most
      | some l => exact lenOut_no (fun h => hy ⟨l, rfl, h⟩)
    have hrd : rdList most st = (0, none) := by
      cases st with
      | none => rfl
      | some l => show ite _ _ _ = _; rw [if_neg (fun h => hy ⟨l, rfl, h⟩)]
    rw [hrd]
    have HN := Lib.hid (fun w => length_is z (st.getD []) most 0 0 false w hzs hz hln)
    clear h hz hln hrd hy
    go_enter Tryz.func74, Tryz.ntmps74
    go_wp2_with fail
    refine HA.out.mono ?_
    rintro e w' ⟨rfl, rfl⟩
    go_wp2_with fail
    refine (HN.out _).mono ?_
    rintro e w1 ⟨rfl, hb⟩
    go_wp2_with fail
    refine (pass_no b _ st w1 (HR.out.keep (hb.block b HR.out.lt))).mono ?_
    rintro e w2 ⟨rfl, hr, hg⟩
    have HG := Lib.hid ((grown_of_below hb).trans hg)
    have HR2 := Lib.hid hr
    clear hb hg hr
    go_wp2_with fail
    go_ret
    exact ⟨rfl, HR2.out, HG.out⟩
theorem text_part (z : ByteArray) (l : List UInt8) (i j : Nat) (hl : z.data.toList = l) : z.extract i j = ⟨((l.drop i).take (j - i)).toArray⟩ := str_eq (by rw [extract_list, hl])
theorem rdtext_any (b : Nat) (st : St) (most : Int) (w : World) (h : RdAt w b st) :
    Calls Tryz.prog 73 #[.pointer (some ⟨b, 0, none⟩), .int .i64 most] w fun e w' => e = .returned (.string ⟨(rdText most st).1.toArray⟩) ∧ RdAt w' b (rdText most st).2 ∧ w.grownBy w' (some b) := by
  obtain ⟨z, hz, hzs⟩ := h.text
  have HA := Lib.hid (ahead_is b st z w h hz)
  have HR := Lib.hid h
  by_cases hy : ∃ l, st = some l ∧ lenOk most l
  · obtain ⟨l, rfl, hlk⟩ := hy
    have ⟨hok, hk0, hk1, hk2⟩ := hlk
    have ⟨_, h8, hlt, _⟩ := ok_iff.1 hok
    have HN := Lib.hid (fun w => length_is z l most _ _ _ w hzs hz (lenOut_yes hlk))
    have hrd : rdText most (some l) = ((l.drop (1 + nl l)).take (num l).toNat, some (l.drop (1 + nl l + (num l).toNat))) := by show ite _ _ _ = _; rw [if_pos hlk]
    rw [hrd]
    have hll : l.length = z.size := by rw [← len_list]; exact congrArg List.length hz.symm
    have HZ := Lib.hid (show z.data.toList = l from hz)
    clear h hz hlk hok hrd
    obtain ⟨M, hM⟩ : ∃ M : Nat, num l = M := ⟨(num l).toNat, by omega⟩
    rw [hM, Int.toNat_natCast]
    rw [hM] at HN hk0 hk1 hk2
    clear hM
    generalize nl l = K at *
    have hk3 : ((1 + (K : Int)) + (M : Int)).toNat = 1 + K + M := by omega
    have hk4 : (1 + (K : Int)).toNat = 1 + K := by omega
    have hk5 : 1 + (K : Int) + (M : Int) ≤ (z.size : Int) := by omega
    have hk6 : 0 ≤ 1 + (K : Int) := by omega
    have hk7 : 0 ≤ 1 + (K : Int) + (M : Int) := by omega
    have hk8 : 1 + (K : Int) ≤ 1 + (K : Int) + (M : Int) := by omega
    have hex := text_part z l (1 + K) (1 + K + M) HZ.out
    rw [show 1 + K + M - (1 + K) = M by omega] at hex
    rw [← hex]
    have HK := Lib.hid hk3
    clear hex hk2
    go_enter Tryz.func73, Tryz.ntmps73
    go_wp2_with fail
    refine HA.out.mono ?_
    rintro e w' ⟨rfl, rfl⟩
    go_wp2_with fail
    refine (HN.out _).mono ?_
    rintro e w1 ⟨rfl, hb⟩
    go_wp2_with fail
    refine (pass_on b (1 + (K : Int) + (M : Int)) l w1 (HR.out.keep (hb.block b HR.out.lt)) (by omega) (by omega)).mono ?_
    rintro e w2 ⟨rfl, hr, hg⟩
    rw [HK.out] at hr
    have HG := Lib.hid ((grown_of_below hb).trans hg)
    have HR2 := Lib.hid hr
    clear hb hg hr
    go_wp2_with fail
    go_ret
    exact ⟨rfl, HR2.out, HG.out⟩
  · have hln : lenOut most (st.getD []) = (0, 0, false) := by
      cases st with
      | none => exact lenOut_nil most
      | some l => exact lenOut_no (fun h => hy ⟨l, rfl, h⟩)
    have hrd : rdText most st = ([], none) := by
      cases st with
      | none => rfl
      | some l => show ite _ _ _ = _; rw [if_neg (fun h => hy ⟨l, rfl, h⟩)]
    rw [hrd]
    have HN := Lib.hid (fun w => length_is z (st.getD []) most 0 0 false w hzs hz hln)
    clear h hz hln hrd hy
    go_enter Tryz.func73, Tryz.ntmps73
    go_wp2_with fail
    refine HA.out.mono ?_
    rintro e w' ⟨rfl, rfl⟩
    go_wp2_with fail
    refine (HN.out _).mono ?_
    rintro e w1 ⟨rfl, hb⟩
    go_wp2_with fail
    refine (pass_no b _ st w1 (HR.out.keep (hb.block b HR.out.lt))).mono ?_
    rintro e w2 ⟨rfl, hr, hg⟩
    have HG := Lib.hid ((grown_of_below hb).trans hg)
    have HR2 := Lib.hid hr
    clear hb hg hr
    go_wp2_with fail
    go_ret
    exact ⟨rfl, HR2.out, HG.out⟩
end Go.Proofs.YtdpgfnnhbfkacaaGreatDoor.Wire

/-
  The contracts of wire.Reader's Flag and Done and of the document's Flag, Text, List, Left, Done: a reader that stands anywhere, a bad one; any bounds.
-/
set_option linter.unusedVariables false
set_option maxRecDepth 4000
namespace Go.Proofs.YtdpgfnnhbfkacaaGreatDoor.Wire
open Go.RowKit WireP
theorem rdFlag_no {st : St} (h : st = none ∨ ∃ l, st = some l ∧ (l = [] ∨ 1 < (l.headD 0).toNat)) : rdFlag st = (false, none) := by
  rcases h with rfl | ⟨l, rfl, h⟩
  · rfl
  · show ite _ _ _ = _
    rw [if_neg]
    rintro ⟨h1, h2⟩
    rcases h with h | h
    · exact h1 h
    · omega
theorem rdFlag_yes {l : List UInt8} {c : Nat} (h : l ≠ []) (hc : (l.headD 0).toNat = c) (h1 : c ≤ 1) : rdFlag (some l) = (decide (c = 1), some (l.drop 1)) := by
  show ite _ _ _ = _
  rw [if_pos ⟨h, by omega⟩, hc]
theorem flag_cases (st : St) (z : ByteArray) (hz : z.data.toList = st.getD []) :
    (z.size = 0 ∧ rdFlag st = (false, none)) ∨ (∃ (h : 0 < z.size) (c : Nat), z[0].toNat = c ∧ 1 < c ∧ rdFlag st = (false, none) ∧ st.isNone = false) ∨ ∃ (h : 0 < z.size) (l : List UInt8) (c : Nat), z[0].toNat = c ∧ c ≤ 1 ∧ st = some l ∧ rdFlag st = (decide (c = 1), some (l.drop 1)) := by
  cases st with
  | none =>
    left
    have : z.data.toList = [] := hz
    exact ⟨by rw [← len_list, this]; rfl, rfl⟩
  | some l =>
    have hz2 : z.data.toList = l := hz
    by_cases h0 : z.size = 0
    · left
      exact ⟨h0, rdFlag_no (.inr ⟨l, rfl, .inl (List.eq_nil_of_length_eq_zero (by rw [← hz2, len_list]; exact h0))⟩)⟩
    right
    have h : 0 < z.size := by omega
    have hh : (l.headD 0).toNat = z[0].toNat := by rw [← hz2, headD_at z h]
    have hne : l ≠ [] := by intro e; have := len_list z; rw [hz2, e] at this; simp at this; omega
    by_cases h1 : 1 < z[0].toNat
    · exact .inl ⟨h, _, rfl, h1, rdFlag_no (.inr ⟨l, rfl, .inr (by omega)⟩), rfl⟩
    · exact .inr ⟨h, l, _, rfl, by omega, rfl, rdFlag_yes hne hh (by omega)⟩
theorem done_cases (st : St) (z : ByteArray) (hz : z.data.toList = st.getD []) : (st.isSome = false ∧ st.isNone = true ∧ done st = false) ∨ (st.isSome = true ∧ st.isNone = false ∧ z.size = 0 ∧ done st = true) ∨ (st.isSome = true ∧ st.isNone = false ∧ 0 < z.size ∧ done st = false) := by
  cases st with
  | none => exact .inl ⟨rfl, rfl, rfl⟩
  | some l =>
    have hz2 : z.data.toList = l := hz
    right
    by_cases h0 : z.size = 0
    · left
      have : l = [] := List.eq_nil_of_length_eq_zero (by rw [← hz2, len_list]; exact h0)
      subst this
      exact ⟨rfl, rfl, h0, rfl⟩
    · right
      refine ⟨rfl, rfl, by omega, decide_eq_false ?_⟩
      intro e
      cases e
      have := len_list z
      rw [hz2] at this
      simp at this
      omega
theorem rddone_any (b : Nat) (st : St) (w : World) (h : RdAt w b st) :
    Calls Tryz.prog 27 #[.pointer (some ⟨b, 0, none⟩)] w fun e w' => e = .returned (.bool (done st)) ∧ Below w.heap.size w w' := by
  obtain ⟨z, hz, hl, hs⟩ := h
  have h0 : w.cell? ⟨b, 0, none⟩ = some (.bool st.isSome) := cell_of_heap hz
  have h1 : w.cell? ⟨b, 1, none⟩ = some (.string z) := cell_of_heap hz
  have hcase := done_cases st z hl
  clear hz hl
  rcases hcase with ⟨c1, c2, c3⟩ | ⟨c1, c2, c3, c4⟩ | ⟨c1, c2, c3, c4⟩
  · rw [c3]
    rw [c1] at h0
    clear c1 c2 c3
    go_enter Tryz.func27, Tryz.ntmps27
    go_wp2
    go_ret
    exact ⟨rfl, Below.refl _ _⟩
  · rw [c4]
    rw [c1] at h0
    have t0 := empty_yes z c3
    clear c1 c2 c3 c4
    go_enter Tryz.func27, Tryz.ntmps27
    go_wp2
    go_ret
    exact ⟨rfl, Below.refl _ _⟩
  · rw [c4]
    rw [c1] at h0
    have t0 := empty_no z c3
    clear c1 c2 c3 c4
    go_enter Tryz.func27, Tryz.ntmps27
    go_wp2
    go_ret
    exact ⟨rfl, Below.refl _ _⟩
end Go.Proofs.YtdpgfnnhbfkacaaGreatDoor.Wire
