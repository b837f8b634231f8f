/-
  The contracts of wire.length and of the methods of wire.Reader: a reader that stands anywhere, a bad one, none; any bounds.
-/
import Derived.Test.YtamcidlkbhanfaaWireB
import Derived.Maps.AppendAt
import Derived.OwnWalk
set_option linter.unusedVariables false
set_option maxRecDepth 4000
namespace Go.Proofs.Ytamcidlkbhanfaa.Wire
open Go.RowKit WireP

theorem grown_of_below {w w' : World} {row : Option Nat} (h : Below w.heap.size w w') : w.grownBy w' row := ⟨h.os, h.tape, h.output, h.size, fun k hk _ => h.block k hk⟩
theorem below_of_grown {w w' : World} {b B : Nat} (h : w.grownBy w' (some b)) (hB : B ≤ b) (hb : b < w.heap.size) : Below B w w' := ⟨h.os, h.tape, h.output, h.size, fun k hk => h.block k (by omega) (fun e => by cases e; omega)⟩
theorem number_is (s : ByteArray) (l : List UInt8) (n k : Int) (w : World) (hs : s.size ≤ 4398046511104) (hl : s.data.toList = l) (h : numOut l = (n, k)) :
    Calls Try.prog 56 #[.string s] w fun e w' => e = .returned (.tuple #[.int .i64 n, .int .i64 k]) ∧ Below w.heap.size w w' := by
  have h2 := number_any s w hs
  rw [hl, h] at h2
  exact h2
theorem ahead_is (b : Nat) (st : St) (z : ByteArray) (w : World) (h : RdAt w b st) (hz : z.data.toList = st.getD []) :
    Calls Try.prog 46 #[.pointer (some ⟨b, 0, none⟩)] w fun e w' => e = .returned (.string z) ∧ w = w' := by
  have h2 := ahead_any b st w h
  rw [← str_eq hz] at h2
  exact h2
theorem RdAt.text {w : World} {b : Nat} {st : St} (h : RdAt w b st) : ∃ z : ByteArray, z.data.toList = st.getD [] ∧ z.size ≤ 4398046511104 := by
  obtain ⟨z, h1, h2, h3⟩ := h
  exact ⟨z, h2, h3⟩
theorem pass_on (b : Nat) (k : Int) (l : List UInt8) (w : World) (h : RdAt w b (some l)) (h0 : 0 ≤ k) (hk : k ≤ (l.length : Nat)) :
    Calls Try.prog 57 #[.pointer (some ⟨b, 0, none⟩), .int .i64 k, .bool true] w fun e w' => e = .returned (.bool true) ∧ RdAt w' b (some (l.drop k.toNat)) ∧ w.grownBy w' (some b) := by
  obtain ⟨n, rfl⟩ : ∃ n : Nat, k = n := ⟨k.toNat, by omega⟩
  rw [Int.toNat_natCast]
  exact pass_yes b n l w h (by omega)
theorem pass_nil (k : Int) (v : Bool) (w : World) :
    Calls Try.prog 57 #[.pointer none, .int .i64 k, .bool v] w fun e w' => e = .returned (.bool false) ∧ w = w' := by
  go_enter Try.func57, Try.ntmps57
  go_wp2
  go_ret
  exact ⟨rfl, rfl⟩

/-- What length gives. -/
def lenOut (most : Int) (l : List UInt8) : Int × Int × Bool := if lenOk most l then (num l, 1 + ((nl l : Nat) : Int), true) else (0, 0, false)
theorem lenOut_no {most : Int} {l : List UInt8} (h : ¬ lenOk most l) : lenOut most l = (0, 0, false) := by unfold lenOut; rw [if_neg h]
theorem lenOut_yes {most : Int} {l : List UInt8} (h : lenOk most l) : lenOut most l = (num l, 1 + ((nl l : Nat) : Int), true) := by unfold lenOut; rw [if_pos h]
theorem rdInt_none (lo hi : Int) : rdInt lo hi none = (0, none) := rfl
theorem rdInt_no {lo hi : Int} {l : List UInt8} (h : ¬ (ok l = true ∧ lo ≤ num l ∧ num l ≤ hi)) : rdInt lo hi (some l) = (0, none) := by show ite _ _ _ = _; rw [if_neg h]
theorem rdInt_yes {lo hi : Int} {l : List UInt8} (h : ok l = true ∧ lo ≤ num l ∧ num l ≤ hi) : rdInt lo hi (some l) = (num l, some (l.drop (1 + nl l))) := by show ite _ _ _ = _; rw [if_pos h]
/-- Reader.Int where there is no number, or one out of bounds. -/
theorem rdint_fail (b : Nat) (st : St) (lo hi n k : Int) (w : World) (h : RdAt w b st) (hn : numOut (st.getD []) = (n, k)) (hc : k ≤ 0 ∨ (0 < k ∧ n < lo) ∨ (0 < k ∧ lo ≤ n ∧ hi < n)) :
    Calls Try.prog 41 #[.pointer (some ⟨b, 0, none⟩), .int .i64 lo, .int .i64 hi] w fun e w' => e = .returned (.int .i64 0) ∧ RdAt w' b none ∧ w.grownBy w' (some b) := by
  obtain ⟨z, hz, hzs⟩ := h.text
  have HA := Lib.hid (ahead_is b st z w h hz)
  have HN := Lib.hid (fun w => number_is z (st.getD []) n k w hzs hz hn)
  have HR := Lib.hid h
  clear h hz hn
  rcases hc with c1 | ⟨c1, c2⟩ | ⟨c1, c2, c3⟩
  · have t1 : decide (0 < k) = false := decide_eq_false (by omega)
    go_enter Try.func41, Try.ntmps41
    go_wp2_with fail
    refine HA.out.mono ?_
    rintro e w' ⟨rfl, rfl⟩
    go_wp2_with fail
    refine (HN.out _).mono ?_
    rintro e w1 ⟨rfl, hb⟩
    go_wp2_with fail
    refine (pass_no b _ st w1 (HR.out.keep (hb.block b HR.out.lt))).mono ?_
    rintro e w2 ⟨rfl, hr, hg⟩
    have HG := Lib.hid ((grown_of_below hb).trans hg)
    have HR2 := Lib.hid hr
    clear hb hg hr
    go_wp2_with fail
    go_ret
    exact ⟨rfl, HR2.out, HG.out⟩
  · have t1 : decide (0 < k) = true := decide_eq_true (by omega)
    have t2 : decide (lo ≤ n) = false := decide_eq_false (by omega)
    go_enter Try.func41, Try.ntmps41
    go_wp2_with fail
    refine HA.out.mono ?_
    rintro e w' ⟨rfl, rfl⟩
    go_wp2_with fail
    refine (HN.out _).mono ?_
    rintro e w1 ⟨rfl, hb⟩
    go_wp2_with fail
    refine (pass_no b _ st w1 (HR.out.keep (hb.block b HR.out.lt))).mono ?_
    rintro e w2 ⟨rfl, hr, hg⟩
    have HG := Lib.hid ((grown_of_below hb).trans hg)
    have HR2 := Lib.hid hr
    clear hb hg hr
    go_wp2_with fail
    go_ret
    exact ⟨rfl, HR2.out, HG.out⟩
  · have t1 : decide (0 < k) = true := decide_eq_true (by omega)
    have t2 : decide (lo ≤ n) = true := decide_eq_true (by omega)
    have t3 : decide (n ≤ hi) = false := decide_eq_false (by omega)
    go_enter Try.func41, Try.ntmps41
    go_wp2_with fail
    refine HA.out.mono ?_
    rintro e w' ⟨rfl, rfl⟩
    go_wp2_with fail
    refine (HN.out _).mono ?_
    rintro e w1 ⟨rfl, hb⟩
    go_wp2_with fail
    refine (pass_no b _ st w1 (HR.out.keep (hb.block b HR.out.lt))).mono ?_
    rintro e w2 ⟨rfl, hr, hg⟩
    have HG := Lib.hid ((grown_of_below hb).trans hg)
    have HR2 := Lib.hid hr
    clear hb hg hr
    go_wp2_with fail
    go_ret
    exact ⟨rfl, HR2.out, HG.out⟩
theorem rdint_any (b : Nat) (st : St) (lo hi : Int) (w : World) (h : RdAt w b st) :
    Calls Try.prog 41 #[.pointer (some ⟨b, 0, none⟩), .int .i64 lo, .int .i64 hi] w fun e w' => e = .returned (.int .i64 (rdInt lo hi st).1) ∧ RdAt w' b (rdInt lo hi st).2 ∧ w.grownBy w' (some b) := by
  cases st with
  | none => exact rdint_fail b none lo hi 0 0 w h rfl (.inl (by omega))
  | some l =>
    cases hok : ok l with
    | false =>
      rw [rdInt_no (fun h => by rw [h.1] at hok; cases hok)]
      exact rdint_fail b (some l) lo hi 0 0 w h (numOut_no hok) (.inl (by omega))
    | true =>
      by_cases h1 : num l < lo
      · rw [rdInt_no (fun h => by omega)]
        exact rdint_fail b (some l) lo hi (num l) (1 + ((nl l : Nat) : Int)) w h (numOut_yes hok) (.inr (.inl ⟨by omega, h1⟩))
      by_cases h2 : hi < num l
      · rw [rdInt_no (fun h => by omega)]
        exact rdint_fail b (some l) lo hi (num l) (1 + ((nl l : Nat) : Int)) w h (numOut_yes hok) (.inr (.inr ⟨by omega, by omega, h2⟩))
      rw [rdInt_yes ⟨hok, by omega, by omega⟩]
      have ⟨_, h8, hlt, _⟩ := ok_iff.1 hok
      obtain ⟨z, hz, hzs⟩ := h.text
      have HA := Lib.hid (ahead_is b (some l) z w h hz)
      have HN := Lib.hid (fun w => number_is z l (num l) (1 + ((nl l : Nat) : Int)) w hzs hz (numOut_yes hok))
      have HR := Lib.hid h
      have c1 : lo ≤ num l := by omega
      have c2 : num l ≤ hi := by omega
      clear h hz hok h1 h2
      generalize num l = N at *
      generalize nl l = K at *
      have hk2 : (1 + (K : Int)).toNat = 1 + K := by omega
      have HK := Lib.hid hk2
      clear hk2
      go_enter Try.func41, Try.ntmps41
      go_wp2_with fail
      refine HA.out.mono ?_
      rintro e w' ⟨rfl, rfl⟩
      go_wp2_with fail
      refine (HN.out _).mono ?_
      rintro e w1 ⟨rfl, hb⟩
      go_wp2_with fail
      refine (pass_on b (1 + (K : Int)) l w1 (HR.out.keep (hb.block b HR.out.lt)) (by omega) (by omega)).mono ?_
      rintro e w2 ⟨rfl, hr, hg⟩
      rw [HK.out] at hr
      have HG := Lib.hid ((grown_of_below hb).trans hg)
      have HR2 := Lib.hid hr
      clear hb hg hr
      go_wp2_with fail
      go_ret
      exact ⟨rfl, HR2.out, HG.out⟩
theorem numOut_nil : numOut [] = (0, 0) := rfl
theorem lenOut_nil (most : Int) : lenOut most [] = (0, 0, false) := lenOut_no (fun h => by have := h.1; cases this)
theorem rdint_nil (lo hi : Int) (w : World) :
    Calls Try.prog 41 #[.pointer none, .int .i64 lo, .int .i64 hi] w fun e w' => e = .returned (.int .i64 0) ∧ Below w.heap.size w w' := by
  go_enter Try.func41, Try.ntmps41
  go_wp2_with fail
  refine (ahead_nil w).mono ?_
  rintro e w' ⟨rfl, rfl⟩
  go_wp2_with fail
  refine (number_is ⟨#[]⟩ [] 0 0 _ (by decide) rfl numOut_nil).mono ?_
  rintro e w1 ⟨rfl, hb⟩
  go_wp2_with fail
  refine (pass_nil _ _ w1).mono ?_
  rintro e w2 ⟨rfl, rfl⟩
  go_wp2_with fail
  go_ret
  exact ⟨rfl, hb⟩
theorem text_part (z : ByteArray) (l : List UInt8) (i j : Nat) (hl : z.data.toList = l) : z.extract i j = ⟨((l.drop i).take (j - i)).toArray⟩ := str_eq (by rw [extract_list, hl])
end Go.Proofs.Ytamcidlkbhanfaa.Wire
