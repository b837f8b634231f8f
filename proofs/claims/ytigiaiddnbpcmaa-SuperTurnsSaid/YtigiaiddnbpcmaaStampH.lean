/-
  The contracts of the document's Torn, and of the laws' own 'awake': the chapter's example; both Opens and both Seals in one.
-/
import Derived.Test.YtigiaiddnbpcmaaStampG
set_option linter.unusedVariables false
set_option maxRecDepth 4000
namespace Go.Proofs.Ytigiaiddnbpcmaa
open Go.RowKit CrcP StampP

theorem open_any (s : ByteArray) (w : World) (hs : s.size ≤ 9223372036854775807) : Calls Try.prog 30 #[.string s] w fun e w' => e = .returned (opV (opn s.data.toList)) ∧ Below w.heap.size w w' := by
  by_cases h : s.size = 128
  · exact open_yes s w h
  · rw [opn_none_len (by rw [len_list]; exact h)]
    exact open_len s w h hs
theorem ropen_any (s : ByteArray) (w : World) (hs : s.size ≤ 9223372036854775807) : Calls Try.prog 32 #[.string s] w fun e w' => e = .returned (opV (opn s.data.toList)) ∧ Below w.heap.size w w' := by
  by_cases h : s.size = 128
  · exact ropen_yes s w h
  · rw [opn_none_len (by rw [len_list]; exact h)]
    exact ropen_len s w h hs
/-- What is sealed: the text and the error's number. -/
def slR (n i c : Int) (s : ByteArray) : ByteArray × Int :=
  if fit n i c then (if s.size ≤ 104 then (str (sl n.toNat i.toNat c.toNat s.data.toList), 0) else (⟨#[]⟩, 9)) else (⟨#[]⟩, 1)
theorem seal_any (n i c : Int) (s : ByteArray) (w : World) (hs : s.size ≤ 9223372036854775807) : Calls Try.prog 23 #[stV n i c, .string s] w fun e w' => e = .returned (.tuple #[.string (slR n i c s).1, .int .i64 (slR n i c s).2]) ∧ Below w.heap.size w w' := by
  unfold slR
  by_cases h : fit n i c
  · rw [if_pos h]
    by_cases hz : s.size ≤ 104
    · rw [if_pos hz]
      have g := h
      unfold fit at g
      have e1 : n = (n.toNat : Int) := by omega
      have e2 : i = (i.toNat : Int) := by omega
      have e3 : c = (c.toNat : Int) := by omega
      have := seal_yes n.toNat i.toNat c.toNat s w (by rw [← e1, ← e2, ← e3]; exact h) hz
      rw [← e1, ← e2, ← e3] at this
      exact this
    · rw [if_neg hz]
      exact seal_long n i c s w h (by omega)
  · rw [if_neg h]
    exact seal_not n i c s w h
theorem rseal_any (n i c : Int) (s : ByteArray) (w : World) (hs : s.size ≤ 9223372036854775807) : Calls Try.prog 26 #[stV n i c, .string s] w fun e w' => e = .returned (.tuple #[.string (slR n i c s).1, .int .i64 (slR n i c s).2]) ∧ Below w.heap.size w w' := by
  unfold slR
  by_cases h : fit n i c
  · rw [if_pos h]
    by_cases hz : s.size ≤ 104
    · rw [if_pos hz]
      have g := h
      unfold fit at g
      have e1 : n = (n.toNat : Int) := by omega
      have e2 : i = (i.toNat : Int) := by omega
      have e3 : c = (c.toNat : Int) := by omega
      have := rseal_yes n.toNat i.toNat c.toNat s w (by rw [← e1, ← e2, ← e3]; exact h) hz
      rw [← e1, ← e2, ← e3] at this
      exact this
    · rw [if_neg hz]
      exact rseal_long n i c s w h (by omega)
  · rw [if_neg h]
    exact rseal_not n i c s w h
theorem below_drewN' {B : Nat} {a w : World} (h : Below B a w) (n : Nat) : Below B a (w.drewN n) := h.trans ⟨rfl, rfl, rfl, Nat.le_refl _, fun _ _ => rfl⟩
theorem torn_k (o f : ByteArray) (k : Nat) (hk : k ≤ 128) (ho : o.size = 128) : f.extract 0 k ++ o.extract k 128 = str (f.data.toList.take k ++ o.data.toList.drop k) := by
  rw [← str_app]
  congr 1
  · rw [← str_data (f.extract 0 k)]
    congr 1
    rw [fld_str, fld, List.drop_zero, Nat.sub_zero]
  · rw [← str_data (o.extract k 128)]
    congr 1
    rw [fld_str, fld, List.take_of_length_le (by rw [List.length_drop, len_list, ho]; exact Nat.le_refl _)]
theorem torn_any (o f : ByteArray) (x : Int) (ho : o.size = 128) (hf : f.size = 128) :
    ∃ k, k ≤ 128 ∧ ∀ w, Calls Try.prog 21 #[.string o, .string f, .int .i64 x] w fun e w' => e = .returned (.string (str (f.data.toList.take k ++ o.data.toList.drop k))) ∧ Below w.heap.size w w' := by
  have h1 : ((o.size : Int) != 128) = false := by simp; omega
  have h2 : ((f.size : Int) != 128) = false := by simp; omega
  have hr1 := Int.tmod_lt_of_pos x (show (0 : Int) < 129 by decide)
  have hr2 := Int.lt_tmod_of_pos x (show (0 : Int) < 129 by decide)
  obtain ⟨y, hy⟩ : ∃ y, x.tmod 129 = y := ⟨_, rfl⟩
  rw [hy] at hr1 hr2
  by_cases h0 : y < 0
  · obtain ⟨k, hk⟩ : ∃ k : Nat, y = -(k : Int) := ⟨(-y).toNat, by omega⟩
    subst hk
    refine ⟨k, by omega, fun w => ?_⟩
    rw [← torn_k o f k (by omega) ho]
    have k1 : 0 < k := by omega
    have k2 : k ≤ 128 := by omega
    have k3 : (k : Int) ≤ 128 := by omega
    have k4 : (0 : Int) < (k : Int) := by omega
    clear hr1 hr2
    go_enter Try.func21, Try.ntmps21
    go_wp2_with fail
    go_quiet (fail)
    go_wp2_with fail
    go_ret
    exact ⟨rfl, below_drewN' (Below.refl _ _) _⟩
  · obtain ⟨k, hk⟩ : ∃ k : Nat, y = (k : Int) := ⟨y.toNat, by omega⟩
    subst hk
    refine ⟨k, by omega, fun w => ?_⟩
    rw [← torn_k o f k (by omega) ho]
    have k2 : k ≤ 128 := by omega
    have k3 : (k : Int) ≤ 128 := by omega
    clear hr1 hr2
    go_enter Try.func21, Try.ntmps21
    go_wp2_with fail
    go_quiet (fail)
    go_wp2_with fail
    go_ret
    exact ⟨rfl, below_drewN' (Below.refl _ _) _⟩
end Go.Proofs.Ytigiaiddnbpcmaa
