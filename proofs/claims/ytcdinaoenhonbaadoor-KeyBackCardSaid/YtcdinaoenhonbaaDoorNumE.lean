/-
  The contract of num.Number: any text; what was there stays as it was.
-/
import Derived.Test.YtcdinaoenhonbaaDoorNumD
import Derived.Test.YtcdinaoenhonbaaDoorShelf
set_option maxRecDepth 4000
namespace Go.Proofs.YtcdinaoenhonbaaDoor.Num
open Go.RowKit NumP

theorem trim_size (l : List UInt8) : (Lib.trimPrefix l [45]).length ≤ l.length := by
  unfold Lib.trimPrefix
  split
  · simp
  · exact Nat.le_refl _

theorem value_no (s : ByteArray) (w : World) (ha : allDig s.data.toList = true) (h : valUp 0 s.data.toList = none) :
    Calls Tryd.prog 30 #[.string s] w fun e w' => e = .returned (.tuple #[.int .i64 0, .bool false]) ∧ Below w.heap.size w w' := by
  have := value_any s w ha
  rw [(val_none h).1, (val_none h).2] at this
  exact this
theorem value_yes (s : ByteArray) (m : Int) (w : World) (ha : allDig s.data.toList = true) (h : valUp 0 s.data.toList = some m) :
    Calls Tryd.prog 30 #[.string s] w fun e w' => e = .returned (.tuple #[.int .i64 m, .bool true]) ∧ Below w.heap.size w w' := by
  have := value_any s w ha
  rw [(val_some h).1, (val_some h).2] at this
  exact this
theorem number_core (s z : ByteArray) (neg : Bool) (w : World) (hbig : z.size ≤ 9223372036854775807)
    (hcut : ∀ w : World, Calls Tryd.prog 28 #[.string s, .string ⟨#[45]⟩] w fun e w' => e = .returned (.tuple #[.string z, .bool neg]) ∧ w = w') :
    Calls Tryd.prog 20 #[.string s] w fun e w' => e = .returned (.tuple #[.int .i64 (numQ neg z.data.toList).1, .int .i64 (numQ neg z.data.toList).2]) ∧ Below w.heap.size w w' := by
  have HC := Lib.hid hcut; clear hcut
  cases hp : plainB z.data.toList with
  | false =>
    rw [numQ_no hp]
    go_enter Tryd.func20, Tryd.ntmps20
    go_wp2_with (first | (go_at_call 28; refine (HC.out _).mono ?_; rintro e w' ⟨rfl, rfl⟩) | (go_at_call 29; refine (plain_any _ _ hbig).mono ?_; rintro e w' ⟨rfl, hb⟩))
    go_ret2
    exact ⟨rfl, hb⟩
  | true =>
    have ha := Lib.hid (plainB_dig hp)
    by_cases hz : neg = true ∧ z.data.toList = [48]
    · obtain ⟨rfl, hz⟩ := hz
      rw [numQ_zero hz]
      have hz2 : (z.toList == [48]) = true := by rw [ByteArray.toList_eq, hz]; rfl
      clear hz
      go_enter Tryd.func20, Tryd.ntmps20
      go_wp2_with (first | (go_at_call 28; refine (HC.out _).mono ?_; rintro e w' ⟨rfl, rfl⟩) | (go_at_call 29; refine (plain_any _ _ hbig).mono ?_; rintro e w' ⟨rfl, hb⟩))
      go_ret2
      exact ⟨rfl, hb⟩
    · have hk : neg = false ∨ z.data.toList ≠ [48] := by
        cases neg
        · exact .inl rfl
        · exact .inr fun e => hz ⟨rfl, e⟩
      have hz2 : neg = true → (z.toList == [48]) = false := fun e => by
        rw [ByteArray.toList_eq, beq_eq_false_iff_ne]
        exact fun e2 => hz ⟨e, e2⟩
      clear hz
      cases hval : valUp 0 z.data.toList with
      | none =>
        rw [numQ_far hp hk hval]
        have hv := Lib.hid hval; clear hval hk
        cases neg
        · clear hz2
          go_enter Tryd.func20, Tryd.ntmps20
          go_wp2_with (first | (go_at_call 28; refine (HC.out _).mono ?_; rintro e w' ⟨rfl, rfl⟩) | (go_at_call 29; refine (plain_any _ _ hbig).mono ?_; rintro e w' ⟨rfl, hb⟩) | (go_at_call 30; refine (value_no _ _ ha.out hv.out).mono ?_; rintro e w' ⟨rfl, hb2⟩))
          go_ret2
          exact ⟨rfl, hb.trans (hb2.mono hb.size)⟩
        · have hz3 := hz2 rfl
          clear hz2
          go_enter Tryd.func20, Tryd.ntmps20
          go_wp2_with (first | (go_at_call 28; refine (HC.out _).mono ?_; rintro e w' ⟨rfl, rfl⟩) | (go_at_call 29; refine (plain_any _ _ hbig).mono ?_; rintro e w' ⟨rfl, hb⟩) | (go_at_call 30; refine (value_no _ _ ha.out hv.out).mono ?_; rintro e w' ⟨rfl, hb2⟩))
          go_ret2
          exact ⟨rfl, hb.trans (hb2.mono hb.size)⟩
      | some n =>
        rw [numQ_yes hp hk hval]
        have hr := valUp_range (by omega) (by omega) ha.out hval
        have hr0 := hr.1; have hr1 := hr.2
        have hv := Lib.hid hval; clear hval hk hr
        cases neg
        · clear hz2
          go_enter Tryd.func20, Tryd.ntmps20
          go_wp2_with (first | (go_at_call 28; refine (HC.out _).mono ?_; rintro e w' ⟨rfl, rfl⟩) | (go_at_call 29; refine (plain_any _ _ hbig).mono ?_; rintro e w' ⟨rfl, hb⟩) | (go_at_call 30; refine (value_yes _ _ _ ha.out hv.out).mono ?_; rintro e w' ⟨rfl, hb2⟩))
          go_ret2
          exact ⟨rfl, hb.trans (hb2.mono hb.size)⟩
        · have hz3 := hz2 rfl
          clear hz2
          go_enter Tryd.func20, Tryd.ntmps20
          go_wp2_with (first | (go_at_call 28; refine (HC.out _).mono ?_; rintro e w' ⟨rfl, rfl⟩) | (go_at_call 29; refine (plain_any _ _ hbig).mono ?_; rintro e w' ⟨rfl, hb⟩) | (go_at_call 30; refine (value_yes _ _ _ ha.out hv.out).mono ?_; rintro e w' ⟨rfl, hb2⟩))
          go_ret2
          exact ⟨rfl, hb.trans (hb2.mono hb.size)⟩
theorem number_any (s : ByteArray) (w : World) (hbig : s.size ≤ 9223372036854775807) :
    Calls Tryd.prog 20 #[.string s] w fun e w' => e = .returned (.tuple #[.int .i64 (numP s.data.toList).1, .int .i64 (numP s.data.toList).2]) ∧ Below w.heap.size w w' := by
  have h := number_core s ⟨(Lib.trimPrefix s.data.toList [45]).toArray⟩ (Lib.hasPrefix s.data.toList [45]) w
    (by
      have h1 := trim_size s.data.toList
      have h2 : s.data.toList.length = s.size := Array.length_toList
      have h3 : (⟨(Lib.trimPrefix s.data.toList [45]).toArray⟩ : ByteArray).size = (Lib.trimPrefix s.data.toList [45]).length := List.size_toArray
      rw [h3]
      omega)
    (fun w => (Tryd.strings_CutPrefix s ⟨#[45]⟩ w).mono fun e w' h => ⟨h.1, h.2.symm⟩)
  exact h
end Go.Proofs.YtcdinaoenhonbaaDoor.Num
