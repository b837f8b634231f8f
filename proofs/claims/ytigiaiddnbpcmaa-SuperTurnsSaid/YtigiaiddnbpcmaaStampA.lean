/-
  The contracts of both Fits, number, told: any stamp, any octets.
-/
import Derived.Test.YtigiaiddnbpcmaaCrcB
import Derived.Test.YtigiaiddnbpcmaaStampPlain
set_option linter.unusedVariables false
set_option maxRecDepth 4000
namespace Go.Proofs.Ytigiaiddnbpcmaa
open Go.RowKit CrcP StampP

/-- A stamp's values. -/
def stV (n i c : Int) : Value := .agg #[.int .i64 n, .int .i64 i, .int .i64 c]
theorem fit_no {n i c : Int} (h : ¬ fit n i c) : decide (fit n i c) = false := decide_eq_false h
theorem fit_yes {n i c : Int} (h : fit n i c) : decide (fit n i c) = true := decide_eq_true h
theorem fit_any (n i c : Int) (w : World) : Calls Try.prog 42 #[stV n i c] w fun e w' => e = .returned (.bool (decide (fit n i c))) ∧ Below w.heap.size w w' := by
  unfold stV
  by_cases h : fit n i c
  · rw [fit_yes h]
    obtain ⟨h1, h2, h3, h4, h5, h6⟩ := h
    go_enter Try.func42, Try.ntmps42
    go_wp2_with fail
    go_ret
    exact ⟨rfl, (Below.refl _ w).alloc (Nat.le_refl _) _⟩
  · rw [fit_no h]
    unfold fit at h
    by_cases h1 : 1 ≤ n
    · by_cases h2 : n ≤ 1099511627776
      · by_cases h3 : 1 ≤ c
        · by_cases h4 : c ≤ 512
          · by_cases h5 : 0 ≤ i
            · have h6 : ¬ i < c := fun h6 => h ⟨h1, h2, h3, h4, h5, h6⟩
              clear h
              go_enter Try.func42, Try.ntmps42
              go_wp2_with fail
              go_ret
              exact ⟨rfl, (Below.refl _ w).alloc (Nat.le_refl _) _⟩
            · clear h
              go_enter Try.func42, Try.ntmps42
              go_wp2_with fail
              go_ret
              exact ⟨rfl, (Below.refl _ w).alloc (Nat.le_refl _) _⟩
          · clear h
            go_enter Try.func42, Try.ntmps42
            go_wp2_with fail
            go_ret
            exact ⟨rfl, (Below.refl _ w).alloc (Nat.le_refl _) _⟩
        · clear h
          go_enter Try.func42, Try.ntmps42
          go_wp2_with fail
          go_ret
          exact ⟨rfl, (Below.refl _ w).alloc (Nat.le_refl _) _⟩
      · clear h
        go_enter Try.func42, Try.ntmps42
        go_wp2_with fail
        go_ret
        exact ⟨rfl, (Below.refl _ w).alloc (Nat.le_refl _) _⟩
    · clear h
      go_enter Try.func42, Try.ntmps42
      go_wp2_with fail
      go_ret
      exact ⟨rfl, (Below.refl _ w).alloc (Nat.le_refl _) _⟩
theorem rfit_any (n i c : Int) (w : World) : Calls Try.prog 50 #[stV n i c] w fun e w' => e = .returned (.bool (decide (fit n i c))) ∧ Below w.heap.size w w' := by
  unfold stV
  by_cases h : fit n i c
  · rw [fit_yes h]
    obtain ⟨h1, h2, h3, h4, h5, h6⟩ := h
    go_enter Try.func50, Try.ntmps50
    go_wp2_with fail
    go_ret
    exact ⟨rfl, (Below.refl _ w).alloc (Nat.le_refl _) _⟩
  · rw [fit_no h]
    unfold fit at h
    by_cases h1 : 1 ≤ n
    · by_cases h2 : n ≤ 1099511627776
      · by_cases h3 : 1 ≤ c
        · by_cases h4 : c ≤ 512
          · by_cases h5 : 0 ≤ i
            · have h6 : ¬ i < c := fun h6 => h ⟨h1, h2, h3, h4, h5, h6⟩
              clear h
              go_enter Try.func50, Try.ntmps50
              go_wp2_with fail
              go_ret
              exact ⟨rfl, (Below.refl _ w).alloc (Nat.le_refl _) _⟩
            · clear h
              go_enter Try.func50, Try.ntmps50
              go_wp2_with fail
              go_ret
              exact ⟨rfl, (Below.refl _ w).alloc (Nat.le_refl _) _⟩
          · clear h
            go_enter Try.func50, Try.ntmps50
            go_wp2_with fail
            go_ret
            exact ⟨rfl, (Below.refl _ w).alloc (Nat.le_refl _) _⟩
        · clear h
          go_enter Try.func50, Try.ntmps50
          go_wp2_with fail
          go_ret
          exact ⟨rfl, (Below.refl _ w).alloc (Nat.le_refl _) _⟩
      · clear h
        go_enter Try.func50, Try.ntmps50
        go_wp2_with fail
        go_ret
        exact ⟨rfl, (Below.refl _ w).alloc (Nat.le_refl _) _⟩
    · clear h
      go_enter Try.func50, Try.ntmps50
      go_wp2_with fail
      go_ret
      exact ⟨rfl, (Below.refl _ w).alloc (Nat.le_refl _) _⟩
theorem num_step (s : ByteArray) (j : Nat) (h : j < s.size) : num (s.data.toList.take (j + 1)) = num (s.data.toList.take j) * 256 + s[j].toNat := by
  rw [take_step s j h, num_snoc]
theorem num_take_lt (s : ByteArray) (j : Nat) (h : j ≤ 5) : num (s.data.toList.take j) < 1099511627776 := by
  have h1 := num_lt (s.data.toList.take j)
  have h2 : 256 ^ (s.data.toList.take j).length ≤ 256 ^ 5 := Nat.pow_le_pow_right (by decide) (by rw [List.length_take]; omega)
  have h3 : (256 : Nat) ^ 5 = 1099511627776 := by decide
  omega
theorem i64_or_nat (a b : Nat) (ha : a < 9223372036854775808) (hb : b < 9223372036854775808) : bits .or .i64 (a : Int) (b : Int) = ((a ||| b : Nat) : Int) := by
  have hx : a ||| b < 2 ^ 63 := Nat.or_lt_two_pow (by omega) (by omega)
  show IntKind.i64.wrap ((BitVec.ofInt 64 (a : Int) ||| BitVec.ofInt 64 (b : Int)).toNat : Int) = _
  rw [BitVec.toNat_or, ofInt_u64 a (by omega), ofInt_u64 b (by omega)]
  simp only [IntKind.wrap, IntKind.bits, IntKind.signed]
  simp
  omega
theorem i64_or_byte (x c : Nat) (h1 : x < 1099511627776) (h3 : c ≤ 255) : bits .or .i64 ((x : Int) * 256) (c : Int) = ((x * 256 + c : Nat) : Int) := by
  have h := i64_or_nat (x * 256) c (by omega) (by omega)
  rw [Nat.mul_comm x, show (256 : Nat) = 2 ^ 8 from rfl, ← Nat.two_pow_add_eq_or_of_lt (show c < 2 ^ 8 by omega)] at h
  rw [show (x : Int) * 256 = ((2 ^ 8 * x : Nat) : Int) by omega, h]
  congr 1; omega
theorem number_any (s : ByteArray) (w : World) (hs : s.size ≤ 6) : Calls Try.prog 55 #[.string s] w fun e w' => e = .returned (.int .i64 (num s.data.toList : Int)) ∧ w = w' := by
  obtain ⟨r, hr⟩ : ∃ r, num s.data.toList = r := ⟨_, rfl⟩
  rw [hr]
  have HR := Lib.hid hr
  clear hr
  go_enter Try.func55, Try.ntmps55
  go_wp2_with fail
  go_loopw [3, 7] (fun x i wr => ∃ j Y : Nat, j ≤ s.size ∧ x = .int .i64 (Y : Int) ∧ i = .int .i64 (j : Int) ∧ wr = w ∧ Hid (Y = num (s.data.toList.take j))) (fun _ i _ => s.size - (intOf i).toNat)
  case atStart => exact ⟨0, 0, by omega, rfl, rfl, rfl, rfl⟩
  case round =>
    obtain ⟨j, Y, hj, rfl, rfl, rfl, hY⟩ := hrel
    by_cases hlt : j < s.size
    · have hst := num_step s j hlt
      have hY2 : Y < 1099511627776 := by rw [hY.out]; exact num_take_lt s j (by omega)
      have hcl := s[j].toNat_lt
      have hor := i64_or_byte Y s[j].toNat hY2 (by omega)
      have HST := Lib.hid hst; clear hst
      go_wp2_with fail
      go_roundw
      case rel => exact ⟨j + 1, Y * 256 + s[j].toNat, by omega, by go_num, by go_num, by trivial, by show _ = _; rw [HST.out, ← hY.out]⟩
      case measure => simp [intOf]; omega
    · obtain rfl : j = s.size := by omega
      have hYr : Y = r := by rw [hY.out, ← HR.out]; congr 1; exact List.take_of_length_le (by rw [len_list]; omega)
      subst hYr
      clear hY HR
      go_wp2_with fail
      go_ret
      exact ⟨rfl, rfl⟩
theorem told_any (s : ByteArray) (w : World) (hs : s.size ≤ 6) : Calls Try.prog 60 #[.string s] w fun e w' => e = .returned (.int .i64 (num s.data.toList : Int)) ∧ w = w' := by
  obtain ⟨r, hr⟩ : ∃ r, num s.data.toList = r := ⟨_, rfl⟩
  rw [hr]
  have HR := Lib.hid hr
  clear hr
  go_enter Try.func60, Try.ntmps60
  go_wp2_with fail
  go_loopw [3, 4] (fun x i wr => ∃ j Y : Nat, j ≤ s.size ∧ x = .int .i64 (Y : Int) ∧ i = .int .i64 (j : Int) ∧ wr = w ∧ Hid (Y = num (s.data.toList.take j))) (fun _ i _ => s.size - (intOf i).toNat)
  case atStart => exact ⟨0, 0, by omega, rfl, rfl, rfl, rfl⟩
  case round =>
    obtain ⟨j, Y, hj, rfl, rfl, rfl, hY⟩ := hrel
    by_cases hlt : j < s.size
    · have hst := num_step s j hlt
      have hY2 : Y < 1099511627776 := by rw [hY.out]; exact num_take_lt s j (by omega)
      have hcl := s[j].toNat_lt
      have HST := Lib.hid hst; clear hst
      go_wp2_with fail
      go_roundw
      case rel => exact ⟨j + 1, Y * 256 + s[j].toNat, by omega, by go_num, by go_num, by trivial, by show _ = _; rw [HST.out, ← hY.out]⟩
      case measure => simp [intOf]; omega
    · obtain rfl : j = s.size := by omega
      have hYr : Y = r := by rw [hY.out, ← HR.out]; congr 1; exact List.take_of_length_le (by rw [len_list]; omega)
      subst hYr
      clear hY HR
      go_wp2_with fail
      go_ret
      exact ⟨rfl, rfl⟩
end Go.Proofs.Ytigiaiddnbpcmaa
