/-
  The contracts of name.Rune, name.lower and of the document's Rune, more, octets: any numbers; the world is as it was, or has a block more.
-/
import Derived.Test.YtdpgfnnhbfkacaaGreatDoorPtNamePlain
import Derived.Test.YtdpgfnnhbfkacaaGreatDoorChecked
import Derived.WalkKit
import Derived.WalkLawsBesides
import Derived.WalkSpells
import Derived.BigQuiet
import Derived.Deep.QuietTactic
set_option linter.unusedVariables false
set_option maxRecDepth 4000
namespace Go.Proofs.YtdpgfnnhbfkacaaGreatDoor.Name
open Go.RowKit NameP
theorem rune_any (c : Int) (w : World) : Calls Tryz.prog 81 #[.int .i32 c] w fun e w' => e = .returned (.bool (nr c)) ∧ w = w' := by
  by_cases hc : c = 45
  · subst hc
    rw [show nr 45 = true from rfl]
    go_enter Tryz.func81, Tryz.ntmps81
    go_wp2
    go_ret
    exact ⟨rfl, rfl⟩
  have h45 : (c == 45) = false := beq_eq_false_iff_ne.2 hc
  by_cases hd : c = 247
  · subst hd
    rw [show nr 247 = false from rfl]
    go_enter Tryz.func81, Tryz.ntmps81
    go_wp2
    go_ret
    exact ⟨rfl, rfl⟩
  have h247 : (c != 247) = true := bne_iff_ne.2 hd
  have h247b : (c == 247) = false := beq_eq_false_iff_ne.2 hd
  rcases nr_cases c with ⟨e, h0, h1⟩ | ⟨e, h0, h1⟩ | ⟨_, h0⟩ | ⟨e, h0, h1⟩ | ⟨e, h0, h1⟩ | ⟨e, h0⟩ | ⟨e, h0, h1⟩ | ⟨e, h0, h1⟩ | ⟨e, h0, h1⟩ | ⟨_, h0⟩ | ⟨e, h0⟩
  case inr.inr.inl => exact absurd h0 hc
  case inr.inr.inr.inr.inr.inr.inr.inr.inr.inl => exact absurd h0 hd
  all_goals
    rw [e]; clear e hc hd
    go_enter Tryz.func81, Tryz.ntmps81
    go_wp2
    go_ret
    exact ⟨rfl, rfl⟩
theorem ret_bool {a b : Bool} (h : a = b) : Ending.returned (.bool a) = .returned (.bool b) := by rw [h]
theorem rrune_any (c : Int) (w : World) : Calls Tryz.prog 86 #[.int .i64 c] w fun e w' => e = .returned (.bool (nr c)) ∧ w = w' := by
  by_cases hc : c = 45
  · subst hc
    rw [show nr 45 = true from rfl]
    go_enter Tryz.func86, Tryz.ntmps86
    go_wp2
    go_ret
    exact ⟨rfl, rfl⟩
  have h45 : (c == 45) = false := beq_eq_false_iff_ne.2 hc
  by_cases hd : c = 247
  · subst hd
    rw [show nr 247 = false from rfl]
    go_enter Tryz.func86, Tryz.ntmps86
    go_wp2
    go_ret
    exact ⟨rfl, rfl⟩
  have h247 : (c != 247) = true := bne_iff_ne.2 hd
  have h247b : (c == 247) = false := beq_eq_false_iff_ne.2 hd
  rcases nr_cases c with ⟨e, h0, h1⟩ | ⟨e, h0, h1⟩ | ⟨_, h0⟩ | ⟨e, h0, h1⟩ | ⟨e, h0, h1⟩ | ⟨e, h0⟩ | ⟨e, h0, h1⟩ | ⟨e, h0, h1⟩ | ⟨e, h0, h1⟩ | ⟨_, h0⟩ | ⟨e, h0⟩
  case inr.inr.inl => exact absurd h0 hc
  case inr.inr.inr.inr.inr.inr.inr.inr.inr.inl => exact absurd h0 hd
  all_goals
    rw [e]; clear e hc hd
    go_enter Tryz.func86, Tryz.ntmps86
    go_wp2
    go_ret
    refine ⟨ret_bool ?_, rfl⟩
    first | rfl | (simp; omega)
end Go.Proofs.YtdpgfnnhbfkacaaGreatDoor.Name

/-
  The contracts of the document's more and One: any text, a place in it or ahead of its end; the world is as it was.
-/
set_option linter.unusedVariables false
set_option maxRecDepth 4000
namespace Go.Proofs.YtdpgfnnhbfkacaaGreatDoor.Name
open Go.RowKit NameP
theorem at_getD (s : ByteArray) (k : Nat) (h : k < s.size) : s.data.toList.getD k 0 = s[k] := by
  have h2 : k < s.data.toList.length := by rw [Array.length_toList]; exact h
  rw [List.getD_eq_getElem?_getD, List.getElem?_eq_getElem h2]; rfl
theorem len_list (s : ByteArray) : s.data.toList.length = s.size := Array.length_toList
theorem more_at (s : ByteArray) (i v : Int) (w : World) (h0 : 0 ≤ i) (h1 : i ≤ 4611686018427387904) (hs : s.size ≤ 4611686018427387904) (hv : moreV s.data.toList i.toNat = v) :
    Calls Tryz.prog 127 #[.string s, .int .i64 i] w fun e w' => e = .returned (.int .i64 v) ∧ w = w' := by
  obtain ⟨k, rfl⟩ : ∃ k : Nat, i = k := ⟨i.toNat, by omega⟩
  subst hv
  rw [Int.toNat_natCast]
  by_cases hk : k < s.size
  · obtain ⟨c, hc⟩ : ∃ c : Nat, s[k].toNat = c := ⟨_, rfl⟩
    have hb := s[k].toNat_lt
    by_cases h2 : c < 128
    · rw [moreV_no (by rw [len_list]; exact hk) (by rw [at_getD s k hk, hc]; exact .inl h2)]
      have hb2 : decide (s[k].toNat < 128) = true := by rw [hc]; simp [h2]
      have hb3 : s[k].toNat < 128 := by omega
      clear hc h2
      go_enter Tryz.func127, Tryz.ntmps127
      go_wp2
      go_ret
      exact ⟨rfl, rfl⟩
    · by_cases h3 : 191 < c
      · rw [moreV_no (by rw [len_list]; exact hk) (by rw [at_getD s k hk, hc]; exact .inr h3)]
        have hb3 : 191 < s[k].toNat := by omega
        clear hc h2 h3
        go_enter Tryz.func127, Tryz.ntmps127
        go_wp2
        go_ret
        exact ⟨rfl, rfl⟩
      · rw [moreV_yes (by rw [len_list]; exact hk) (by rw [at_getD s k hk, hc]; omega) (by rw [at_getD s k hk, hc]; omega), at_getD s k hk]
        have hb3 : 128 ≤ s[k].toNat := by omega
        have hb4 : s[k].toNat ≤ 191 := by omega
        clear hc h2 h3
        go_enter Tryz.func127, Tryz.ntmps127
        go_wp2
        go_ret
        exact ⟨rfl, rfl⟩
  · rw [moreV_out (by rw [len_list]; exact hk)]
    go_enter Tryz.func127, Tryz.ntmps127
    go_wp2
    go_ret
    exact ⟨rfl, rfl⟩

theorem ret_one {b x y z p q a c : Int} (h : oneQ b x y z = (p, q)) (k : oneQ b x y z = (a, c)) : Ending.returned (.tuple #[.int .i64 a, .int .i64 c]) = .returned (.tuple #[.int .i64 p, .int .i64 q]) := by
  rw [h] at k
  simp only [Prod.mk.injEq] at k
  rw [k.1, k.2]
theorem rone_is (s : ByteArray) (k : Nat) (b x y z p q : Int) (w : World) (hk : k < s.size) (hs : s.size ≤ 4611686018427387000)
    (hb : ((s[k].toNat : Nat) : Int) = b) (hx : moreV s.data.toList (k + 1) = x) (hy : moreV s.data.toList (k + 2) = y) (hz : moreV s.data.toList (k + 3) = z) (hq : oneQ b x y z = (p, q)) :
    Calls Tryz.prog 114 #[.string s, .int .i64 k] w fun e w' => e = .returned (.tuple #[.int .i64 p, .int .i64 q]) ∧ w = w' := by
  have b0 : 0 ≤ b := by omega
  have b1 : b ≤ 255 := by have := s[k].toNat_lt; omega
  have rx := moreV_range s.data.toList (k + 1)
  have ry := moreV_range s.data.toList (k + 2)
  have rz := moreV_range s.data.toList (k + 3)
  rw [hx] at rx; rw [hy] at ry; rw [hz] at rz
  obtain ⟨x0, x1⟩ := rx; obtain ⟨y0, y1⟩ := ry; obtain ⟨z0, z1⟩ := rz
  have HB := Lib.hid hb
  have hbx : (s[k].toNat : Int) = b := hb
  clear hb
  have HX : Hid (moreV s.data.toList ((k : Int) + 1).toNat = x) := by rw [show ((k : Int) + 1).toNat = k + 1 from by omega]; exact hx
  have HY : Hid (moreV s.data.toList ((k : Int) + 2).toNat = y) := by rw [show ((k : Int) + 2).toNat = k + 2 from by omega]; exact hy
  have HZ : Hid (moreV s.data.toList ((k : Int) + 3).toNat = z) := by rw [show ((k : Int) + 3).toNat = k + 3 from by omega]; exact hz
  clear hx hy hz
  have HQ := Lib.hid hq; clear hq
  go_enter Tryz.func114, Tryz.ntmps114
  go_wp2_with fail
  refine (more_at s _ x _ (by omega) (by omega) (by omega) HX.out).mono ?_
  rintro e w' ⟨rfl, rfl⟩
  go_wp2_with fail
  refine (more_at s _ y _ (by omega) (by omega) (by omega) HY.out).mono ?_
  rintro e w' ⟨rfl, rfl⟩
  go_wp2_with fail
  refine (more_at s _ z _ (by omega) (by omega) (by omega) HZ.out).mono ?_
  rintro e w' ⟨rfl, rfl⟩
  clear HX HY HZ
  go_wp2_with fail
  all_goals go_ret2
  all_goals first
    | exact ⟨ret_one HQ.out (oneQ_1 (by omega)), rfl⟩
    | exact ⟨ret_one HQ.out (oneQ_4 (by omega) (by omega) (by omega)), rfl⟩
    | exact ⟨ret_one HQ.out (oneQ_6 (by omega) (by omega) (by omega) (by omega) rfl (by omega)), rfl⟩
    | exact ⟨ret_one HQ.out (oneQ_9 (by omega) (by omega) (by omega) (by omega) (by omega) rfl (by omega)), rfl⟩
    | exact ⟨ret_one HQ.out (oneQ_2 (by omega) (by omega)), rfl⟩
    | exact ⟨ret_one HQ.out (oneQ_3 (by omega) (by omega)), rfl⟩
    | exact ⟨ret_one HQ.out (oneQ_5 (by omega) (by omega)), rfl⟩
    | exact ⟨ret_one HQ.out (oneQ_8 (by omega) (by omega)), rfl⟩
    | exact ⟨ret_one HQ.out (oneQ_11 (by omega)), rfl⟩
    | exact ⟨ret_one HQ.out (oneQ_7 (by omega) (by omega) (by omega) (by omega) rfl (by omega)), rfl⟩
    | exact ⟨ret_one HQ.out (oneQ_10 (by omega) (by omega) (by omega) (by omega) (by omega) rfl (by omega)), rfl⟩
theorem rone_any (s : ByteArray) (k : Nat) (w : World) (hk : k < s.size) (hs : s.size ≤ 4611686018427387000) :
    Calls Tryz.prog 114 #[.string s, .int .i64 k] w fun e w' => e = .returned (.tuple #[.int .i64 ((oneV (s.data.toList.drop k)).1 : Nat), .int .i64 ((oneV (s.data.toList.drop k)).2 : Nat)]) ∧ w = w' := by
  have hne : s.data.toList.drop k ≠ [] := by
    intro e
    have := congrArg List.length e
    rw [List.length_drop, len_list] at this
    simp at this
    omega
  have h := oneQ_oneV _ hne
  rw [Lib.getD_dropU, Nat.add_zero, at_getD s k hk, moreV_drop, moreV_drop, moreV_drop] at h
  exact rone_is s k _ _ _ _ _ _ w hk hs rfl rfl rfl rfl h
end Go.Proofs.YtdpgfnnhbfkacaaGreatDoor.Name
