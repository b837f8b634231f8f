/-
  The contracts of name.Rune, name.lower and of the document's Rune, more, octets: any numbers; the world is as it was, or has a block more.
-/
import Derived.Test.YtpaemofjeadhcaaGreatDoorNameTest
import Derived.Test.YtpaemofjeadhcaaGreatDoorChecked
import Derived.WalkKit
import Derived.WalkLawsBesides
import Derived.WalkSpells
import Derived.BigQuiet
import Derived.Deep.QuietTactic
set_option linter.unusedVariables false
set_option maxRecDepth 4000
namespace Go.Proofs.YtpaemofjeadhcaaGreatDoor.Name
open Go.RowKit NameP

theorem rune_any (c : Int) (w : World) : Calls Tryz.prog 60 #[.int .i32 c] w fun e w' => e = .returned (.bool (nr c)) ∧ w = w' := by
  by_cases hc : c = 45
  · subst hc
    rw [show nr 45 = true from rfl]
    go_enter Tryz.func60, Tryz.ntmps60
    go_wp2
    go_ret
    exact ⟨rfl, rfl⟩
  have h45 : (c == 45) = false := beq_eq_false_iff_ne.2 hc
  by_cases hd : c = 247
  · subst hd
    rw [show nr 247 = false from rfl]
    go_enter Tryz.func60, Tryz.ntmps60
    go_wp2
    go_ret
    exact ⟨rfl, rfl⟩
  have h247 : (c != 247) = true := bne_iff_ne.2 hd
  have h247b : (c == 247) = false := beq_eq_false_iff_ne.2 hd
  rcases nr_cases c with ⟨e, h0, h1⟩ | ⟨e, h0, h1⟩ | ⟨_, h0⟩ | ⟨e, h0, h1⟩ | ⟨e, h0, h1⟩ | ⟨e, h0⟩ | ⟨e, h0, h1⟩ | ⟨e, h0, h1⟩ | ⟨e, h0, h1⟩ | ⟨_, h0⟩ | ⟨e, h0⟩
  case inr.inr.inl => exact absurd h0 hc
  case inr.inr.inr.inr.inr.inr.inr.inr.inr.inl => exact absurd h0 hd
  all_goals
    rw [e]; clear e hc hd
    go_enter Tryz.func60, Tryz.ntmps60
    go_wp2
    go_ret
    exact ⟨rfl, rfl⟩
theorem ret_bool {a b : Bool} (h : a = b) : Ending.returned (.bool a) = .returned (.bool b) := by rw [h]
theorem rrune_any (c : Int) (w : World) : Calls Tryz.prog 62 #[.int .i64 c] w fun e w' => e = .returned (.bool (nr c)) ∧ w = w' := by
  by_cases hc : c = 45
  · subst hc
    rw [show nr 45 = true from rfl]
    go_enter Tryz.func62, Tryz.ntmps62
    go_wp2
    go_ret
    exact ⟨rfl, rfl⟩
  have h45 : (c == 45) = false := beq_eq_false_iff_ne.2 hc
  by_cases hd : c = 247
  · subst hd
    rw [show nr 247 = false from rfl]
    go_enter Tryz.func62, Tryz.ntmps62
    go_wp2
    go_ret
    exact ⟨rfl, rfl⟩
  have h247 : (c != 247) = true := bne_iff_ne.2 hd
  have h247b : (c == 247) = false := beq_eq_false_iff_ne.2 hd
  rcases nr_cases c with ⟨e, h0, h1⟩ | ⟨e, h0, h1⟩ | ⟨_, h0⟩ | ⟨e, h0, h1⟩ | ⟨e, h0, h1⟩ | ⟨e, h0⟩ | ⟨e, h0, h1⟩ | ⟨e, h0, h1⟩ | ⟨e, h0, h1⟩ | ⟨_, h0⟩ | ⟨e, h0⟩
  case inr.inr.inl => exact absurd h0 hc
  case inr.inr.inr.inr.inr.inr.inr.inr.inr.inl => exact absurd h0 hd
  all_goals
    rw [e]; clear e hc hd
    go_enter Tryz.func62, Tryz.ntmps62
    go_wp2
    go_ret
    refine ⟨ret_bool ?_, rfl⟩
    first | rfl | (simp; omega)
theorem lower_any (c : Nat) (w : World) (hc : c ≤ 1114111) : Calls Tryz.prog 93 #[.int .i32 c] w fun e w' => e = .returned (.int .i32 (low c)) ∧ w = w' := by
  by_cases hd : c = 215
  · subst hd
    rw [show low 215 = 215 from rfl]
    go_enter Tryz.func93, Tryz.ntmps93
    go_wp2
    go_ret
    exact ⟨rfl, rfl⟩
  have h0 : (0 : Int) ≤ c := by omega
  have h1 : (c : Int) ≤ 1114111 := by omega
  have h215 : ((c : Int) != 215) = true := bne_iff_ne.2 (by omega)
  have h215b : ((c : Int) == 215) = false := beq_eq_false_iff_ne.2 (by omega)
  have hl : (low c : Int) = c + 32 ∧ (((65 : Int) ≤ c ∧ (c : Int) ≤ 90) ∨ ((192 : Int) ≤ c ∧ (c : Int) ≤ 222)) ∨ (low c : Int) = c ∧ ((c : Int) < 65 ∨ ((91 : Int) ≤ c ∧ (c : Int) ≤ 191) ∨ (222 : Int) < c) := by
    rcases low_cases c with ⟨e, _⟩ | ⟨e, _⟩ | ⟨e, _⟩ | ⟨e, _⟩ | ⟨e, _⟩ | ⟨e, _⟩ | ⟨e, _⟩ <;> omega
  clear hc hd
  rcases hl with ⟨e, h2 | h2⟩ | ⟨e, h2 | h2 | h2⟩
  · obtain ⟨h2, h3⟩ := h2
    rw [e]; clear e
    generalize (c : Int) = n at *
    go_enter Tryz.func93, Tryz.ntmps93
    go_wp2
    go_ret
    exact ⟨rfl, rfl⟩
  · obtain ⟨h2, h3⟩ := h2
    rw [e]; clear e
    generalize (c : Int) = n at *
    go_enter Tryz.func93, Tryz.ntmps93
    go_wp2
    go_ret
    exact ⟨rfl, rfl⟩
  all_goals
    rw [e]; clear e
    generalize (c : Int) = n at *
    go_enter Tryz.func93, Tryz.ntmps93
    go_wp2
    go_ret
    exact ⟨rfl, rfl⟩
end Go.Proofs.YtpaemofjeadhcaaGreatDoor.Name
