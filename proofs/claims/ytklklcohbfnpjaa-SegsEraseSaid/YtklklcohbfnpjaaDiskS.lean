/-
  The contracts of the document's Few, Same and SameWaits: any acts; two slices told of the same.
-/
import Derived.Test.YtklklcohbfnpjaaDiskR
set_option linter.unusedVariables false
set_option maxRecDepth 4000
namespace Go.Proofs.Ytklklcohbfnpjaa
open Go.RowKit DiskP

theorem same_yes (a c : Option Addr) (len ca cc : Nat) (ss : List ByteArray) (w : World) (h1 : StrsAt w a len ss) (h2 : StrsAt w c len ss) :
    Calls Try.prog 28 #[.slice a len ca, .slice c len cc] w fun e w' => e = .returned (.bool true) ∧ Below w.heap.size w w' := by
  have hl : len ≤ 9223372036854775807 := h1.2.1
  by_cases h0 : len = 0
  · subst h0
    clear h1 h2
    go_enter Try.func28, Try.ntmps28
    go_wp2_with fail
    go_loopw [5] (fun i wr => i = .int .i64 0 ∧ Hid (Below w.heap.size w wr)) (fun i _ => 0)
    case atStart => exact ⟨rfl, Below.refl _ w⟩
    case round =>
      obtain ⟨rfl, hB⟩ := hrel
      go_wp2_with fail
      go_ret
      exact ⟨rfl, hB.out⟩
  · obtain ⟨b1, o1, rfl, _, hc1⟩ := h1.2.2.resolve_left h0
    obtain ⟨b2, o2, rfl, _, hc2⟩ := h2.2.2.resolve_left h0
    have HC1 := Lib.hid hc1; have HC2 := Lib.hid hc2
    clear h1 h2 hc1 hc2
    go_enter Try.func28, Try.ntmps28
    go_wp2_with fail
    go_loopw [5] (fun i wr => ∃ j : Nat, j ≤ len ∧ i = .int .i64 (j : Int) ∧ Hid (Below w.heap.size w wr)) (fun i _ => len - (intOf i).toNat)
    case atStart => exact ⟨0, Nat.zero_le _, rfl, Below.refl _ w⟩
    case round =>
      obtain ⟨j, hj, rfl, hB⟩ := hrel
      by_cases hlt : j < len
      · have d1 := (hB.out.cell (World.block_lt_of_cell? w _ (HC1.out j hlt))).trans (HC1.out j hlt)
        have d2 := (hB.out.cell (World.block_lt_of_cell? w _ (HC2.out j hlt))).trans (HC2.out j hlt)
        have HB := Lib.hid hB.out.drew
        clear hB
        generalize ss.getD j ByteArray.empty = s at *
        go_wp2_with fail
        go_region
        all_goals
          go_wp2_with fail
          go_roundw
          case rel => exact ⟨j + 1, by omega, by go_num, HB⟩
          case measure => simp [intOf]; omega
      · obtain rfl : j = len := by omega
        go_wp2_with fail
        go_ret
        exact ⟨rfl, hB.out⟩
end Go.Proofs.Ytklklcohbfnpjaa
