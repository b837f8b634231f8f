/-
  The contract of DiskPlays in the frame's form: it returns true; what was there stays as it was; nothing is asked.
-/
import Derived.Test.YtanpaappecakoaaDiskAct
import Derived.Test.YtanpaappecakoaaDiskXn
import Derived.Test.YtanpaappecakoaaDiskXy
set_option linter.unusedVariables false
namespace Go.Proofs.Ytanpaappecakoaa
open Go.RowKit DiskP
namespace Contract
theorem diskPlays (a0 : Int) (a1 : Option Addr) (len1 cap1 : Nat) (W : World) (w0 : (Lit.int .i64 a0).wf = true) (w1 : IsAct W a1 len1 cap1) :
    Calls Try.prog 3 #[.int .i64 a0, .slice a1 len1 cap1] W fun e w' => e = .returned (.bool true) ∧ Below W.heap.size W w' := by
  obtain ⟨f, hA⟩ := w1
  by_cases h : 2 ≤ a0 ∧ a0 ≤ 512
  · by_cases h2 : 20 < a0
    · exact plays_few a0 a1 len1 cap1 f W ⟨h2, h.2⟩
    · obtain ⟨n, rfl⟩ : ∃ n : Nat, a0 = (n : Int) := ⟨a0.toNat, by omega⟩
      exact plays_yes n a1 len1 cap1 f W hA (by omega) (by omega)
  · exact plays_none a0 a1 len1 cap1 f W hA h
end Contract
end Go.Proofs.Ytanpaappecakoaa
