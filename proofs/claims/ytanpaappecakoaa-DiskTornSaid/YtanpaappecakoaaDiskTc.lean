/-
  The contract of DiskTorn in the frame's form: it returns true; what was there stays as it was; nothing is asked.
-/
import Derived.Test.YtanpaappecakoaaDiskTorn
set_option linter.unusedVariables false
namespace Go.Proofs.Ytanpaappecakoaa
open Go.RowKit DiskP
namespace Contract
theorem diskTorn (a0 : Option Addr) (len0 cap0 : Nat) (a1 : Option Addr) (len1 cap1 : Nat) (a2 : Int) (W : World) (w0 : IsAct W a0 len0 cap0) (w1 : IsBools W a1 len1) (w2 : (Lit.int .i64 a2).wf = true) :
    Calls Try.prog 6 #[.slice a0 len0 cap0, .slice a1 len1 cap1, .int .i64 a2] W fun e w' => e = .returned (.bool true) ∧ Below W.heap.size W w' := by
  obtain ⟨f, hA⟩ := w0
  obtain ⟨ks, hk⟩ := w1.at_
  exact diskTorn_walk a0 len0 cap0 f a1 len1 cap1 ks a2 W hA hk w1.lo
end Contract
end Go.Proofs.Ytanpaappecakoaa
