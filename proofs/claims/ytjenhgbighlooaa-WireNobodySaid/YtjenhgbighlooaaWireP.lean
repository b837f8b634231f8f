/-
  The contracts of WireWrites and WireNobody in the frame's form: each returns true; what was there stays as it was; nothing is asked.
-/
import Derived.Test.YtjenhgbighlooaaWireL
import Derived.Test.YtjenhgbighlooaaWireO
set_option linter.unusedVariables false
namespace Go.Proofs.Ytjenhgbighlooaa
open Go.RowKit WireP

namespace Contract
theorem wireWrites (a0 : Option Addr) (len0 cap0 : Nat) (z0 : List Int) (a1 : Bool) (a2 : ByteArray) (W : World) (w0 : IsRow .i64 W a0 len0 cap0 z0) (w2 : a2.size ≤ maxLen) :
    Calls Try.prog 3 #[.slice a0 len0 cap0, .bool a1, .string a2] W fun e w' => e = .returned (.bool true) ∧ Below W.heap.size W w' := by
  unfold maxLen at w2
  have hk := w0.at
  by_cases h : len0 ≤ 20
  · by_cases h2 : a2.size ≤ 300
    · exact wireWrites_walk a0 len0 cap0 _ a1 a2 W hk.1 h h2
    · exact wireWrites_long a0 len0 cap0 a1 a2 W (.inr ⟨h, by omega⟩) hk.2 (by omega)
  · exact wireWrites_long a0 len0 cap0 a1 a2 W (.inl (by omega)) hk.2 (by omega)
theorem wireNobody (a0 a1 : Int) (W : World) (_w0 : (Lit.int .i64 a0).wf = true) (_w1 : (Lit.int .i64 a1).wf = true) :
    Calls Try.prog 6 #[.int .i64 a0, .int .i64 a1] W fun e w' => e = .returned (.bool true) ∧ Below W.heap.size W w' := wireNobody_walk a0 a1 W
end Contract
end Go.Proofs.Ytjenhgbighlooaa
