/-
  The contract of WireBack in the frame's form: it returns true; what was there stays as it was; nothing is asked.
-/
import Derived.Test.YtjenhgbighlooaaWireN
import Derived.Test.YtjenhgbighlooaaWireO
set_option linter.unusedVariables false
namespace Go.Proofs.Ytjenhgbighlooaa
open Go.RowKit WireP

namespace Contract
theorem wireBack (a0 : Option Addr) (len0 cap0 : Nat) (z0 : List Int) (a1 : ByteArray) (a2 : Bool) (a3 : ByteArray) (W : World) (w0 : IsRow .i64 W a0 len0 cap0 z0) (w1 : a1.size ≤ maxLen) (w3 : a3.size ≤ maxLen) :
    Calls Try.prog 5 #[.slice a0 len0 cap0, .string a1, .bool a2, .string a3] W fun e w' => e = .returned (.bool true) ∧ Below W.heap.size W w' := by
  unfold maxLen at w1 w3
  have hk := w0.at
  by_cases h : len0 ≤ 12
  · by_cases h2 : a1.size ≤ 200
    · by_cases h3 : a3.size ≤ 40
      · exact wireBack_walk a0 len0 cap0 _ a1 a2 a3 W hk.1 h h2 h3
      · exact wireBack_long a0 len0 cap0 a1 a2 a3 W (.inr (.inr ⟨h, h2, by omega⟩)) hk.2 (by omega) (by omega)
    · exact wireBack_long a0 len0 cap0 a1 a2 a3 W (.inr (.inl ⟨h, by omega⟩)) hk.2 (by omega) (by omega)
  · exact wireBack_long a0 len0 cap0 a1 a2 a3 W (.inl (by omega)) hk.2 (by omega) (by omega)
end Contract
end Go.Proofs.Ytjenhgbighlooaa
