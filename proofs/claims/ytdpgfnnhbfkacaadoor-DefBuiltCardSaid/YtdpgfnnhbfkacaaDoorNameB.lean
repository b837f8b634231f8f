/-
  The contracts of the document's more and One: any text, a place in it or ahead of its end; the world is as it was.
-/
import Derived.Test.YtdpgfnnhbfkacaaDoorNameOne
import Derived.Test.YtdpgfnnhbfkacaaDoorNameA
set_option linter.unusedVariables false
set_option maxRecDepth 4000
namespace Go.Proofs.YtdpgfnnhbfkacaaDoor.Name
open Go.RowKit NameP

theorem at_getD (s : ByteArray) (k : Nat) (h : k < s.size) : s.data.toList.getD k 0 = s[k] := by
  have h2 : k < s.data.toList.length := by rw [Array.length_toList]; exact h
  rw [List.getD_eq_getElem?_getD, List.getElem?_eq_getElem h2]; rfl
theorem len_list (s : ByteArray) : s.data.toList.length = s.size := Array.length_toList
theorem ret_one {b x y z p q a c : Int} (h : oneQ b x y z = (p, q)) (k : oneQ b x y z = (a, c)) : Ending.returned (.tuple #[.int .i64 a, .int .i64 c]) = .returned (.tuple #[.int .i64 p, .int .i64 q]) := by
  rw [h] at k
  simp only [Prod.mk.injEq] at k
  rw [k.1, k.2]
end Go.Proofs.YtdpgfnnhbfkacaaDoor.Name
