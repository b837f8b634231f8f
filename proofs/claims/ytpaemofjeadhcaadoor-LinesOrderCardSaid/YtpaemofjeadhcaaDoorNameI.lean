/-
  The contracts of both Finds: any texts; the world is as it was, but for how often Go's order was drawn.
-/
import Derived.Test.YtpaemofjeadhcaaDoorNameC
import Derived.Deep.QuietTactic
import Derived.BigQuiet
set_option linter.unusedVariables false
set_option maxRecDepth 4000
namespace Go.Proofs.YtpaemofjeadhcaaDoor.Name
open Go.RowKit NameP

/-- A slice of strings told of its first 'len' cells. -/
def StrsAt (w : World) (a : Option Addr) (len : Nat) (ss : List ByteArray) : Prop :=
  ss.length = len ∧ len ≤ 9223372036854775807 ∧ (len = 0 ∨ ∃ b off, a = some ⟨b, off, none⟩ ∧ b < w.heap.size ∧ ∀ i, i < len → w.cell? ⟨b, off + i, none⟩ = some (.string (ss.getD i ByteArray.empty)))
theorem StrsAt.keep {w w' : World} {a : Option Addr} {len : Nat} {ss : List ByteArray} (h : StrsAt w a len ss) (hb : Below w.heap.size w w') : StrsAt w' a len ss := by
  refine ⟨h.1, h.2.1, ?_⟩
  rcases h.2.2 with h0 | ⟨b, off, rfl, hlt, hc⟩
  · exact .inl h0
  · exact .inr ⟨b, off, rfl, by have := hb.size; omega, fun i hi => (hb.cell (p := ⟨b, off + i, none⟩) hlt).trans (hc i hi)⟩
/-- How many come ahead of the first that is not less, and is that one the text? -/
def findV (s : ByteArray) (k : Nat) : List ByteArray → Nat × Bool
  | [] => (k, false)
  | t :: r => if Op.bytesLess t.toList s.toList then findV s (k + 1) r else (k, t.toList == s.toList)
theorem findV_less {s t : ByteArray} {ss : List ByteArray} {k : Nat} (hk : k < ss.length) (ht : ss.getD k ByteArray.empty = t) (h : Op.bytesLess t.toList s.toList = true) : findV s k (ss.drop k) = findV s (k + 1) (ss.drop (k + 1)) := by
  rw [List.drop_eq_getElem_cons hk, findV]
  have e : ss.getD k ByteArray.empty = ss[k] := by simp [List.getD, hk]
  rw [← e, ht, h, if_pos rfl]
theorem findV_stop {s t : ByteArray} {ss : List ByteArray} {k : Nat} (hk : k < ss.length) (ht : ss.getD k ByteArray.empty = t) (h : Op.bytesLess t.toList s.toList = false) : findV s k (ss.drop k) = (k, t.toList == s.toList) := by
  rw [List.drop_eq_getElem_cons hk, findV]
  have e : ss.getD k ByteArray.empty = ss[k] := by simp [List.getD, hk]
  rw [← e, ht, h]; rfl
theorem findV_end {s : ByteArray} {ss : List ByteArray} {k : Nat} (hk : ¬ k < ss.length) : findV s k (ss.drop k) = (k, false) := by
  rw [List.drop_eq_nil_of_le (by omega)]; rfl
theorem ret_find {n : Nat} {b : Bool} {v : Nat × Bool} (h : v = (n, b)) : Ending.returned (.tuple #[.int .i64 (n : Nat), .bool b]) = .returned (.tuple #[.int .i64 (v.1 : Nat), .bool v.2]) := by subst h; rfl
end Go.Proofs.YtpaemofjeadhcaaDoor.Name
