/-
  What the frame tells of a slice of integers that came in, in the walks' form.
-/
import Derived.Test.YtjenhgbighlooaaWireE
import Derived.Test.YtjenhgbighlooaaRows
import Derived.OpenShut
set_option linter.unusedVariables false
namespace Go.Proofs.Ytjenhgbighlooaa
open Go.RowKit WireP

/-- What the walk is told of a slice of integers that came in: it is nil, or it leads to its cells. -/
def IsRow (k : IntKind) (w : World) (a : Option Addr) (len cap : Nat) (zs : List Int) : Prop :=
  (a = none ∧ len = 0 ∧ cap = 0 ∧ zs = []) ∨
  ∃ x, a = some x ∧ len ≤ cap ∧ cap ≤ maxLen ∧ zs.length = cap ∧ (∀ i, i < zs.length → w.cell? (x.add i) = some (.int k (zs.getD i 0))) ∧ ∀ n ∈ zs, (Lit.int k n).wf = true
theorem IsRow.at {w : World} {a : Option Addr} {len cap : Nat} {zs : List Int} (h : IsRow .i64 w a len cap zs) : IntsAt w a len (zs.take len) ∧ len ≤ 9223372036854775807 := by
  rcases h with ⟨rfl, rfl, _, rfl⟩ | ⟨x, rfl, hl, hm, hz, hc, hw⟩
  · exact ⟨⟨rfl, by simp, .inl rfl⟩, by omega⟩
  · unfold maxLen at hm
    refine ⟨⟨by rw [List.length_take]; omega, fun n hn => bounds_i64 (hw n (List.mem_of_mem_take hn)), ?_⟩, by omega⟩
    by_cases h0 : len = 0
    · exact .inl h0
    · right
      obtain ⟨b, off, rfl, hcell⟩ := ints_at hc (by omega)
      have h00 := hcell 0 (by omega)
      have hlt := World.block_lt_of_cell? w _ h00
      exact ⟨b, off, rfl, hlt, fun i hi => by rw [hcell i (by omega)]; simp [List.getD, hi]⟩

end Go.Proofs.Ytjenhgbighlooaa
