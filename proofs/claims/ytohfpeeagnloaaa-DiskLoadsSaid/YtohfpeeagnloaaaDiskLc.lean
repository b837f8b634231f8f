/-
  The contract of DiskLoads in the frame's form: it returns true; what was there stays as it was; nothing is asked.
-/
import Derived.Test.YtohfpeeagnloaaaDiskW
import Derived.Test.YtohfpeeagnloaaaRows
import Derived.OpenShut
set_option linter.unusedVariables false
namespace Go.Proofs.Ytohfpeeagnloaaa
open Go.RowKit DiskP

/-- What the walk is told of a slice of strings that came in: it is nil, or it leads to its cells. -/
def IsStrs (w : World) (a : Option Addr) (len cap : Nat) (zs : List ByteArray) : Prop :=
  (a = none ∧ len = 0 ∧ cap = 0 ∧ zs = []) ∨
  ∃ x, a = some x ∧ len ≤ cap ∧ cap ≤ maxLen ∧ zs.length = cap ∧ (∀ i, i < zs.length → w.cell? (x.add i) = some (.string (zs.getD i ByteArray.empty))) ∧ ∀ s ∈ zs, s.size ≤ maxLen
theorem IsStrs.at {w : World} {a : Option Addr} {len cap : Nat} {zs : List ByteArray} (h : IsStrs w a len cap zs) : StrsAt w a len (zs.take len) ∧ ∀ t ∈ zs.take len, t.size ≤ 9223372036854775807 := by
  rcases h with ⟨rfl, rfl, _, rfl⟩ | ⟨x, rfl, hl, hm, hz, hc, hs⟩
  · exact ⟨⟨rfl, by omega, .inl rfl⟩, by simp⟩
  · unfold maxLen at hm hs
    refine ⟨⟨by rw [List.length_take]; omega, by omega, ?_⟩, fun t ht => by have := hs t (List.mem_of_mem_take ht); omega⟩
    by_cases h0 : len = 0
    · exact .inl h0
    · right
      obtain ⟨b, off, spot⟩ := x
      have h00 := hc 0 (by omega)
      have hspot : spot = none := by simpa [Addr.add] using World.cell?_spot h00
      subst hspot
      have hlt := World.block_lt_of_cell? w _ h00
      rw [Go.WideShapes.add_plain] at hlt
      exact ⟨b, off, rfl, hlt, fun i hi => by have := hc i (by omega); rw [Go.WideShapes.add_plain] at this; rw [this]; simp [List.getD, hi]⟩
namespace Contract
theorem diskLoads (a0 : Option Addr) (len0 cap0 : Nat) (z0 : List ByteArray) (a1 : Int) (W : World) (w0 : IsStrs W a0 len0 cap0 z0) (w1 : (Lit.int .i64 a1).wf = true) :
    Calls Try.prog 4 #[.slice a0 len0 cap0, .int .i64 a1] W fun e w' => e = .returned (.bool true) ∧ Below W.heap.size W w' := by
  have hk := w0.at
  by_cases h : len0 ≤ 20
  · exact diskLoads_walk a0 len0 cap0 _ a1 W hk.1 hk.2 h
  · exact diskLoads_long a0 len0 cap0 a1 W (by omega) hk.1.2.1
end Contract
end Go.Proofs.Ytohfpeeagnloaaa
