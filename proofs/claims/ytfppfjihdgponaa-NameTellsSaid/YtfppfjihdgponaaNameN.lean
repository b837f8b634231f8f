/-
  The contracts of the five laws of layer 2 in the frame's form: each returns true; what was there stays as it was; nothing is asked.
-/
import Derived.Test.YtfppfjihdgponaaNameL
import Derived.Test.YtfppfjihdgponaaNameM
import Derived.Test.YtfppfjihdgponaaRows
import Derived.OpenShut
set_option linter.unusedVariables false
namespace Go.Proofs.Ytfppfjihdgponaa
open Go.RowKit NameP

/-- What the walk is told of a slice of strings that came in: it is nil, or it leads to its cells. -/
def IsStrs (w : World) (a : Option Addr) (len cap : Nat) (zs : List ByteArray) : Prop :=
  (a = none ∧ len = 0 ∧ cap = 0 ∧ zs = []) ∨
  ∃ x, a = some x ∧ len ≤ cap ∧ cap ≤ maxLen ∧ zs.length = cap ∧ (∀ i, i < zs.length → w.cell? (x.add i) = some (.string (zs.getD i ByteArray.empty))) ∧ ∀ s ∈ zs, s.size ≤ maxLen
theorem IsStrs.at {w : World} {a : Option Addr} {len cap : Nat} {zs : List ByteArray} (h : IsStrs w a len cap zs) : StrsAt w a len (zs.take len) ∧ ∀ t ∈ zs.take len, t.size ≤ 9223372036854775807 := by
  rcases h with ⟨rfl, rfl, _, rfl⟩ | ⟨x, rfl, hl, hm, hz, hc, hs⟩
  · exact ⟨⟨rfl, by omega, .inl rfl⟩, by simp⟩
  · unfold maxLen at hm hs
    refine ⟨⟨by rw [List.length_take]; omega, by omega, ?_⟩, fun t ht => by have := hs t (List.mem_of_mem_take ht); omega⟩
    by_cases h0 : len = 0
    · exact .inl h0
    · right
      obtain ⟨b, off, spot⟩ := x
      have h00 := hc 0 (by omega)
      have hspot : spot = none := by simpa [Addr.add] using World.cell?_spot h00
      subst hspot
      have hlt := World.block_lt_of_cell? w _ h00
      rw [Go.WideShapes.add_plain] at hlt
      exact ⟨b, off, rfl, hlt, fun i hi => by have := hc i (by omega); rw [Go.WideShapes.add_plain] at this; rw [this]; simp [List.getD, hi]⟩
namespace Contract
theorem nameTells (a0 : Int) (a1 : ByteArray) (W : World) (w0 : (Lit.int .i32 a0).wf = true) (w1 : a1.size ≤ maxLen) :
    Calls Try.prog 3 #[.int .i32 a0, .string a1] W fun e w' => e = .returned (.bool true) ∧ Below W.heap.size W w' := by
  unfold maxLen at w1
  by_cases h : a1.size ≤ 80
  · have hb := bounds_i32 w0
    exact nameTells_walk a0 a1 W h hb.1 hb.2
  · exact nameTells_long a0 a1 W (by omega) (by omega)
theorem nameFolds (a0 : ByteArray) (W : World) (w0 : a0.size ≤ maxLen) :
    Calls Try.prog 4 #[.string a0] W fun e w' => e = .returned (.bool true) ∧ Below W.heap.size W w' := by
  unfold maxLen at w0
  by_cases h : a0.size ≤ 80
  · exact nameFolds_walk a0 W h
  · exact nameFolds_long a0 W (by omega) (by omega)
theorem nameFinds (a0 : Option Addr) (len0 cap0 : Nat) (z0 : List ByteArray) (a1 : ByteArray) (W : World) (w0 : IsStrs W a0 len0 cap0 z0) (w1 : a1.size ≤ maxLen) :
    Calls Try.prog 5 #[.slice a0 len0 cap0, .string a1] W fun e w' => e = .returned (.bool true) ∧ Below W.heap.size W w' := by
  unfold maxLen at w1
  have hk := w0.at
  by_cases h : len0 ≤ 20
  · by_cases h2 : a1.size ≤ 40
    · exact nameFinds_walk a0 len0 cap0 _ a1 W hk.1 hk.2 h h2
    · exact nameFinds_long a0 len0 cap0 a1 W (.inr ⟨h, by omega⟩) hk.1.2.1 (by omega)
  · exact nameFinds_long a0 len0 cap0 a1 W (.inl (by omega)) hk.1.2.1 (by omega)
theorem nameAgain (a0 : ByteArray) (W : World) (w0 : a0.size ≤ maxLen) :
    Calls Try.prog 6 #[.string a0] W fun e w' => e = .returned (.bool true) ∧ Below W.heap.size W w' := by
  unfold maxLen at w0
  by_cases h : a0.size ≤ 80
  · cases hf : fitV ((vals a0.data.toList).map low) with
    | true => exact nameAgain_yes a0 W h hf
    | false => exact nameAgain_no a0 W h hf
  · exact nameAgain_long a0 W (by omega) (by omega)
theorem nameOrders (a0 a1 : ByteArray) (W : World) (w0 : a0.size ≤ maxLen) (w1 : a1.size ≤ maxLen) :
    Calls Try.prog 7 #[.string a0, .string a1] W fun e w' => e = .returned (.bool true) ∧ Below W.heap.size W w' := by
  unfold maxLen at w0 w1
  by_cases h : a0.size ≤ 40
  · by_cases h2 : a1.size ≤ 40
    · cases ga : (rn a0.data.toList).all good with
      | false => exact nameOrders_bad a0 a1 W h h2 (.inl ga)
      | true =>
        cases gb : (rn a1.data.toList).all good with
        | false => exact nameOrders_bad a0 a1 W h h2 (.inr gb)
        | true => exact nameOrders_good a0 a1 W h h2 ga gb
    · exact nameOrders_long a0 a1 W (.inr ⟨h, by omega⟩) (by omega) (by omega)
  · exact nameOrders_long a0 a1 W (.inl (by omega)) (by omega) (by omega)
end Contract
end Go.Proofs.Ytfppfjihdgponaa
