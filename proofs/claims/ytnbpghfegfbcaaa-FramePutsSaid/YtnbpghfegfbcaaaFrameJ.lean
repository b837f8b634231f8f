/-
  The contracts of the three laws of layer 8 in the frame's form: each returns true; what was there stays as it was; nothing is asked.
-/
import Derived.Test.YtnbpghfegfbcaaaFrameI
import Derived.Test.YtnbpghfegfbcaaaRows
import Derived.OpenShut
set_option linter.unusedVariables false
namespace Go.Proofs.Ytnbpghfegfbcaaa
open Go.RowKit CrcP FrameP

/-- What the walk is told of a slice of strings that came in: it is nil, or it leads to its cells. -/
def IsStrs (w : World) (a : Option Addr) (len cap : Nat) (zs : List ByteArray) : Prop :=
  (a = none ∧ len = 0 ∧ cap = 0 ∧ zs = []) ∨
  ∃ x, a = some x ∧ len ≤ cap ∧ cap ≤ maxLen ∧ zs.length = cap ∧ (∀ i, i < zs.length → w.cell? (x.add i) = some (.string (zs.getD i ByteArray.empty))) ∧ ∀ s ∈ zs, s.size ≤ maxLen
theorem IsStrs.at {w : World} {a : Option Addr} {len cap : Nat} {zs : List ByteArray} (h : IsStrs w a len cap zs) : StrsAt w a len (zs.take len) ∧ (∀ t ∈ zs.take len, t.size ≤ 9223372036854775807) ∧ len ≤ cap := by
  rcases h with ⟨rfl, rfl, rfl, rfl⟩ | ⟨x, rfl, hl, hm, hz, hc, hs⟩
  · exact ⟨⟨rfl, by omega, .inl rfl⟩, by simp, Nat.le_refl _⟩
  · unfold maxLen at hm hs
    refine ⟨⟨by rw [List.length_take]; omega, by omega, ?_⟩, fun t ht => by have := hs t (List.mem_of_mem_take ht); omega, hl⟩
    by_cases h0 : len = 0
    · exact .inl h0
    · right
      obtain ⟨b, off, spot⟩ := x
      have h00 := hc 0 (by omega)
      have hspot : spot = none := by simpa [Addr.add] using World.cell?_spot h00
      subst hspot
      have hlt := World.block_lt_of_cell? w _ h00
      rw [Go.WideShapes.add_plain] at hlt
      exact ⟨b, off, rfl, hlt, fun i hi => by have := hc i (by omega); rw [Go.WideShapes.add_plain] at this; rw [this]; simp [List.getD, hi]⟩
namespace Contract
theorem framePuts (a0 : Option Addr) (len0 cap0 : Nat) (z0 : List ByteArray) (W : World) (w0 : IsStrs W a0 len0 cap0 z0) :
    Calls Try.prog 3 #[.slice a0 len0 cap0] W fun e w' => e = .returned (.bool true) ∧ Below W.heap.size W w' := by
  have hk := w0.at
  exact framePuts_walk a0 len0 cap0 _ W hk.1 hk.2.1
theorem frameTakes (a0 : ByteArray) (W : World) (w0 : a0.size ≤ maxLen) :
    Calls Try.prog 4 #[.string a0] W fun e w' => e = .returned (.bool true) ∧ Below W.heap.size W w' := by
  unfold maxLen at w0
  exact frameTakes_walk a0 W (by omega)
theorem frameBack (a0 : Option Addr) (len0 cap0 : Nat) (z0 : List ByteArray) (a1 : Int) (a2 : ByteArray) (W : World) (w0 : IsStrs W a0 len0 cap0 z0) (w1 : (Lit.int .u16 a1).wf = true) (w2 : a2.size ≤ maxLen) :
    Calls Try.prog 5 #[.slice a0 len0 cap0, .int .u16 a1, .string a2] W fun e w' => e = .returned (.bool true) ∧ Below W.heap.size W w' := by
  unfold maxLen at w2
  have hk := w0.at
  by_cases h : Few 8 200 (z0.take len0) ∧ a2.size ≤ 200
  · have hb : 0 ≤ a1 ∧ a1 ≤ 65535 := by simpa [Lit.wf, IntKind.min, IntKind.max, IntKind.signed, IntKind.bits] using w1
    obtain ⟨A, rfl⟩ : ∃ A : Nat, a1 = (A : Int) := ⟨a1.toNat, by omega⟩
    exact frameBack_walk a0 len0 cap0 _ A a2 W hk.1 h.1 (by omega) h.2 hk.2.2
  · exact frameBack_long a0 len0 cap0 _ a1 a2 W hk.1 hk.2.1 (by omega) h
end Contract
end Go.Proofs.Ytnbpghfegfbcaaa
