/-
  The contracts of the document's Runes and Count: any text; what was there stays as it was.
-/
import Derived.Test.YtdpgfnnhbfkacaaGreatDoorPbNameA
import Derived.OwnWalk
import Derived.Laws.AppendOwn
import Derived.LoopTactic
set_option linter.unusedVariables false
set_option maxRecDepth 4000
namespace Go.Proofs.YtdpgfnnhbfkacaaGreatDoor.Name
open Go.RowKit NameP
def NatsAt (w : World) (a : Option Addr) (len : Nat) (xs : List Nat) : Prop :=
  xs.length = len ∧ (len = 0 ∨ ∃ b, a = some ⟨b, 0, none⟩ ∧ b < w.heap.size ∧ ∀ i, i < len → w.cell? ⟨b, i, none⟩ = some (.int .i64 ((xs.getD i 0 : Nat) : Int)))
theorem NatsAt.keep {w w' : World} {a : Option Addr} {len : Nat} {xs : List Nat} (h : NatsAt w a len xs) (hb : Below w.heap.size w w') : NatsAt w' a len xs := by
  refine ⟨h.1, ?_⟩
  rcases h.2 with h0 | ⟨b, rfl, hlt, hc⟩
  · exact .inl h0
  · exact .inr ⟨b, rfl, by have := hb.size; omega, fun i hi => (hb.cell (p := ⟨b, i, none⟩) hlt).trans (hc i hi)⟩
theorem decode_fits {l : List UInt8} {k c m : Nat} (hk : k < l.length) (hd : Lib.decodeL (l.drop k) = (c, m)) : 1 ≤ m ∧ m ≤ 4 ∧ k + m ≤ l.length ∧ c ≤ 1114111 ∧ okRune c := by
  have hne : l.drop k ≠ [] := by
    intro e
    have := congrArg List.length e
    simp at this
    omega
  have h1 := Lib.decodeL_width (l.drop k)
  have h2 := decodeL_four (l.drop k)
  have h3 := Lib.decodeL_le (l.drop k) hne
  have h4 := decodeL_ok (l.drop k)
  rw [hd] at h1 h2 h3 h4
  rw [List.length_drop] at h3
  simp only at h1 h2 h3 h4
  refine ⟨h1, h2, by omega, ?_, h4⟩
  unfold okRune at h4
  omega
end Go.Proofs.YtdpgfnnhbfkacaaGreatDoor.Name
