/-
  The walk of DiskLoads: any texts, any number.
-/
import Derived.Test.YtklklcohbfnpjaaDiskV
set_option linter.unusedVariables false
set_option maxRecDepth 4000
namespace Go.Proofs.Ytklklcohbfnpjaa
open Go.RowKit DiskP

theorem StrsAt.below {w w' : World} {a : Option Addr} {len : Nat} {ss : List ByteArray} (h : StrsAt w a len ss) (hb : Below w.heap.size w w') : StrsAt w' a len ss :=
  ⟨h.1, h.2.1, h.2.2.imp id (fun ⟨b, off, e, hlt, hc⟩ => ⟨b, off, e, by have := hb.size; omega, fun i hi => (hb.cell (p := ⟨b, off + i, none⟩) hlt).trans (hc i hi)⟩)⟩
theorem strs_of {w : World} {B n g cap : Nat} {S : List ByteArray} (h : w.ownsRow B 9 1 (.slice (some ⟨g, 0, none⟩) n cap) n (S.map Value.string)) (hn : n ≤ 512) : StrsAt w (some ⟨g, 0, none⟩) n S := by
  have hl : S.length = n := by have := h.1; simpa using this
  exact ⟨hl, by omega, .inr ⟨g, 0, rfl, owns_lt h rfl, fun i hi => by rw [Nat.zero_add]; exact owns_cell h rfl (by simp [List.getD, hl, hi])⟩⟩
theorem first_bad (p : Nat → Prop) [DecidablePred p] : ∀ n, ∃ m, m ≤ n ∧ (∀ i, i < m → p i) ∧ (m < n → ¬ p m)
  | 0 => ⟨0, Nat.le_refl _, fun i hi => absurd hi (Nat.not_lt_zero _), fun h => absurd h (Nat.lt_irrefl _)⟩
  | n + 1 => by
    obtain ⟨m, h1, h2, h3⟩ := first_bad p n
    by_cases hm : m < n
    · exact ⟨m, by omega, h2, fun _ => h3 hm⟩
    · obtain rfl : m = n := by omega
      by_cases hp : p m
      · exact ⟨m + 1, Nat.le_refl _, fun i hi => (Nat.lt_succ_iff_lt_or_eq.1 hi).elim (h2 i) (fun e => e ▸ hp), fun h => absurd h (Nat.lt_irrefl _)⟩
      · exact ⟨m, by omega, h2, fun _ => hp⟩
def TrueIn (w : World) (e : Ending) (w' : World) : Prop := e = .returned (.bool true) ∧ Below w.heap.size w w'
end Go.Proofs.Ytklklcohbfnpjaa
