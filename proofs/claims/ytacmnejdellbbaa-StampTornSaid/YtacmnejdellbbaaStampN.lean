/-
  The contracts of StampSeals, StampOpens, StampBack and StampTorn in the frame's form: each returns true; what was there stays as it was; nothing is asked.
-/
import Derived.Test.YtacmnejdellbbaaStampM
import Derived.OpenShut
import Derived.Lib.SmallJoins
set_option linter.unusedVariables false
namespace Go.Proofs.Ytacmnejdellbbaa
open Go.RowKit CrcP StampP

/-- A slice of numbers that came in. -/
def IsRow (k : IntKind) (w : World) (a : Option Addr) (len cap : Nat) (zs : List Int) : Prop :=
  (a = none ∧ len = 0 ∧ cap = 0 ∧ zs = []) ∨
  ∃ x, a = some x ∧ len ≤ cap ∧ cap ≤ maxLen ∧ zs.length = cap ∧ (∀ i, i < zs.length → w.cell? (x.add i) = some (.int k (zs.getD i 0))) ∧ ∀ n ∈ zs, (Lit.int k n).wf = true
theorem IsRow.nums {w : World} {a : Option Addr} {len cap : Nat} {zs : List Int} (h : IsRow .i64 w a len cap zs) : NumsAt w a len zs := by
  rcases h with ⟨rfl, rfl, _, rfl⟩ | ⟨x, rfl, hl, hm, hz, hc, hw⟩
  · exact ⟨by omega, .inl rfl⟩
  · unfold maxLen at hm
    refine ⟨by omega, ?_⟩
    by_cases h0 : len = 0
    · exact .inl h0
    · right
      obtain ⟨b, off, rfl, hcell⟩ := ints_at hc (by omega)
      exact ⟨b, off, rfl, World.block_lt_of_cell? w _ (hcell 0 (by omega)), fun i hi => hcell i (by omega)⟩
theorem openStamp {H : Type} {enc : TypeId × Value → H} {W : World} {r : Reach} {b0 base : Nat} {spare : Nat → Bool} {held : Bool} {v : Value} {d : DataW H} {p : List MemPlace}
    (hv : Value.okWide Try.prog W r b0 23 v) (h : DataW.Trod enc Try.prog W base spare held 23 v d p) : ∃ n i c : Int, v = stV n i c := by
  obtain ⟨v0, v1, v2, y0, y1, y2, m, rfl, rfl, rfl, h0, h1, h2⟩ := Go.Joins.open_agg3 Try.underlying23 (by kernel_rfl) (by kernel_rfl) hv h
  obtain ⟨n, e0, _, _⟩ := DataW.trod_int Try.underlying3 h0
  obtain ⟨i, e1, _, _⟩ := DataW.trod_int Try.underlying3 h1
  obtain ⟨c, e2, _, _⟩ := DataW.trod_int Try.underlying3 h2
  cases e0; cases e1; cases e2
  exact ⟨n, i, c, rfl⟩
namespace Contract
theorem stampSeals (a0 b0 c0 : Int) (a1 : ByteArray) (W : World) (w1 : a1.size ≤ maxLen) :
    Calls Try.prog 3 #[stV a0 b0 c0, .string a1] W fun e w' => e = .returned (.bool true) ∧ Below W.heap.size W w' := by
  unfold maxLen at w1
  by_cases h : a1.size ≤ 300
  · exact stampSeals_walk a0 b0 c0 a1 W h
  · exact stampSeals_long a0 b0 c0 a1 W (by omega) (by omega)
theorem stampOpens (a0 : ByteArray) (W : World) (w0 : a0.size ≤ maxLen) :
    Calls Try.prog 4 #[.string a0] W fun e w' => e = .returned (.bool true) ∧ Below W.heap.size W w' := by
  unfold maxLen at w0
  by_cases h : a0.size ≤ 300
  · exact stampOpens_walk a0 W h
  · exact stampOpens_long a0 W (by omega) (by omega)
theorem fit_nat {n i c : Int} (h : fit n i c) : ∃ n' i' c' : Nat, n = (n' : Int) ∧ i = (i' : Int) ∧ c = (c' : Int) := by
  unfold fit at h
  exact ⟨n.toNat, i.toNat, c.toNat, by omega, by omega, by omega⟩
theorem stampBack (a0 b0 c0 : Int) (a1 : ByteArray) (W : World) (w1 : a1.size ≤ maxLen) :
    Calls Try.prog 5 #[stV a0 b0 c0, .string a1] W fun e w' => e = .returned (.bool true) ∧ Below W.heap.size W w' := by
  unfold maxLen at w1
  by_cases h : a1.size ≤ 600
  · by_cases hf : fit a0 b0 c0
    · obtain ⟨n, i, c, rfl, rfl, rfl⟩ := fit_nat hf
      exact stampBack_yes n i c a1 W h hf
    · exact stampBack_not a0 b0 c0 a1 W h hf
  · exact stampBack_long a0 b0 c0 a1 W (by omega) (by omega)
theorem stampTorn (a0 b0 c0 : Int) (a1 : ByteArray) (a2 : Int) (a3 : Option Addr) (len3 cap3 : Nat) (z3 : List Int) (W : World) (w1 : a1.size ≤ maxLen) (w2 : (Lit.int .i64 a2).wf = true) (w3 : IsRow .i64 W a3 len3 cap3 z3) :
    Calls Try.prog 6 #[stV a0 b0 c0, .string a1, .int .i64 a2, .slice a3 len3 cap3] W fun e w' => e = .returned (.bool true) ∧ Below W.heap.size W w' := by
  unfold maxLen at w1
  have hx := w3.nums
  by_cases h : a1.size ≤ 104
  · by_cases h2 : len3 ≤ 12
    · by_cases hf : fit a0 b0 c0
      · obtain ⟨n, i, c, rfl, rfl, rfl⟩ := fit_nat hf
        exact stampTorn_walk n i c a2 a1 a3 len3 cap3 z3 W h h2 hf hx
      · exact stampTorn_not a0 b0 c0 a2 a1 a3 len3 cap3 W h h2 hf
    · exact stampTorn_many a0 b0 c0 a2 a1 a3 len3 cap3 W h (by omega) hx.1
  · exact stampTorn_long a0 b0 c0 a2 a1 a3 len3 cap3 W (by omega) (by omega) hx.1
end Contract
end Go.Proofs.Ytacmnejdellbbaa
