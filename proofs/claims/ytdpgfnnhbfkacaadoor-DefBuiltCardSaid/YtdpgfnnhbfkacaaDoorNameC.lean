/-
  The contracts of the document's Runes and Count: any text; what was there stays as it was.
-/
import Derived.Test.YtdpgfnnhbfkacaaDoorNameB
import Derived.OwnWalk
import Derived.Laws.AppendOwn
import Derived.LoopTactic
set_option linter.unusedVariables false
set_option maxRecDepth 4000
namespace Go.Proofs.YtdpgfnnhbfkacaaDoor.Name
open Go.RowKit NameP

theorem info_int : (Tryd.prog.info? 3).map (fun i => (i.zero, i.size, i.bytes)) = some (some (.int .i64 0), 1, 8) := by kernel_rfl
def cellsN (l : List Nat) : List Value := l.map fun (c : Nat) => Value.int .i64 (c : Int)
theorem cellsN_len (l : List Nat) : (cellsN l).length = l.length := by simp [cellsN]
/-- A slice of ints told of its first 'len' cells: the numbers of a list. -/
def NatsAt (w : World) (a : Option Addr) (len : Nat) (xs : List Nat) : Prop :=
  xs.length = len ∧ (len = 0 ∨ ∃ b, a = some ⟨b, 0, none⟩ ∧ b < w.heap.size ∧ ∀ i, i < len → w.cell? ⟨b, i, none⟩ = some (.int .i64 ((xs.getD i 0 : Nat) : Int)))
theorem NatsAt.keep {w w' : World} {a : Option Addr} {len : Nat} {xs : List Nat} (h : NatsAt w a len xs) (hb : Below w.heap.size w w') : NatsAt w' a len xs := by
  refine ⟨h.1, ?_⟩
  rcases h.2 with h0 | ⟨b, rfl, hlt, hc⟩
  · exact .inl h0
  · exact .inr ⟨b, rfl, by have := hb.size; omega, fun i hi => (hb.cell (p := ⟨b, i, none⟩) hlt).trans (hc i hi)⟩
theorem natsAt_of_owns {w : World} {base cap : Nat} {a : Option Addr} {xs : List Nat} (h : w.ownsRow base 3 1 (.slice a xs.length cap) xs.length (cellsN xs)) : NatsAt w a xs.length xs := by
  refine ⟨rfl, ?_⟩
  by_cases h0 : xs.length = 0
  · exact .inl h0
  right
  have hlt := h.lt
  rcases h.2 with ⟨_, h1⟩ | ⟨g, cap2, cur, hv, hb, hg, _⟩
  · omega
  · simp only [Value.slice.injEq] at hv
    obtain ⟨rfl, _⟩ := hv
    refine ⟨g, rfl, (hlt g rfl).2, fun i hi => ?_⟩
    have := h.cells (g := g) rfl i (.int .i64 ((xs.getD i 0 : Nat) : Int)) (by simp [cellsN, List.getD, hi])
    have hadd : (⟨g, 0, none⟩ : Addr).add i = ⟨g, i, none⟩ := by unfold Addr.add; split <;> simp_all
    rw [hadd] at this
    exact this
theorem owns_slice {w : World} {base n : Nat} {v : Value} {xs : List Value} (h : w.ownsRow base 3 1 v n xs) : ∃ a cap, v = .slice a n cap := by
  rcases h.2 with ⟨rfl, rfl⟩ | ⟨g, cap, cur, rfl, _⟩
  · exact ⟨none, 0, rfl⟩
  · exact ⟨_, cap, rfl⟩

/-- What the document's Runes gives. -/
def RunesOut (l : List UInt8) (w : World) (e : Ending) (w' : World) : Prop :=
  Below w.heap.size w w' ∧ (((rn l).all good = false ∧ e = .returned (.tuple #[.slice none 0 0, .bool false])) ∨
    ((rn l).all good = true ∧ ∃ a cap, e = .returned (.tuple #[.slice a (vals l).length cap, .bool true]) ∧ NatsAt w' a (vals l).length (vals l)))
theorem runesOut_no {l : List UInt8} {w w' : World} (h : (rn l).all good = false) (hb : Below w.heap.size w w') : RunesOut l w (.returned (.tuple #[.slice none 0 0, .bool false])) w' := ⟨hb, .inl ⟨h, rfl⟩⟩
theorem runesOut_yes {l : List UInt8} {w w' : World} {v : Value} {n : Nat} {xs : List Value} (h : (rn l).all good = true) (hb : Below w.heap.size w w') (hn : n = (vals l).length) (hx : xs = cellsN (vals l)) (ho : w'.ownsRow w.heap.size 3 1 v n xs) : RunesOut l w (.returned (.tuple #[v, .bool true])) w' := by
  subst hn; subst hx
  obtain ⟨a, cap, rfl⟩ := owns_slice ho
  exact ⟨hb, .inr ⟨h, a, cap, rfl, natsAt_of_owns ho⟩⟩

/-- What is told of the runes behind place k, and ahead of it. -/
def RunesTo (l : List UInt8) (k : Nat) (pre : List Nat) : Prop := vals l = pre ++ vals (l.drop k) ∧ (rn l).all good = (rn (l.drop k)).all good
theorem runesTo_step {l : List UInt8} {k c m : Nat} {pre : List Nat} (h : RunesTo l k pre) (hk : k < l.length) (hd : Lib.decodeL (l.drop k) = (c, m)) (hg : good (c, m) = true) : RunesTo l (k + m) (pre ++ [c]) := by
  obtain ⟨h1, h2⟩ := h
  rw [vals_drop_step l k hk, hd] at h1
  rw [rn_drop_step l k hk, hd, List.all_cons, hg, Bool.true_and] at h2
  exact ⟨by rw [h1]; simp, h2⟩
theorem runesTo_bad {l : List UInt8} {k c m : Nat} {pre : List Nat} (h : RunesTo l k pre) (hk : k < l.length) (hd : Lib.decodeL (l.drop k) = (c, m)) (hg : good (c, m) = false) : (rn l).all good = false := by
  rw [h.2, rn_drop_step l k hk, hd, List.all_cons, hg, Bool.false_and]
theorem runesTo_end {l : List UInt8} {k : Nat} {pre : List Nat} (h : RunesTo l k pre) (hk : ¬ k < l.length) : (rn l).all good = true ∧ vals l = pre := by
  obtain ⟨h1, h2⟩ := h
  rw [vals_drop_done l k hk, List.append_nil] at h1
  rw [rn_drop_done l k hk] at h2
  exact ⟨h2, h1⟩
theorem decode_fits {l : List UInt8} {k c m : Nat} (hk : k < l.length) (hd : Lib.decodeL (l.drop k) = (c, m)) : 1 ≤ m ∧ m ≤ 4 ∧ k + m ≤ l.length ∧ c ≤ 1114111 ∧ okRune c := by
  have hne : l.drop k ≠ [] := by
    intro e
    have := congrArg List.length e
    simp at this
    omega
  have h1 := Lib.decodeL_width (l.drop k)
  have h2 := decodeL_four (l.drop k)
  have h3 := Lib.decodeL_le (l.drop k) hne
  have h4 := decodeL_ok (l.drop k)
  rw [hd] at h1 h2 h3 h4
  rw [List.length_drop] at h3
  simp only at h1 h2 h3 h4
  refine ⟨h1, h2, by omega, ?_, h4⟩
  unfold okRune at h4
  omega
end Go.Proofs.YtdpgfnnhbfkacaaDoor.Name
