/-
  The contract of WireReads in the frame's form: it returns true; what was there stays as it was; nothing is asked.
-/
import Derived.Test.YtjenhgbighlooaaWireM
import Derived.Test.YtjenhgbighlooaaRows
import Derived.OpenShut
import Derived.Deep.Slices
set_option linter.unusedVariables false
namespace Go.Proofs.Ytjenhgbighlooaa
open Go.RowKit WireP

/-- One field of a struct of integers, each one cell wide: what is read there. -/
theorem field_int {H : Type} {enc : TypeId × Value → H} {w : World} {base : Nat} {spare : Nat → Bool} {held : Bool} {n j : Nat} {ti : TypeId} {cs : List Value} {y : Option (DataW H × List MemPlace)}
    (hti : Try.prog.underlying ti = some (.int .i64)) (hj : j < cs.length) (hy : y.isSome = true) (h : DataW.trod enc Try.prog w base spare held n ti ((cs.drop j).take 1) = y) : ∃ q : Int, cs[j]? = some (.int .i64 q) := by
  obtain ⟨x, rfl⟩ := Option.isSome_iff_exists.1 hy
  obtain ⟨q, hq, _⟩ := DataW.trod_int hti h
  refine ⟨q, ?_⟩
  rw [List.drop_eq_getElem_cons hj, List.take_succ_cons, List.take_zero] at hq
  rw [List.getElem?_eq_getElem hj, (List.cons.inj hq).1]
theorem cells_ask : Try.prog.cellsOf 37 = 3 := by kernel_rfl
theorem cells_int : Try.prog.cellsOf 3 = 1 := by kernel_rfl
/-- What the walk is told of a slice of asks that came in. -/
def IsAsk (w : World) (a : Option Addr) (len cap : Nat) : Prop := AsksAt w a len
theorem isAsk_of {H : Type} {enc : TypeId × Value → H} {w : World} {base : Nat} {spare : Nat → Bool} {held : Bool} {fuel : Nat} {cs : List Value} {x : DataW H × List MemPlace} {a : Option Addr} {len cap : Nat}
    (h : DataW.trod enc Try.prog w base spare held fuel 30 cs = some x) (hcs : cs = [.slice a len cap]) : IsAsk w a len cap := by
  rcases Go.Deep.open_slice Try.underlying30 h with ⟨h0, _⟩ | ⟨a1, len1, cap1, m, n, D, Pl, h1, _, hl, hm, hmm, _, hi⟩
  · rw [hcs] at h0
    simp only [List.cons.injEq, Value.slice.injEq, and_true] at h0
    obtain ⟨rfl, rfl, rfl⟩ := h0
    exact ⟨by omega, .inl rfl⟩
  · rw [hcs] at h1
    simp only [List.cons.injEq, Value.slice.injEq, and_true] at h1
    obtain ⟨rfl, rfl, rfl⟩ := h1
    unfold maxLen at hm
    refine ⟨by omega, ?_⟩
    by_cases h0 : len = 0
    · exact .inl h0
    right
    have hlm : len ≤ m := by rw [hmm]; split <;> omega
    have each : ∀ i, i < len → ∃ k lo hi : Int, w.cell? ((a1.add (i * 3)).add 0) = some (.int .i64 k) ∧ w.cell? ((a1.add (i * 3)).add 1) = some (.int .i64 lo) ∧ w.cell? ((a1.add (i * 3)).add 2) = some (.int .i64 hi) := by
      intro i hlt
      obtain ⟨cs', hc, ht⟩ := hi i (by omega)
      rw [cells_ask] at hc
      obtain ⟨_, hcl, hat⟩ := World.cells?_some hc
      obtain ⟨ys, n', _, _, _, hyl, hf⟩ := DataW.trod_struct Try.underlying37 ht
      have hys : ys.length = 3 := hyl
      have g0 : DataW.trod enc Try.prog w base spare held n' 3 ((cs'.drop 0).take 1) = ys[0]? := by
        have h := hf 0 _ rfl
        change DataW.trod enc Try.prog w base spare held n' 3 ((cs'.drop 0).take (Try.prog.cellsOf 3)) = ys[0]? at h
        rw [cells_int] at h
        exact h
      have y0 : (ys[0]?).isSome = true := by simp [hys]
      have l0 : 0 < cs'.length := by omega
      obtain ⟨k, hv0⟩ := field_int Try.underlying3 l0 y0 g0
      have g1 : DataW.trod enc Try.prog w base spare held n' 3 ((cs'.drop 1).take 1) = ys[1]? := by
        have h := hf 1 _ rfl
        change DataW.trod enc Try.prog w base spare held n' 3 ((cs'.drop 1).take (Try.prog.cellsOf 3)) = ys[1]? at h
        rw [cells_int] at h
        exact h
      have y1 : (ys[1]?).isSome = true := by simp [hys]
      have l1 : 1 < cs'.length := by omega
      obtain ⟨lo, hv1⟩ := field_int Try.underlying3 l1 y1 g1
      have g2 : DataW.trod enc Try.prog w base spare held n' 3 ((cs'.drop 2).take 1) = ys[2]? := by
        have h := hf 2 _ rfl
        change DataW.trod enc Try.prog w base spare held n' 3 ((cs'.drop 2).take (Try.prog.cellsOf 3)) = ys[2]? at h
        rw [cells_int] at h
        exact h
      have y2 : (ys[2]?).isSome = true := by simp [hys]
      have l2 : 2 < cs'.length := by omega
      obtain ⟨hi', hv2⟩ := field_int Try.underlying3 l2 y2 g2
      exact ⟨k, lo, hi', (hat 0 (by omega)).trans hv0, (hat 1 (by omega)).trans hv1, (hat 2 (by omega)).trans hv2⟩
    obtain ⟨b, off, spot⟩ := a1
    obtain ⟨k0, _, _, h00, _⟩ := each 0 (by omega)
    have hspot : spot = none := by simpa [Addr.add] using World.cell?_spot h00
    subst hspot
    have hlt := World.block_lt_of_cell? w _ h00
    rw [add_at, add_at] at hlt
    refine ⟨b, off, rfl, hlt, fun i hi2 => ?_⟩
    obtain ⟨k, lo, hi', c0, c1, c2⟩ := each i hi2
    rw [add_at, add_at] at c0 c1 c2
    exact ⟨k, lo, hi', c0, c1, c2⟩
namespace Contract
theorem wireReads (a0 : ByteArray) (a1 : Option Addr) (len1 cap1 : Nat) (W : World) (w0 : a0.size ≤ maxLen) (w1 : IsAsk W a1 len1 cap1) :
    Calls Try.prog 4 #[.string a0, .slice a1 len1 cap1] W fun e w' => e = .returned (.bool true) ∧ Below W.heap.size W w' := by
  unfold maxLen at w0
  by_cases h : a0.size ≤ 300
  · by_cases h2 : len1 ≤ 20
    · exact wireReads_walk a0 a1 len1 cap1 W w1 h h2
    · exact wireReads_long a0 a1 len1 cap1 W (.inr ⟨h, by omega⟩) w1.1 (by omega)
  · exact wireReads_long a0 a1 len1 cap1 W (.inl (by omega)) w1.1 (by omega)
end Contract
end Go.Proofs.Ytjenhgbighlooaa
