/-
  Acts and keeps that came in as arguments: what is told of them.
-/
import Derived.Test.YtklklcohbfnpjaaDiskX
import Derived.Test.YtklklcohbfnpjaaRows
import Derived.OpenShut
import Derived.Deep.Slices
import Derived.ChangeOld
set_option linter.unusedVariables false
set_option maxRecDepth 4000
namespace Go.Proofs.Ytklklcohbfnpjaa
open Go.RowKit DiskP

theorem add_at (g j i : Nat) : (⟨g, j, none⟩ : Addr).add i = ⟨g, j + i, none⟩ := by unfold Addr.add; split <;> simp_all
/-- One field of a struct, an integer of one kind: what is read there. -/
theorem field_int {H : Type} {enc : TypeId × Value → H} {w : World} {base : Nat} {spare : Nat → Bool} {held : Bool} {n j : Nat} {ti : TypeId} {k : IntKind} {cs : List Value} {y : Option (DataW H × List MemPlace)}
    (hti : Try.prog.underlying ti = some (.int k)) (hj : j < cs.length) (hy : y.isSome = true) (h : DataW.trod enc Try.prog w base spare held n ti ((cs.drop j).take 1) = y) : ∃ q : Int, cs[j]? = some (.int k q) ∧ (Lit.int k q).wf = true := by
  obtain ⟨x, rfl⟩ := Option.isSome_iff_exists.1 hy
  obtain ⟨q, hq, _, hw⟩ := DataW.trod_int hti h
  refine ⟨q, ?_, hw⟩
  rw [List.drop_eq_getElem_cons hj, List.take_succ_cons, List.take_zero] at hq
  rw [List.getElem?_eq_getElem hj, (List.cons.inj hq).1]
theorem cells_act : Try.prog.cellsOf 42 = 5 := by kernel_rfl
theorem cells_int : Try.prog.cellsOf 3 = 1 := by kernel_rfl
theorem cells_byte : Try.prog.cellsOf 5 = 1 := by kernel_rfl
theorem cells_bool : Try.prog.cellsOf 4 = 1 := by kernel_rfl
theorem cells_bools : Try.prog.cellsOf 40 = 1 := by kernel_rfl
/-- What is told of a slice of bools that came in. -/
structure IsBools (w : World) (a : Option Addr) (len : Nat) : Prop where
  lo : len ≤ 9223372036854775807
  at_ : ∃ ks, BoolsAt w a len ks
  new : 0 < len → ∀ y, a = some y → y.block < w.heap.size
def boolOf : Value → Bool
  | .bool b => b
  | _ => false
theorem isBools_of {H : Type} {enc : TypeId × Value → H} {w : World} {base : Nat} {spare : Nat → Bool} {held : Bool} {fuel : Nat} {cs : List Value} {x : DataW H × List MemPlace} {a : Option Addr} {len cap : Nat}
    (h : DataW.trod enc Try.prog w base spare held fuel 40 cs = some x) (hcs : cs = [.slice a len cap]) : IsBools w a len := by
  rcases Go.Deep.open_slice1 Try.underlying40 cells_bool h with ⟨h0, _⟩ | ⟨a1, len1, cap1, m, n, V, D, Pl, h1, _, hl, hm, hmm, _, hi⟩
  · rw [hcs] at h0
    simp only [List.cons.injEq, Value.slice.injEq, and_true] at h0
    obtain ⟨rfl, rfl, rfl⟩ := h0
    exact ⟨by omega, ⟨[], rfl, .inl rfl⟩, fun h => absurd h (Nat.lt_irrefl _)⟩
  · rw [hcs] at h1
    simp only [List.cons.injEq, Value.slice.injEq, and_true] at h1
    obtain ⟨rfl, rfl, rfl⟩ := h1
    unfold maxLen at hm
    have hlm : len ≤ m := by rw [hmm]; split <;> omega
    have each : ∀ i, i < len → w.cell? (a1.add i) = some (.bool (boolOf (V i))) := fun i hlt => by
      obtain ⟨hc, ht⟩ := hi i (by omega)
      obtain ⟨b, hb, _⟩ := DataW.trod_bool Try.underlying4 ht
      rw [(List.cons.inj hb).1] at hc ⊢
      exact hc
    by_cases h0 : len = 0
    · subst h0
      exact ⟨by omega, ⟨[], rfl, .inl rfl⟩, fun h => absurd h (Nat.lt_irrefl _)⟩
    · obtain ⟨b, off, spot⟩ := a1
      have h00 := each 0 (by omega)
      have hspot : spot = none := by simpa [Addr.add] using World.cell?_spot h00
      subst hspot
      have hlt := World.block_lt_of_cell? w _ h00
      rw [add_at] at hlt
      refine ⟨by omega, ⟨(List.range len).map fun i => boolOf (V i), by simp, .inr ⟨b, off, rfl, hlt, fun i hi2 => ?_⟩⟩, fun _ y hy => by cases hy; exact hlt⟩
      have := each i hi2
      rw [add_at] at this
      rw [this]
      simp [keeps, List.getD, hi2]
/-- What the walk is told of a slice of acts that came in. -/
def IsAct (w : World) (a : Option Addr) (len cap : Nat) : Prop := ∃ f, ActsAt w a len f
theorem isAct_of {H : Type} {enc : TypeId × Value → H} {w : World} {base : Nat} {spare : Nat → Bool} {held : Bool} {fuel : Nat} {cs : List Value} {x : DataW H × List MemPlace} {a : Option Addr} {len cap : Nat}
    (h : DataW.trod enc Try.prog w base spare held fuel 31 cs = some x) (hcs : cs = [.slice a len cap]) : IsAct w a len cap := by
  have none_ : ∀ a, IsAct w a 0 cap := fun a => ⟨fun _ => ⟨0, 0, 0, 0, none, 0, 0, []⟩, Nat.zero_le _, .inl rfl⟩
  rcases Go.Deep.open_slice Try.underlying31 h with ⟨h0, _⟩ | ⟨a1, len1, cap1, m, n, D, Pl, h1, _, hl, hm, hmm, _, hi⟩
  · rw [hcs] at h0
    simp only [List.cons.injEq, Value.slice.injEq, and_true] at h0
    obtain ⟨rfl, rfl, rfl⟩ := h0
    exact none_ none
  · rw [hcs] at h1
    simp only [List.cons.injEq, Value.slice.injEq, and_true] at h1
    obtain ⟨rfl, rfl, rfl⟩ := h1
    unfold maxLen at hm
    by_cases h0 : len = 0
    · subst h0; exact none_ _
    have hlm : len ≤ m := by rw [hmm]; split <;> omega
    have each : ∀ i, i < len → ∃ y : AVal, w.cell? ((a1.add (i * 5)).add 0) = some (.int .i64 y.kind) ∧ w.cell? ((a1.add (i * 5)).add 1) = some (.int .i64 y.at_) ∧ w.cell? ((a1.add (i * 5)).add 2) = some (.int .u8 y.fil) ∧
        w.cell? ((a1.add (i * 5)).add 3) = some (.int .i64 y.size) ∧ w.cell? ((a1.add (i * 5)).add 4) = some (.slice y.ka y.kl y.kc) ∧ (Lit.int .i64 y.at_).wf = true ∧ y.kl ≤ 9223372036854775807 ∧ BoolsAt w y.ka y.kl y.kb ∧ (0 < y.kl → ∀ z, y.ka = some z → z.block < w.heap.size) := by
      intro i hlt
      obtain ⟨cs', hc, ht⟩ := hi i (by omega)
      rw [cells_act] at hc
      obtain ⟨_, hcl, hat⟩ := World.cells?_some hc
      obtain ⟨ys, n', _, _, _, hyl, hf⟩ := DataW.trod_struct Try.underlying42 ht
      have hys : ys.length = 5 := hyl
      have g0 : DataW.trod enc Try.prog w base spare held n' 3 ((cs'.drop 0).take 1) = ys[0]? := by
        have h := hf 0 _ rfl
        change DataW.trod enc Try.prog w base spare held n' 3 ((cs'.drop 0).take (Try.prog.cellsOf 3)) = ys[0]? at h
        rw [cells_int] at h; exact h
      have g1 : DataW.trod enc Try.prog w base spare held n' 3 ((cs'.drop 1).take 1) = ys[1]? := by
        have h := hf 1 _ rfl
        change DataW.trod enc Try.prog w base spare held n' 3 ((cs'.drop 1).take (Try.prog.cellsOf 3)) = ys[1]? at h
        rw [cells_int] at h; exact h
      have g2 : DataW.trod enc Try.prog w base spare held n' 5 ((cs'.drop 2).take 1) = ys[2]? := by
        have h := hf 2 _ rfl
        change DataW.trod enc Try.prog w base spare held n' 5 ((cs'.drop 2).take (Try.prog.cellsOf 5)) = ys[2]? at h
        rw [cells_byte] at h; exact h
      have g3 : DataW.trod enc Try.prog w base spare held n' 3 ((cs'.drop 3).take 1) = ys[3]? := by
        have h := hf 3 _ rfl
        change DataW.trod enc Try.prog w base spare held n' 3 ((cs'.drop 3).take (Try.prog.cellsOf 3)) = ys[3]? at h
        rw [cells_int] at h; exact h
      have g4 : DataW.trod enc Try.prog w base spare held n' 40 ((cs'.drop 4).take 1) = ys[4]? := by
        have h := hf 4 _ rfl
        change DataW.trod enc Try.prog w base spare held n' 40 ((cs'.drop 4).take (Try.prog.cellsOf 40)) = ys[4]? at h
        rw [cells_bools] at h; exact h
      obtain ⟨k0, v0, _⟩ := field_int Try.underlying3 (show 0 < cs'.length by omega) (show (ys[0]?).isSome = true by simp [hys]) g0
      obtain ⟨k1, v1, w1⟩ := field_int Try.underlying3 (show 1 < cs'.length by omega) (show (ys[1]?).isSome = true by simp [hys]) g1
      obtain ⟨k2, v2, _⟩ := field_int Try.underlying5 (show 2 < cs'.length by omega) (show (ys[2]?).isSome = true by simp [hys]) g2
      obtain ⟨k3, v3, _⟩ := field_int Try.underlying3 (show 3 < cs'.length by omega) (show (ys[3]?).isSome = true by simp [hys]) g3
      have l4 : 4 < cs'.length := by omega
      have d4 : (cs'.drop 4).take 1 = [cs'[4]] := by rw [List.drop_eq_getElem_cons l4, List.take_succ_cons, List.take_zero]
      rw [d4] at g4
      obtain ⟨y4, hy4⟩ : ∃ y4, ys[4]? = some y4 := ⟨_, List.getElem?_eq_getElem (by omega)⟩
      rw [hy4] at g4
      have hv4 : ∃ ka kl kc, cs'[4] = .slice ka kl kc := by
        rcases Go.Deep.open_slice Try.underlying40 g4 with ⟨h5, _⟩ | ⟨a5, l5, c5, _, _, _, _, h5, _⟩
        · exact ⟨none, 0, 0, (List.cons.inj h5).1⟩
        · exact ⟨some a5, l5, c5, (List.cons.inj h5).1⟩
      obtain ⟨ka, kl, kc, e4⟩ := hv4
      obtain ⟨b1, ⟨ks, b2⟩, b3⟩ := isBools_of g4 (by rw [e4])
      exact ⟨⟨k0, k1, k2, k3, ka, kl, kc, ks⟩, (hat 0 (by omega)).trans v0, (hat 1 (by omega)).trans v1, (hat 2 (by omega)).trans v2, (hat 3 (by omega)).trans v3, (hat 4 (by omega)).trans (by rw [List.getElem?_eq_getElem l4, e4]), w1, b1, b2, b3⟩
    obtain ⟨b, off, spot⟩ := a1
    obtain ⟨_, h00, _⟩ := each 0 (by omega)
    have hspot : spot = none := by simpa [Addr.add] using World.cell?_spot h00
    subst hspot
    have hlt := World.block_lt_of_cell? w _ h00
    rw [add_at, add_at] at hlt
    have all : ∀ i, ∃ y : AVal, i < len → ActAt w b (off + i * 5) y := fun i => by
      by_cases hi2 : i < len
      · obtain ⟨y, c0, c1, c2, c3, c4, hw, p1, p2, p3⟩ := each i hi2
        rw [add_at, add_at] at c0 c1 c2 c3 c4
        have hb := bounds_i64 hw
        exact ⟨y, fun _ => ⟨c0, c1, c2, c3, c4, hb.1, hb.2, p1, p2, p3⟩⟩
      · exact ⟨⟨0, 0, 0, 0, none, 0, 0, []⟩, fun h => absurd h hi2⟩
    obtain ⟨f, hf⟩ := Classical.axiomOfChoice all
    exact ⟨f, by omega, .inr ⟨b, off, rfl, hlt, hf⟩⟩
end Go.Proofs.Ytklklcohbfnpjaa
