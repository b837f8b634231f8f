/-
  A superblock that came in by value.
-/
import Derived.Test.YtigiaiddnbpcmaaSuperO
import Derived.Test.YtigiaiddnbpcmaaRows
import Derived.OpenShut
import Derived.Deep.Slices
import Derived.ChangeOld
import Derived.ChangeSlices
set_option linter.unusedVariables false
set_option maxRecDepth 4000
namespace Go.Proofs.Ytigiaiddnbpcmaa
open Go.RowKit SuperP
open Wire (IntsAt)

/-- One field of a struct, an integer: what is read there. -/
theorem field_int {H : Type} {enc : TypeId × Value → H} {w : World} {base : Nat} {spare : Nat → Bool} {held : Bool} {n j : Nat} {ti : TypeId} {k : IntKind} {cs : List Value} {y : Option (DataW H × List MemPlace)}
    (hti : Try.prog.underlying ti = some (.int k)) (hj : j < cs.length) (hy : y.isSome = true) (h : DataW.trod enc Try.prog w base spare held n ti ((cs.drop j).take 1) = y) : ∃ q : Int, cs[j]? = some (.int k q) ∧ (Lit.int k q).wf = true := by
  obtain ⟨x, rfl⟩ := Option.isSome_iff_exists.1 hy
  obtain ⟨q, hq, _, hw⟩ := DataW.trod_int hti h
  refine ⟨q, ?_, hw⟩
  rw [List.drop_eq_getElem_cons hj, List.take_succ_cons, List.take_zero] at hq
  rw [List.getElem?_eq_getElem hj, (List.cons.inj hq).1]
theorem cells_super : Try.prog.cellsOf 24 = 6 := by kernel_rfl
theorem cells_int : Try.prog.cellsOf 3 = 1 := by kernel_rfl
theorem cells_ints : Try.prog.cellsOf 22 = 1 := by kernel_rfl
/-- One field of a struct, a slice of integers. -/
theorem field_ints {H : Type} {enc : TypeId × Value → H} {w : World} {base : Nat} {spare : Nat → Bool} {held : Bool} {n j : Nat} {cs : List Value} {y : Option (DataW H × List MemPlace)}
    (hj : j < cs.length) (hy : y.isSome = true) (h : DataW.trod enc Try.prog w base spare held n 22 ((cs.drop j).take 1) = y) : ∃ (a : Option Addr) (l c : Nat) (xs : List Int), cs[j]? = some (.slice a l c) ∧ IntsAt w a l xs ∧ l ≤ 9223372036854775807 ∧ (a = none → c = 0) := by
  obtain ⟨x, rfl⟩ := Option.isSome_iff_exists.1 hy
  have hd : (cs.drop j).take 1 = [cs[j]] := by rw [List.drop_eq_getElem_cons hj, List.take_succ_cons, List.take_zero]
  rw [hd] at h
  rw [List.getElem?_eq_getElem hj]
  rcases Go.ChangeShapes.open_ints Try.underlying22 Try.underlying3 cells_int h with ⟨h0, _⟩ | ⟨a, len, cap, zs, h0, _, hl, hm, hz, _, hcell, hwz⟩
  · exact ⟨none, 0, 0, [], by rw [(List.cons.inj h0).1], ⟨rfl, by simp, .inl rfl⟩, Nat.zero_le _, fun _ => rfl⟩
  · unfold maxLen at hm
    have hlz : len ≤ zs.length := by rw [hz]; split <;> omega
    refine ⟨some a, len, cap, zs.take len, by rw [(List.cons.inj h0).1], ⟨by rw [List.length_take]; omega, fun n hn => bounds_i64 (hwz n (List.mem_of_mem_take hn)), ?_⟩, by omega, fun e => by cases e⟩
    by_cases h0 : len = 0
    · exact .inl h0
    · right
      obtain ⟨b, off, rfl, hc2⟩ := ints_at hcell (by omega)
      have h00 := hc2 0 (by omega)
      have hlt := World.block_lt_of_cell? w _ h00
      exact ⟨b, off, rfl, hlt, fun i hi => by rw [hc2 i (by omega)]; simp [List.getD, hi]⟩
/-- What is told of a superblock that came in. -/
structure SupIn (w : World) (x : Sup) (a1 : Option Addr) (l1 c1 : Nat) (a2 : Option Addr) (l2 c2 : Nat) : Prop where
  at_ : SupAt w x a1 l1 a2 l2
  n1 : a1 = none → c1 = 0
  n2 : a2 = none → c2 = 0
  g0 : -9223372036854775808 ≤ x.gen
  g1 : x.gen ≤ 9223372036854775807
theorem openSuper {H : Type} {enc : TypeId × Value → H} {w : World} {r : Reach} {b0 base : Nat} {spare : Nat → Bool} {held : Bool} {v : Value} {d : DataW H} {p : List MemPlace}
    (hv : Value.okWide Try.prog w r b0 24 v) (h : DataW.Trod enc Try.prog w base spare held 24 v d p) :
    ∃ (x : Sup) (a1 : Option Addr) (l1 c1 : Nat) (a2 : Option Addr) (l2 c2 : Nat), SupIn w x a1 l1 c1 a2 l2 c2 ∧ v = supV x (.slice a1 l1 c1) (.slice a2 l2 c2) := by
  obtain ⟨cs, rfl, hsz⟩ := Go.WideShapes.okWide_struct Try.underlying24 hv
  rw [cells_super] at hsz
  obtain ⟨fuel, ht⟩ := h
  obtain ⟨cs', hcs⟩ : ∃ l, cs.toList = l := ⟨_, rfl⟩
  have hcl : cs'.length = 6 := by rw [← hcs, Array.length_toList]; exact hsz
  change DataW.trod enc Try.prog w base spare held fuel 24 cs.toList = some (d, p) at ht
  rw [hcs] at ht
  obtain ⟨ys, n', _, _, _, hyl, hf⟩ := DataW.trod_struct Try.underlying24 ht
  have hys : ys.length = 6 := hyl
  have gi : ∀ j, j < 4 → DataW.trod enc Try.prog w base spare held n' 3 ((cs'.drop j).take 1) = ys[j]? := by
    intro j hj
    rcases (by omega : j = 0 ∨ j = 1 ∨ j = 2 ∨ j = 3) with rfl | rfl | rfl | rfl
    · have h := hf 0 _ rfl
      change DataW.trod enc Try.prog w base spare held n' 3 ((cs'.drop 0).take (Try.prog.cellsOf 3)) = ys[0]? at h
      rw [cells_int] at h; exact h
    · have h := hf 1 _ rfl
      change DataW.trod enc Try.prog w base spare held n' 3 ((cs'.drop 1).take (Try.prog.cellsOf 3)) = ys[1]? at h
      rw [cells_int] at h; exact h
    · have h := hf 2 _ rfl
      change DataW.trod enc Try.prog w base spare held n' 3 ((cs'.drop 2).take (Try.prog.cellsOf 3)) = ys[2]? at h
      rw [cells_int] at h; exact h
    · have h := hf 3 _ rfl
      change DataW.trod enc Try.prog w base spare held n' 3 ((cs'.drop 3).take (Try.prog.cellsOf 3)) = ys[3]? at h
      rw [cells_int] at h; exact h
  have g4 : DataW.trod enc Try.prog w base spare held n' 22 ((cs'.drop 4).take 1) = ys[4]? := by
    have h := hf 4 _ rfl
    change DataW.trod enc Try.prog w base spare held n' 22 ((cs'.drop 4).take (Try.prog.cellsOf 22)) = ys[4]? at h
    rw [cells_ints] at h; exact h
  have g5 : DataW.trod enc Try.prog w base spare held n' 22 ((cs'.drop 5).take 1) = ys[5]? := by
    have h := hf 5 _ rfl
    change DataW.trod enc Try.prog w base spare held n' 22 ((cs'.drop 5).take (Try.prog.cellsOf 22)) = ys[5]? at h
    rw [cells_ints] at h; exact h
  obtain ⟨k0, v0, w0⟩ := field_int Try.underlying3 (show 0 < cs'.length by omega) (show (ys[0]?).isSome = true by simp [hys]) (gi 0 (by decide))
  obtain ⟨k1, v1, _⟩ := field_int Try.underlying3 (show 1 < cs'.length by omega) (show (ys[1]?).isSome = true by simp [hys]) (gi 1 (by decide))
  obtain ⟨k2, v2, _⟩ := field_int Try.underlying3 (show 2 < cs'.length by omega) (show (ys[2]?).isSome = true by simp [hys]) (gi 2 (by decide))
  obtain ⟨k3, v3, _⟩ := field_int Try.underlying3 (show 3 < cs'.length by omega) (show (ys[3]?).isSome = true by simp [hys]) (gi 3 (by decide))
  obtain ⟨a1, l1, c1, z1, v4, i1, b1, m1⟩ := field_ints (show 4 < cs'.length by omega) (show (ys[4]?).isSome = true by simp [hys]) g4
  obtain ⟨a2, l2, c2, z2, v5, i2, b2, m2⟩ := field_ints (show 5 < cs'.length by omega) (show (ys[5]?).isSome = true by simp [hys]) g5
  refine ⟨⟨k0, k1, k2, k3, z1, z2⟩, a1, l1, c1, a2, l2, c2, ⟨⟨i1, i2, b1, b2⟩, m1, m2, (bounds_i64 w0).1, (bounds_i64 w0).2⟩, ?_⟩
  unfold supV
  congr 1
  apply Array.toList_inj.1
  rw [hcs]
  apply List.ext_getElem?
  intro i
  match i with
  | 0 => rw [v0]; rfl
  | 1 => rw [v1]; rfl
  | 2 => rw [v2]; rfl
  | 3 => rw [v3]; rfl
  | 4 => rw [v4]; rfl
  | 5 => rw [v5]; rfl
  | i + 6 => rw [List.getElem?_eq_none (by omega)]; rfl
end Go.Proofs.Ytigiaiddnbpcmaa
