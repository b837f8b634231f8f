/-
  What a law of msg is told of what came in: an envelope, an entry, a reply by value.
-/
import Derived.Test.YtamcidlkbhanfaaMsgA
import Derived.Test.YtamcidlkbhanfaaRows
import Derived.OpenShut
import Derived.Deep.Slices
import Derived.WideShapes
set_option linter.unusedVariables false
set_option linter.unusedSimpArgs false
set_option maxRecDepth 4000
namespace Go.Proofs.Ytamcidlkbhanfaa
open Go.RowKit MsgP

theorem cells_int : Try.prog.cellsOf 3 = 1 := by kernel_rfl
theorem cells_bool : Try.prog.cellsOf 4 = 1 := by kernel_rfl
theorem cells_entry : Try.prog.cellsOf 23 = 7 := by kernel_rfl
theorem cells_reply : Try.prog.cellsOf 25 = 7 := by kernel_rfl
theorem cells_envelope : Try.prog.cellsOf 27 = 17 := by kernel_rfl
theorem i64_wf {n : Int} (h : (Lit.int .i64 n).wf = true) : I64 n := (bounds_i64 h)
/-- An envelope whose numbers are of 64 bits. -/
structure V64 (x : Ev) : Prop where
  num : I64 x.num
  service : I64 x.service
  entry : E64 x.entry
  reply : R64 x.reply
theorem entry_cells {H : Type} {enc : TypeId × Value → H} {w : World} {base : Nat} {spare : Nat → Bool} {held : Bool} {fuel : Nat} {cs' : List Value} {y : DataW H × List MemPlace} (hcl : cs'.length = 7)
    (ht : DataW.trod enc Try.prog w base spare held fuel 23 cs' = some y) : ∃ (x0 : Int) (x1 : Int) (x2 : Int) (x3 : Bool) (x4 : Int) (x5 : Int) (x6 : Bool), E64 ⟨x0, x1, x2, x3, x4, x5, x6⟩ ∧ cs' = [.int .i64 x0, .int .i64 x1, .int .i64 x2, .bool x3, .int .i64 x4, .int .i64 x5, .bool x6] := by
  obtain ⟨ys, n', _, _, _, hyl, hf⟩ := DataW.trod_struct Try.underlying23 ht
  have hys : ys.length = 7 := hyl
  have g0 : DataW.trod enc Try.prog w base spare held n' 3 ((cs'.drop 0).take 1) = ys[0]? := by
    have h := hf 0 _ rfl
    change DataW.trod enc Try.prog w base spare held n' 3 ((cs'.drop 0).take (Try.prog.cellsOf 3)) = ys[0]? at h
    rw [cells_int] at h
    exact h
  obtain ⟨z0, hz0⟩ : ∃ z, ys[0]? = some z := ⟨_, List.getElem?_eq_getElem (by omega)⟩
  obtain ⟨x0, hx0, _, hw0⟩ := DataW.trod_int Try.underlying3 (g0.trans hz0)
  have g1 : DataW.trod enc Try.prog w base spare held n' 3 ((cs'.drop 1).take 1) = ys[1]? := by
    have h := hf 1 _ rfl
    change DataW.trod enc Try.prog w base spare held n' 3 ((cs'.drop 1).take (Try.prog.cellsOf 3)) = ys[1]? at h
    rw [cells_int] at h
    exact h
  obtain ⟨z1, hz1⟩ : ∃ z, ys[1]? = some z := ⟨_, List.getElem?_eq_getElem (by omega)⟩
  obtain ⟨x1, hx1, _, hw1⟩ := DataW.trod_int Try.underlying3 (g1.trans hz1)
  have g2 : DataW.trod enc Try.prog w base spare held n' 3 ((cs'.drop 2).take 1) = ys[2]? := by
    have h := hf 2 _ rfl
    change DataW.trod enc Try.prog w base spare held n' 3 ((cs'.drop 2).take (Try.prog.cellsOf 3)) = ys[2]? at h
    rw [cells_int] at h
    exact h
  obtain ⟨z2, hz2⟩ : ∃ z, ys[2]? = some z := ⟨_, List.getElem?_eq_getElem (by omega)⟩
  obtain ⟨x2, hx2, _, hw2⟩ := DataW.trod_int Try.underlying3 (g2.trans hz2)
  have g3 : DataW.trod enc Try.prog w base spare held n' 4 ((cs'.drop 3).take 1) = ys[3]? := by
    have h := hf 3 _ rfl
    change DataW.trod enc Try.prog w base spare held n' 4 ((cs'.drop 3).take (Try.prog.cellsOf 4)) = ys[3]? at h
    rw [cells_bool] at h
    exact h
  obtain ⟨z3, hz3⟩ : ∃ z, ys[3]? = some z := ⟨_, List.getElem?_eq_getElem (by omega)⟩
  obtain ⟨x3, hx3, _⟩ := DataW.trod_bool Try.underlying4 (g3.trans hz3)
  have g4 : DataW.trod enc Try.prog w base spare held n' 3 ((cs'.drop 4).take 1) = ys[4]? := by
    have h := hf 4 _ rfl
    change DataW.trod enc Try.prog w base spare held n' 3 ((cs'.drop 4).take (Try.prog.cellsOf 3)) = ys[4]? at h
    rw [cells_int] at h
    exact h
  obtain ⟨z4, hz4⟩ : ∃ z, ys[4]? = some z := ⟨_, List.getElem?_eq_getElem (by omega)⟩
  obtain ⟨x4, hx4, _, hw4⟩ := DataW.trod_int Try.underlying3 (g4.trans hz4)
  have g5 : DataW.trod enc Try.prog w base spare held n' 3 ((cs'.drop 5).take 1) = ys[5]? := by
    have h := hf 5 _ rfl
    change DataW.trod enc Try.prog w base spare held n' 3 ((cs'.drop 5).take (Try.prog.cellsOf 3)) = ys[5]? at h
    rw [cells_int] at h
    exact h
  obtain ⟨z5, hz5⟩ : ∃ z, ys[5]? = some z := ⟨_, List.getElem?_eq_getElem (by omega)⟩
  obtain ⟨x5, hx5, _, hw5⟩ := DataW.trod_int Try.underlying3 (g5.trans hz5)
  have g6 : DataW.trod enc Try.prog w base spare held n' 4 ((cs'.drop 6).take 1) = ys[6]? := by
    have h := hf 6 _ rfl
    change DataW.trod enc Try.prog w base spare held n' 4 ((cs'.drop 6).take (Try.prog.cellsOf 4)) = ys[6]? at h
    rw [cells_bool] at h
    exact h
  obtain ⟨z6, hz6⟩ : ∃ z, ys[6]? = some z := ⟨_, List.getElem?_eq_getElem (by omega)⟩
  obtain ⟨x6, hx6, _⟩ := DataW.trod_bool Try.underlying4 (g6.trans hz6)
  match cs', hcl with
  | [a, b, c, d, e, f, g], _ =>
    simp at hx0 hx1 hx2 hx3 hx4 hx5 hx6
    refine ⟨x0, x1, x2, x3, x4, x5, x6, ⟨i64_wf hw0, i64_wf hw1, i64_wf hw2, i64_wf hw4, i64_wf hw5⟩, ?_⟩
    simp only [hx0, hx1, hx2, hx3, hx4, hx5, hx6, List.cons.injEq, and_true, and_self]
theorem openEntry {H : Type} {enc : TypeId × Value → H} {w : World} {r : Reach} {b0 base : Nat} {spare : Nat → Bool} {held : Bool} {v : Value} {d : DataW H} {p : List MemPlace}
    (hv : Value.okWide Try.prog w r b0 23 v) (h : DataW.Trod enc Try.prog w base spare held 23 v d p) :
    ∃ (x0 : Int) (x1 : Int) (x2 : Int) (x3 : Bool) (x4 : Int) (x5 : Int) (x6 : Bool), E64 ⟨x0, x1, x2, x3, x4, x5, x6⟩ ∧ v = .agg #[.int .i64 x0, .int .i64 x1, .int .i64 x2, .bool x3, .int .i64 x4, .int .i64 x5, .bool x6] := by
  obtain ⟨cs, rfl, hsz⟩ := Go.WideShapes.okWide_struct Try.underlying23 hv
  rw [cells_entry] at hsz
  obtain ⟨fuel, ht⟩ := h
  change DataW.trod enc Try.prog w base spare held fuel 23 cs.toList = some (d, p) at ht
  obtain ⟨x0, x1, x2, x3, x4, x5, x6, hf, e⟩ := entry_cells (by rw [Array.length_toList]; exact hsz) ht
  exact ⟨x0, x1, x2, x3, x4, x5, x6, hf, by rw [← Array.toArray_toList (xs := cs), e]⟩
theorem reply_cells {H : Type} {enc : TypeId × Value → H} {w : World} {base : Nat} {spare : Nat → Bool} {held : Bool} {fuel : Nat} {cs' : List Value} {y : DataW H × List MemPlace} (hcl : cs'.length = 7)
    (ht : DataW.trod enc Try.prog w base spare held fuel 25 cs' = some y) : ∃ (r0 : Int) (r1 : Int) (r2 : Int) (r3 : Int) (r4 : Bool) (r5 : Int) (r6 : Int), R64 ⟨r0, r1, r2, r3, r4, r5, r6⟩ ∧ cs' = [.int .i64 r0, .int .i64 r1, .int .i64 r2, .int .i64 r3, .bool r4, .int .i64 r5, .int .i64 r6] := by
  obtain ⟨ys, n', _, _, _, hyl, hf⟩ := DataW.trod_struct Try.underlying25 ht
  have hys : ys.length = 7 := hyl
  have g0 : DataW.trod enc Try.prog w base spare held n' 3 ((cs'.drop 0).take 1) = ys[0]? := by
    have h := hf 0 _ rfl
    change DataW.trod enc Try.prog w base spare held n' 3 ((cs'.drop 0).take (Try.prog.cellsOf 3)) = ys[0]? at h
    rw [cells_int] at h
    exact h
  obtain ⟨z0, hz0⟩ : ∃ z, ys[0]? = some z := ⟨_, List.getElem?_eq_getElem (by omega)⟩
  obtain ⟨r0, hx0, _, hw0⟩ := DataW.trod_int Try.underlying3 (g0.trans hz0)
  have g1 : DataW.trod enc Try.prog w base spare held n' 3 ((cs'.drop 1).take 1) = ys[1]? := by
    have h := hf 1 _ rfl
    change DataW.trod enc Try.prog w base spare held n' 3 ((cs'.drop 1).take (Try.prog.cellsOf 3)) = ys[1]? at h
    rw [cells_int] at h
    exact h
  obtain ⟨z1, hz1⟩ : ∃ z, ys[1]? = some z := ⟨_, List.getElem?_eq_getElem (by omega)⟩
  obtain ⟨r1, hx1, _, hw1⟩ := DataW.trod_int Try.underlying3 (g1.trans hz1)
  have g2 : DataW.trod enc Try.prog w base spare held n' 3 ((cs'.drop 2).take 1) = ys[2]? := by
    have h := hf 2 _ rfl
    change DataW.trod enc Try.prog w base spare held n' 3 ((cs'.drop 2).take (Try.prog.cellsOf 3)) = ys[2]? at h
    rw [cells_int] at h
    exact h
  obtain ⟨z2, hz2⟩ : ∃ z, ys[2]? = some z := ⟨_, List.getElem?_eq_getElem (by omega)⟩
  obtain ⟨r2, hx2, _, hw2⟩ := DataW.trod_int Try.underlying3 (g2.trans hz2)
  have g3 : DataW.trod enc Try.prog w base spare held n' 3 ((cs'.drop 3).take 1) = ys[3]? := by
    have h := hf 3 _ rfl
    change DataW.trod enc Try.prog w base spare held n' 3 ((cs'.drop 3).take (Try.prog.cellsOf 3)) = ys[3]? at h
    rw [cells_int] at h
    exact h
  obtain ⟨z3, hz3⟩ : ∃ z, ys[3]? = some z := ⟨_, List.getElem?_eq_getElem (by omega)⟩
  obtain ⟨r3, hx3, _, hw3⟩ := DataW.trod_int Try.underlying3 (g3.trans hz3)
  have g4 : DataW.trod enc Try.prog w base spare held n' 4 ((cs'.drop 4).take 1) = ys[4]? := by
    have h := hf 4 _ rfl
    change DataW.trod enc Try.prog w base spare held n' 4 ((cs'.drop 4).take (Try.prog.cellsOf 4)) = ys[4]? at h
    rw [cells_bool] at h
    exact h
  obtain ⟨z4, hz4⟩ : ∃ z, ys[4]? = some z := ⟨_, List.getElem?_eq_getElem (by omega)⟩
  obtain ⟨r4, hx4, _⟩ := DataW.trod_bool Try.underlying4 (g4.trans hz4)
  have g5 : DataW.trod enc Try.prog w base spare held n' 3 ((cs'.drop 5).take 1) = ys[5]? := by
    have h := hf 5 _ rfl
    change DataW.trod enc Try.prog w base spare held n' 3 ((cs'.drop 5).take (Try.prog.cellsOf 3)) = ys[5]? at h
    rw [cells_int] at h
    exact h
  obtain ⟨z5, hz5⟩ : ∃ z, ys[5]? = some z := ⟨_, List.getElem?_eq_getElem (by omega)⟩
  obtain ⟨r5, hx5, _, hw5⟩ := DataW.trod_int Try.underlying3 (g5.trans hz5)
  have g6 : DataW.trod enc Try.prog w base spare held n' 3 ((cs'.drop 6).take 1) = ys[6]? := by
    have h := hf 6 _ rfl
    change DataW.trod enc Try.prog w base spare held n' 3 ((cs'.drop 6).take (Try.prog.cellsOf 3)) = ys[6]? at h
    rw [cells_int] at h
    exact h
  obtain ⟨z6, hz6⟩ : ∃ z, ys[6]? = some z := ⟨_, List.getElem?_eq_getElem (by omega)⟩
  obtain ⟨r6, hx6, _, hw6⟩ := DataW.trod_int Try.underlying3 (g6.trans hz6)
  match cs', hcl with
  | [a, b, c, d, e, f, g], _ =>
    simp at hx0 hx1 hx2 hx3 hx4 hx5 hx6
    refine ⟨r0, r1, r2, r3, r4, r5, r6, ⟨i64_wf hw0, i64_wf hw1, i64_wf hw2, i64_wf hw3, i64_wf hw5, i64_wf hw6⟩, ?_⟩
    simp only [hx0, hx1, hx2, hx3, hx4, hx5, hx6, List.cons.injEq, and_true, and_self]
theorem openReply {H : Type} {enc : TypeId × Value → H} {w : World} {r : Reach} {b0 base : Nat} {spare : Nat → Bool} {held : Bool} {v : Value} {d : DataW H} {p : List MemPlace}
    (hv : Value.okWide Try.prog w r b0 25 v) (h : DataW.Trod enc Try.prog w base spare held 25 v d p) :
    ∃ (r0 : Int) (r1 : Int) (r2 : Int) (r3 : Int) (r4 : Bool) (r5 : Int) (r6 : Int), R64 ⟨r0, r1, r2, r3, r4, r5, r6⟩ ∧ v = .agg #[.int .i64 r0, .int .i64 r1, .int .i64 r2, .int .i64 r3, .bool r4, .int .i64 r5, .int .i64 r6] := by
  obtain ⟨cs, rfl, hsz⟩ := Go.WideShapes.okWide_struct Try.underlying25 hv
  rw [cells_reply] at hsz
  obtain ⟨fuel, ht⟩ := h
  change DataW.trod enc Try.prog w base spare held fuel 25 cs.toList = some (d, p) at ht
  obtain ⟨r0, r1, r2, r3, r4, r5, r6, hf, e⟩ := reply_cells (by rw [Array.length_toList]; exact hsz) ht
  exact ⟨r0, r1, r2, r3, r4, r5, r6, hf, by rw [← Array.toArray_toList (xs := cs), e]⟩
theorem envelope_cells {H : Type} {enc : TypeId × Value → H} {w : World} {base : Nat} {spare : Nat → Bool} {held : Bool} {fuel : Nat} {cs' : List Value} {y : DataW H × List MemPlace} (hcl : cs'.length = 17)
    (ht : DataW.trod enc Try.prog w base spare held fuel 27 cs' = some y) : ∃ (n0 : Int) (n1 : Bool) (n2 : Int) (x0 : Int) (x1 : Int) (x2 : Int) (x3 : Bool) (x4 : Int) (x5 : Int) (x6 : Bool) (r0 : Int) (r1 : Int) (r2 : Int) (r3 : Int) (r4 : Bool) (r5 : Int) (r6 : Int), V64 ⟨n0, n1, n2, ⟨x0, x1, x2, x3, x4, x5, x6⟩, ⟨r0, r1, r2, r3, r4, r5, r6⟩⟩ ∧ cs' = [.int .i64 n0, .bool n1, .int .i64 n2, .int .i64 x0, .int .i64 x1, .int .i64 x2, .bool x3, .int .i64 x4, .int .i64 x5, .bool x6, .int .i64 r0, .int .i64 r1, .int .i64 r2, .int .i64 r3, .bool r4, .int .i64 r5, .int .i64 r6] := by
  obtain ⟨ys, n', _, _, _, hyl, hf⟩ := DataW.trod_struct Try.underlying27 ht
  have hys : ys.length = 5 := hyl
  have g0 : DataW.trod enc Try.prog w base spare held n' 3 ((cs'.drop 0).take 1) = ys[0]? := by
    have h := hf 0 _ rfl
    change DataW.trod enc Try.prog w base spare held n' 3 ((cs'.drop 0).take (Try.prog.cellsOf 3)) = ys[0]? at h
    rw [cells_int] at h
    exact h
  obtain ⟨z0, hz0⟩ : ∃ z, ys[0]? = some z := ⟨_, List.getElem?_eq_getElem (by omega)⟩
  obtain ⟨n0, hx0, _, hw0⟩ := DataW.trod_int Try.underlying3 (g0.trans hz0)
  have g1 : DataW.trod enc Try.prog w base spare held n' 4 ((cs'.drop 1).take 1) = ys[1]? := by
    have h := hf 1 _ rfl
    change DataW.trod enc Try.prog w base spare held n' 4 ((cs'.drop 1).take (Try.prog.cellsOf 4)) = ys[1]? at h
    rw [cells_bool] at h
    exact h
  obtain ⟨z1, hz1⟩ : ∃ z, ys[1]? = some z := ⟨_, List.getElem?_eq_getElem (by omega)⟩
  obtain ⟨n1, hx1, _⟩ := DataW.trod_bool Try.underlying4 (g1.trans hz1)
  have g2 : DataW.trod enc Try.prog w base spare held n' 3 ((cs'.drop 2).take 1) = ys[2]? := by
    have h := hf 2 _ rfl
    change DataW.trod enc Try.prog w base spare held n' 3 ((cs'.drop 2).take (Try.prog.cellsOf 3)) = ys[2]? at h
    rw [cells_int] at h
    exact h
  obtain ⟨z2, hz2⟩ : ∃ z, ys[2]? = some z := ⟨_, List.getElem?_eq_getElem (by omega)⟩
  obtain ⟨n2, hx2, _, hw2⟩ := DataW.trod_int Try.underlying3 (g2.trans hz2)
  have g3 : DataW.trod enc Try.prog w base spare held n' 23 ((cs'.drop 3).take 7) = ys[3]? := by
    have h := hf 3 _ rfl
    change DataW.trod enc Try.prog w base spare held n' 23 ((cs'.drop 3).take (Try.prog.cellsOf 23)) = ys[3]? at h
    rw [cells_entry] at h
    exact h
  obtain ⟨z3, hz3⟩ : ∃ z, ys[3]? = some z := ⟨_, List.getElem?_eq_getElem (by omega)⟩
  obtain ⟨x0, x1, x2, x3, x4, x5, x6, hw3, hx3⟩ := entry_cells (by rw [List.length_take, List.length_drop, hcl]; rfl) (g3.trans hz3)
  have g4 : DataW.trod enc Try.prog w base spare held n' 25 ((cs'.drop 10).take 7) = ys[4]? := by
    have h := hf 4 _ rfl
    change DataW.trod enc Try.prog w base spare held n' 25 ((cs'.drop 10).take (Try.prog.cellsOf 25)) = ys[4]? at h
    rw [cells_reply] at h
    exact h
  obtain ⟨z4, hz4⟩ : ∃ z, ys[4]? = some z := ⟨_, List.getElem?_eq_getElem (by omega)⟩
  obtain ⟨r0, r1, r2, r3, r4, r5, r6, hw4, hx4⟩ := reply_cells (by rw [List.length_take, List.length_drop, hcl]; rfl) (g4.trans hz4)
  match cs', hcl with
  | [a, b, c, d, e, f, g, h, i, j, k, l, m, n, o, p, q], _ =>
    simp at hx0 hx1 hx2 hx3 hx4
    refine ⟨n0, n1, n2, x0, x1, x2, x3, x4, x5, x6, r0, r1, r2, r3, r4, r5, r6, ⟨i64_wf hw0, i64_wf hw2, hw3, hw4⟩, ?_⟩
    simp only [hx0, hx1, hx2, hx3, hx4, List.cons.injEq, and_true, and_self]
theorem openEnvelope {H : Type} {enc : TypeId × Value → H} {w : World} {r : Reach} {b0 base : Nat} {spare : Nat → Bool} {held : Bool} {v : Value} {d : DataW H} {p : List MemPlace}
    (hv : Value.okWide Try.prog w r b0 27 v) (h : DataW.Trod enc Try.prog w base spare held 27 v d p) :
    ∃ (n0 : Int) (n1 : Bool) (n2 : Int) (x0 : Int) (x1 : Int) (x2 : Int) (x3 : Bool) (x4 : Int) (x5 : Int) (x6 : Bool) (r0 : Int) (r1 : Int) (r2 : Int) (r3 : Int) (r4 : Bool) (r5 : Int) (r6 : Int), V64 ⟨n0, n1, n2, ⟨x0, x1, x2, x3, x4, x5, x6⟩, ⟨r0, r1, r2, r3, r4, r5, r6⟩⟩ ∧ v = .agg #[.int .i64 n0, .bool n1, .int .i64 n2, .int .i64 x0, .int .i64 x1, .int .i64 x2, .bool x3, .int .i64 x4, .int .i64 x5, .bool x6, .int .i64 r0, .int .i64 r1, .int .i64 r2, .int .i64 r3, .bool r4, .int .i64 r5, .int .i64 r6] := by
  obtain ⟨cs, rfl, hsz⟩ := Go.WideShapes.okWide_struct Try.underlying27 hv
  rw [cells_envelope] at hsz
  obtain ⟨fuel, ht⟩ := h
  change DataW.trod enc Try.prog w base spare held fuel 27 cs.toList = some (d, p) at ht
  obtain ⟨n0, n1, n2, x0, x1, x2, x3, x4, x5, x6, r0, r1, r2, r3, r4, r5, r6, hf, e⟩ := envelope_cells (by rw [Array.length_toList]; exact hsz) ht
  exact ⟨n0, n1, n2, x0, x1, x2, x3, x4, x5, x6, r0, r1, r2, r3, r4, r5, r6, hf, by rw [← Array.toArray_toList (xs := cs), e]⟩
end Go.Proofs.Ytamcidlkbhanfaa
