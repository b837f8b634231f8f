/-
  The contract of the laws' own awake: the chapter's example.
-/
import Derived.Test.YtjhfhklgmbghnaaStockD
set_option linter.unusedVariables false
set_option maxRecDepth 4000
namespace Go.Proofs.Ytjhfhklgmbghnaa
open Go.RowKit StockP

/-- A new block behind a world, stored into: what was there stays, the new cells are known. -/
structure Slot (w c : World) (b : Nat) (v0 v1 v2 v3 v4 v5 : Value) : Prop where
  bel : Below w.heap.size w c
  own : At6 c w.heap.size v0 v1 v2 v3 v4 v5
theorem slot_new (w : World) (v0 v1 v2 v3 v4 v5 : Value) : Slot w (w.alloc (.cells #[v0, v1, v2, v3, v4, v5] 23)) w.heap.size v0 v1 v2 v3 v4 v5 := ⟨(Below.refl _ w).alloc (Nat.le_refl _) _, at6_new w _ _ _ _ _ _⟩
theorem below_on {B : Nat} {a b c : World} (h : Below B a b) (hB : B ≤ b.heap.size) (k : Below b.heap.size b c) : Below B a c := h.trans (k.mono hB)
theorem tea_name : nmS ⟨#[116, 101, 97]⟩ = true := by decide +kernel
theorem ex_new : newV ⟨#[116, 101, 97]⟩ = (⟨⟨#[116, 101, 97]⟩, 0, 0, 0, 0, 0⟩, 0) := by unfold newV; rw [if_pos tea_name]
theorem ex_five : restockV ⟨⟨#[116, 101, 97]⟩, 0, 0, 0, 0, 0⟩ 5 = (⟨⟨#[116, 101, 97]⟩, 5, 0, 0, 0, 5⟩, 0) := by
  unfold restockV; rw [if_pos (by decide +kernel), if_pos (by decide), if_neg (by decide)]; rfl
theorem ex_three : moveV ⟨⟨#[116, 101, 97]⟩, 5, 0, 0, 0, 5⟩ 1 3 = (⟨⟨#[116, 101, 97]⟩, 2, 3, 0, 0, 5⟩, 0) := by
  unfold moveV; rw [if_pos (by decide +kernel), if_pos (by decide), if_neg (by decide)]; rfl
theorem ex_short : moveV ⟨⟨#[116, 101, 97]⟩, 2, 3, 0, 0, 5⟩ 1 3 = (⟨⟨#[]⟩, 0, 0, 0, 0, 0⟩, 6) := by
  unfold moveV; rw [if_pos (by decide +kernel), if_pos (by decide), if_pos (by decide)]; rfl

theorem awake_any (w : World) : Calls Try.prog 7 #[] w fun z w' => z = .returned (.bool true) ∧ Below w.heap.size w w' := by
  have H1 := Lib.hid (fun w => snew_is _ _ _ w (by decide) ex_new)
  have H2 := Lib.hid (fun w => srestock_is _ _ _ _ w (by decide) ex_five)
  have H3 := Lib.hid (fun w => shold_is _ _ _ _ w (by decide) ex_three)
  have H4 := Lib.hid (fun w => shold_is _ _ _ _ w (by decide) ex_short)
  go_enter Try.func7, Try.ntmps7
  have HB0 := Lib.hid (Below.refl w.heap.size w)
  go_wp2_with fail
  refine (H1.out _).mono ?_
  rintro z w1 ⟨rfl, hb⟩
  have HB1 := Lib.hid (below_on HB0.out HB0.out.size hb)
  clear hb HB0
  go_wp2_with fail
  refine (H2.out _).mono ?_
  rintro z w2 ⟨rfl, hb⟩
  have HB2 := Lib.hid (below_on (HB1.out.alloc HB1.out.size _) (by have := HB1.out.size; rw [World.size_alloc]; omega) hb)
  have A1 := Lib.hid ((at6_new w1 (.string ⟨#[116, 101, 97]⟩) (.int .i64 0) (.int .i64 0) (.int .i64 0) (.int .i64 0) (.int .i64 0)).keep hb)
  clear hb HB1
  go_wp2_with fail
  refine (H3.out _).mono ?_
  rintro z w3 ⟨rfl, hb⟩
  have HB3 := Lib.hid (below_on (HB2.out.alloc HB2.out.size _) (by have := HB2.out.size; rw [World.size_alloc]; omega) hb)
  have A1x := Lib.hid ((A1.out.alloc _).keep hb)
  clear A1
  have A1 := A1x; clear A1x
  have A2 := Lib.hid ((at6_new w2 (.string ⟨#[116, 101, 97]⟩) (.int .i64 5) (.int .i64 0) (.int .i64 0) (.int .i64 0) (.int .i64 5)).keep hb)
  clear hb HB2
  go_wp2_with fail
  refine (H4.out _).mono ?_
  rintro z w4 ⟨rfl, hb⟩
  have HB4 := Lib.hid (below_on (HB3.out.alloc HB3.out.size _) (by have := HB3.out.size; rw [World.size_alloc]; omega) hb)
  clear A1
  clear A2
  have A3 := Lib.hid ((at6_new w3 (.string ⟨#[116, 101, 97]⟩) (.int .i64 2) (.int .i64 3) (.int .i64 0) (.int .i64 0) (.int .i64 5)).keep hb)
  clear hb HB3
  obtain ⟨p3_0, p3_1, p3_2, p3_3, p3_4, p3_5⟩ := cells6 A3.out
  have r3_0 := fun o => Lib.cell?_alloc_some o p3_0
  have r3_1 := fun o => Lib.cell?_alloc_some o p3_1
  have r3_2 := fun o => Lib.cell?_alloc_some o p3_2
  have r3_3 := fun o => Lib.cell?_alloc_some o p3_3
  have r3_4 := fun o => Lib.cell?_alloc_some o p3_4
  have r3_5 := fun o => Lib.cell?_alloc_some o p3_5
  go_wp2_with fail
  go_ret
  exact ⟨rfl, HB4.out.alloc HB4.out.size _⟩
end Go.Proofs.Ytjhfhklgmbghnaa
