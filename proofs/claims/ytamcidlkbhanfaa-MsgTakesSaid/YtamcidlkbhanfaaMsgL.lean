/-
  Envelopes loaded and stored whole, a step each.
-/
import Derived.Test.YtamcidlkbhanfaaKt17
import Derived.Test.YtamcidlkbhanfaaBig
set_option linter.unusedVariables false
set_option linter.unusedSimpArgs false
set_option maxRecDepth 4000
namespace Go.Proofs.Ytamcidlkbhanfaa.Msg
open Go.RowKit
open Go.Proofs.Ytamcidlkbhanfaa.Kt
variable {ops : Array Oper} {rest : List Oper} {op : Oper} {a : Act} {w : World} {Q : Exit → Act → World → Prop} {b : Nat} {v0 v1 v2 v3 v4 v5 v6 v7 v8 v9 v10 v11 v12 v13 v14 v15 v16 : Value}
theorem range17 (h : At17 27 w b v0 v1 v2 v3 v4 v5 v6 v7 v8 v9 v10 v11 v12 v13 v14 v15 v16) : w.rangeAt b 0 [v0, v1, v2, v3, v4, v5, v6, v7, v8, v9, v10, v11, v12, v13, v14, v15, v16] := fun j v hv => by rw [Nat.zero_add, cell_of_heap h]; simpa using hv
theorem ld17 (hA : At17 27 w b v0 v1 v2 v3 v4 v5 v6 v7 v8 v9 v10 v11 v12 v13 v14 v15 v16) (x : Operand) (hw : Region.wanted op (yielded ops a.tmps) = true) (ho : op.op = .load 27 x) (hx : a.eval x = .pointer (some ⟨b, 0, none⟩))
    (h : wpList Try.prog ops Q rest (a.put op.dst (.agg #[v0, v1, v2, v3, v4, v5, v6, v7, v8, v9, v10, v11, v12, v13, v14, v15, v16])) w) : wpList Try.prog ops Q (op :: rest) a w :=
  Big.step_load hw 27 x ho b 0 hx [v0, v1, v2, v3, v4, v5, v6, v7, v8, v9, v10, v11, v12, v13, v14, v15, v16] _ (range17 hA) Try.underlying27 rfl (by kernel_rfl) h
theorem there17 (h : At17 27 w b v0 v1 v2 v3 v4 v5 v6 v7 v8 v9 v10 v11 v12 v13 v14 v15 v16) : w.there b 0 17 := fun j hj => by
  rw [Nat.zero_add]
  refine ⟨?_, frozen_of_heap h⟩
  rw [cell_of_heap h]
  simpa using hj
theorem st17 {x0 x1 x2 x3 x4 x5 x6 x7 x8 x9 x10 x11 x12 x13 x14 x15 x16 : Value} (hA : At17 27 w b x0 x1 x2 x3 x4 x5 x6 x7 x8 x9 x10 x11 x12 x13 x14 x15 x16) (x y : Operand) (hgd : op.guard = none) (ho : op.op = .store 27 x y) (hx : a.eval x = .pointer (some ⟨b, 0, none⟩)) (hy : a.eval y = .agg #[v0, v1, v2, v3, v4, v5, v6, v7, v8, v9, v10, v11, v12, v13, v14, v15, v16])
    (h1 : ([v0, v1, v2, v3, v4, v5, v6, v7, v8, v9, v10, v11, v12, v13, v14, v15, v16] : List Value).all (·.oneCell') = true) (h : wpList Try.prog ops Q rest (a.put op.dst undef) (put17 w b v0 v1 v2 v3 v4 v5 v6 v7 v8 v9 v10 v11 v12 v13 v14 v15 v16)) : wpList Try.prog ops Q (op :: rest) a w :=
  wpList_store_mid hgd 27 x y ho b 0 #[v0, v1, v2, v3, v4, v5, v6, v7, v8, v9, v10, v11, v12, v13, v14, v15, v16] hx hy (there17 hA) (by kernel_rfl) (by rw [← Array.all_toList]; exact h1) h
theorem qw17 {C : World → Prop} {Q : Act → Prop} (hA : ∀ w, C w → At17 27 w b v0 v1 v2 v3 v4 v5 v6 v7 v8 v9 v10 v11 v12 v13 v14 v15 v16) (x : Operand) (hw : Region.wanted op (yielded ops a.tmps) = true) (ho : op.op = .load 27 x) (hx : a.eval x = .pointer (some ⟨b, 0, none⟩))
    (h : Qw Try.prog ops C Q rest (a.put op.dst (.agg #[v0, v1, v2, v3, v4, v5, v6, v7, v8, v9, v10, v11, v12, v13, v14, v15, v16]))) : Qw Try.prog ops C Q (op :: rest) a :=
  Big.qw_load hw 27 x ho b 0 hx [v0, v1, v2, v3, v4, v5, v6, v7, v8, v9, v10, v11, v12, v13, v14, v15, v16] _ (fun w hw => range17 (hA w hw)) Try.underlying27 rfl (by kernel_rfl) h
end Go.Proofs.Ytamcidlkbhanfaa.Msg
