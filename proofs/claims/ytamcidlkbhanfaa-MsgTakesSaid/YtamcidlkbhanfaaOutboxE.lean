/-
  The contracts of slices.AppendSeq and slices.Collect at entries, whatever iterator hands them out; of Drop and Since: any entries; what was there stays as it was.
-/
import Derived.Test.YtamcidlkbhanfaaOutboxD
import Derived.RangeFuncBox
set_option linter.unusedVariables false
set_option linter.unusedSimpArgs false
set_option maxRecDepth 4000
set_option maxRecDepth 4000
namespace Go.Proofs.Ytamcidlkbhanfaa.Outbox
open Go.RowKit OutP
open Go.Proofs.Ytamcidlkbhanfaa.Kt
open Go.Proofs.Ytamcidlkbhanfaa.It Go.Shelf
attribute [local go_sem] Oper.semAt_some

/-- A loop's own variable, an entry, in a block of its own. -/
def EBox (W : World) (B : Nat) (x : En) : Prop := W.heap[B]? = some (.cells (enS.c x).toArray 23 (0, 0))
theorem ebox_own {β : Type} (B C : Nat) (f : β → En) : OwnFrom C (fun s W => EBox W B (f s)) := fun s X Y row hs hg hr =>
  cells_kept hs hg (fun r e => (hr r e).2)
theorem ne_type_entry : (57 : Nat) ≠ 23 := by decide
theorem cells_new7 (W : World) (x0 x1 x2 : Int) (x3 : Bool) (x4 x5 : Int) (x6 : Bool) : ∀ (j : Nat) (u : Value), (enS.c ⟨x0, x1, x2, x3, x4, x5, x6⟩)[j]? = some u → (W.alloc (.cells #[.int .i64 x0, .int .i64 x1, .int .i64 x2, .bool x3, .int .i64 x4, .int .i64 x5, .bool x6] 23)).cell? ((⟨W.heap.size, 0, none⟩ : Addr).add j) = some u := fun j u hu => Rw.cells_new W (enS.c ⟨x0, x1, x2, x3, x4, x5, x6⟩) 23 j u hu
theorem info_entry : (Try.prog.info? 23).map (fun i => (i.zero, i.size, i.bytes)) = some (some (.agg #[.int .i64 0, .int .i64 0, .int .i64 0, .bool false, .int .i64 0, .int .i64 0, .bool false]), 7, 56) := by kernel_rfl
end Go.Proofs.Ytamcidlkbhanfaa.Outbox
