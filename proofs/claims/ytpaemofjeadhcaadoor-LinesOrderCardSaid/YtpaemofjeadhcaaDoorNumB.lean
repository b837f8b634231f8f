/-
  The contracts of num.Less, num.Times, num.Shift and of the document's: any numbers of 64 bits; what was there stays as it was.
-/
import Derived.Test.YtpaemofjeadhcaaDoorNumA
import Derived.Outline
import Derived.Deep.DeepMust
set_option maxRecDepth 4000
namespace Go.Proofs.YtpaemofjeadhcaaDoor.Num
open Go.RowKit NumP

theorem intsAt_two (w : World) (a b : Int) : IntsAt (w.alloc (.cells #[.int .i64 a, .int .i64 b] 3)) (some ⟨w.heap.size, 0, none⟩) 2 [a, b] := by
  refine ⟨rfl, by omega, .inr ⟨_, _, rfl, fun i hi => ?_⟩⟩
  rw [Nat.zero_add, World.cell?_alloc_new]
  rcases i with _ | _ | i
  · rfl
  · rfl
  · omega
end Go.Proofs.YtpaemofjeadhcaaDoor.Num
