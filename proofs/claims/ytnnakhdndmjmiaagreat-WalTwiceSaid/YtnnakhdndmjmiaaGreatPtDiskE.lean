/-
  The contracts of the document's with, Read and Flush: any disk, any numbers.
-/
import Derived.Test.YtnnakhdndmjmiaaGreatPtDiskC
import Derived.StillTailTactics
import Derived.LoopTactic
set_option linter.unusedVariables false
set_option maxRecDepth 4000
namespace Go.Proofs.YtnnakhdndmjmiaaGreat.Disk
open Go.RowKit DiskP

theorem info_string : (Tryz.prog.info? 9).map (fun i => (i.zero, i.size, i.bytes)) = some (some (.string ⟨#[]⟩), 1, 16) := by kernel_rfl
def Fresh (w : World) (n : Nat) (S : List ByteArray) (e : Ending) (w' : World) : Prop :=
  ∃ g cap, e = .returned (.slice (some ⟨g, 0, none⟩) n cap) ∧ w'.ownsRow w.heap.size 9 1 (.slice (some ⟨g, 0, none⟩) n cap) n (S.map Value.string) ∧ Below w.heap.size w w'
end Go.Proofs.YtnnakhdndmjmiaaGreat.Disk
