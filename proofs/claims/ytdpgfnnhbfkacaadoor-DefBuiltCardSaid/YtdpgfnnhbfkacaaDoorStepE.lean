/-
  The contract of the document's Text: any step; what was there stays as it was.
-/
import Derived.Test.YtdpgfnnhbfkacaaDoorStepD
set_option linter.unusedVariables false
set_option linter.unusedSimpArgs false
set_option maxRecDepth 4000
set_option maxRecDepth 4000
namespace Go.Proofs.YtdpgfnnhbfkacaaDoor.Step
open Go.RowKit StP
open Go.Proofs.YtdpgfnnhbfkacaaDoor.Kt

theorem data_append (a b : ByteArray) : (a ++ b).data.toList = a.data.toList ++ b.data.toList := by
  simp [ByteArray.data_append]
theorem bs_size (l : List UInt8) : (bs l).size = l.length := by simp [bs, ByteArray.size]

end Go.Proofs.YtdpgfnnhbfkacaaDoor.Step
