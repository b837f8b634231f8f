/-
  The contract of the document's Number: any text; the world is as it was.
-/
import Derived.Test.YtpaemofjeadhcaaDoorNumE
set_option maxRecDepth 4000
namespace Go.Proofs.YtpaemofjeadhcaaDoor.Num
open Go.RowKit NumP

end Go.Proofs.YtpaemofjeadhcaaDoor.Num
