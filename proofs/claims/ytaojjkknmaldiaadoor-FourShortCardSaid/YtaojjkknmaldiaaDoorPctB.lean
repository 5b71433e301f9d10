/-
  Layer 2: the reference's In.
-/
import Derived.Test.YtaojjkknmaldiaaDoorPctA
namespace Go.Proofs.YtaojjkknmaldiaaDoor
open Go.RowKit


end Go.Proofs.YtaojjkknmaldiaaDoor
