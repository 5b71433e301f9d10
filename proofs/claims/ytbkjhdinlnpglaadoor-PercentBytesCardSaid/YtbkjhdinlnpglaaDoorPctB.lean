/-
  Layer 2: the reference's In.
-/
import Derived.Test.YtbkjhdinlnpglaaDoorPctA
namespace Go.Proofs.YtbkjhdinlnpglaaDoor
open Go.RowKit


end Go.Proofs.YtbkjhdinlnpglaaDoor
