/-
  Layer 5: a row of pieces, the reference's.
-/
import Derived.Test.YtgmfgcpfpopboaaGreatDoorSixC
import Derived.Test.YtgmfgcpfpopboaaGreatDoorMgC
namespace Go.Proofs.YtgmfgcpfpopboaaGreatDoor
open Go.RowKit


end Go.Proofs.YtgmfgcpfpopboaaGreatDoor
