/-
  What the law WhatwgReads leans on, and its walk (24 of 29).
-/
import Derived.Deep.Slices
import Derived.Laws.AppendOwn
import Derived.OwnWalk
import Derived.Test.YthacmlahnpdeeaaGreatDoorWhatwgReadsPkG
import Derived.Test.YthacmlahnpdeeaaGreatDoorWhatwgReadsPkF
namespace Go.Proofs.YthacmlahnpdeeaaGreatDoor
set_option maxRecDepth 100000
set_option maxHeartbeats 16000000
end Go.Proofs.YthacmlahnpdeeaaGreatDoor
