/-
  What the law CachePlays leans on, and its walk (4 of 21).
-/
import Derived.Deep.Slices
import Derived.Laws.AppendOwn
import Derived.OwnWalk
import Derived.Test.YteajemblhlbfpaaGreatDoorCachePlaysPkC
import Derived.Test.YteajemblhlbfpaaGreatDoorCachePlaysPkB
namespace Go.Proofs.YteajemblhlbfpaaGreatDoor
set_option maxRecDepth 100000
set_option maxHeartbeats 16000000
end Go.Proofs.YteajemblhlbfpaaGreatDoor
