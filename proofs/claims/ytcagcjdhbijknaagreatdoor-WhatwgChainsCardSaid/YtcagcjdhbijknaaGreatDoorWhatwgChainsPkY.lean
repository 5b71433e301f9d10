/-
  What the law WhatwgChains leans on, and its walk (24 of 33).
-/
import Derived.Deep.Slices
import Derived.Laws.AppendOwn
import Derived.OwnWalk
import Derived.Test.YtcagcjdhbijknaaGreatDoorWhatwgChainsPkG
import Derived.Test.YtcagcjdhbijknaaGreatDoorWhatwgChainsPkF
namespace Go.Proofs.YtcagcjdhbijknaaGreatDoor
set_option maxRecDepth 100000
set_option maxHeartbeats 16000000
end Go.Proofs.YtcagcjdhbijknaaGreatDoor
