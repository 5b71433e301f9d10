/-
  What the law DotsOnce leans on, and its walk (25 of 33).
-/
import Derived.Deep.Slices
import Derived.Laws.AppendOwn
import Derived.OwnWalk
import Derived.Test.YtppgdppmheiocaaGreatDoorDotsOncePkG
import Derived.Test.YtppgdppmheiocaaGreatDoorDotsOncePkF
namespace Go.Proofs.YtppgdppmheiocaaGreatDoor
set_option maxRecDepth 100000
set_option maxHeartbeats 16000000
end Go.Proofs.YtppgdppmheiocaaGreatDoor
