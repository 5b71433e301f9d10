/-
  What the law DotsClimb leans on, and its walk (18 of 33).
-/
import Derived.Test.YtppgdppmheiocaaGreatDoorDotsClimbPkO
import Derived.Test.YtppgdppmheiocaaGreatDoorDotsClimbPkQ
namespace Go.Proofs.YtppgdppmheiocaaGreatDoor
set_option maxRecDepth 100000
set_option maxHeartbeats 16000000
end Go.Proofs.YtppgdppmheiocaaGreatDoor
