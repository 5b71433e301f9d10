/-
  What the law DotsClimb leans on, and its walk (29 of 33).
-/
import Derived.Test.YtppgdppmheiocaaGreatDoorDotsClimbPkZ
import Derived.Test.YtppgdppmheiocaaGreatDoorDotsClimbPkI
namespace Go.Proofs.YtppgdppmheiocaaGreatDoor
set_option maxRecDepth 100000
set_option maxHeartbeats 16000000
end Go.Proofs.YtppgdppmheiocaaGreatDoor
