/-
  What the law DotsClimb leans on, and its walk (24 of 33).
-/
import Derived.Test.YtppgdppmheiocaaGreatDoorDotsClimbPkV
import Derived.Test.YtppgdppmheiocaaGreatDoorDotsClimbPkX
import Derived.Test.YtppgdppmheiocaaGreatDoorDotsClimbPkQ
import Derived.Test.YtppgdppmheiocaaGreatDoorDotsClimbPkR
namespace Go.Proofs.YtppgdppmheiocaaGreatDoor
set_option maxRecDepth 100000
set_option maxHeartbeats 16000000
end Go.Proofs.YtppgdppmheiocaaGreatDoor
