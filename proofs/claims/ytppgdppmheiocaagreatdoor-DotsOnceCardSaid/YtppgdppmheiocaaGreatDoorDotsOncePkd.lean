/-
  What the law DotsOnce leans on, and its walk (29 of 33).
-/
import Derived.Test.YtppgdppmheiocaaGreatDoorDotsOncePkZ
import Derived.Test.YtppgdppmheiocaaGreatDoorDotsOncePkI
namespace Go.Proofs.YtppgdppmheiocaaGreatDoor
set_option maxRecDepth 100000
set_option maxHeartbeats 16000000
end Go.Proofs.YtppgdppmheiocaaGreatDoor
