/-
  What the law DotsOnce leans on, and its walk (24 of 33).
-/
import Derived.Test.YtppgdppmheiocaaGreatDoorDotsOncePkV
import Derived.Test.YtppgdppmheiocaaGreatDoorDotsOncePkX
import Derived.Test.YtppgdppmheiocaaGreatDoorDotsOncePkQ
import Derived.Test.YtppgdppmheiocaaGreatDoorDotsOncePkR
namespace Go.Proofs.YtppgdppmheiocaaGreatDoor
set_option maxRecDepth 100000
set_option maxHeartbeats 16000000
end Go.Proofs.YtppgdppmheiocaaGreatDoor
