/-
  What the law DotsOnce leans on, and its walk (19 of 33).
-/
import Derived.Test.YtppgdppmheiocaaGreatDoorDotsOncePkO
import Derived.Test.YtppgdppmheiocaaGreatDoorDotsOncePkR
import Derived.Test.YtppgdppmheiocaaGreatDoorDotsOncePkH
import Derived.Test.YtppgdppmheiocaaGreatDoorDotsOncePkB
namespace Go.Proofs.YtppgdppmheiocaaGreatDoor
set_option maxRecDepth 100000
set_option maxHeartbeats 16000000
end Go.Proofs.YtppgdppmheiocaaGreatDoor
