/-
  What the law DotsGo leans on, and its walk (24 of 33).
-/
import Derived.Test.YtppgdppmheiocaaGreatDoorDotsGoPkV
import Derived.Test.YtppgdppmheiocaaGreatDoorDotsGoPkX
import Derived.Test.YtppgdppmheiocaaGreatDoorDotsGoPkQ
import Derived.Test.YtppgdppmheiocaaGreatDoorDotsGoPkR
namespace Go.Proofs.YtppgdppmheiocaaGreatDoor
set_option maxRecDepth 100000
set_option maxHeartbeats 16000000
end Go.Proofs.YtppgdppmheiocaaGreatDoor
