/-
  What the law DotsOnce leans on, and its walk (28 of 33).
-/
import Derived.Deep.Slices
import Derived.Deep.Fields
import Derived.ChangeSame
import Derived.Test.YtppgdppmheiocaaGreatDoorDotsOncePkJ
import Derived.Test.YtppgdppmheiocaaGreatDoorDotsOncePkI
namespace Go.Proofs.YtppgdppmheiocaaGreatDoor
set_option maxRecDepth 100000
set_option maxHeartbeats 16000000
end Go.Proofs.YtppgdppmheiocaaGreatDoor
