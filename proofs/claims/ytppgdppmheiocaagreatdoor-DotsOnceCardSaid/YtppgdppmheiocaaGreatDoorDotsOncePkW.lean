/-
  What the law DotsOnce leans on, and its walk (22 of 33).
-/
import Derived.Lib.Replace
import Derived.Lib.CountLaws
import Derived.Test.YtppgdppmheiocaaGreatDoorDotsOncePkT
namespace Go.Proofs.YtppgdppmheiocaaGreatDoor
set_option maxRecDepth 100000
set_option maxHeartbeats 16000000
end Go.Proofs.YtppgdppmheiocaaGreatDoor
