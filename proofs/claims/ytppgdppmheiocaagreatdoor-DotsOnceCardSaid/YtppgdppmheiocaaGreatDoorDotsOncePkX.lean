/-
  What the law DotsOnce leans on, and its walk (23 of 33).
-/
import Derived.Lib.LastIndexByte
import Derived.Test.YtppgdppmheiocaaGreatDoorDotsOncePkT
import Derived.Test.YtppgdppmheiocaaGreatDoorDotsOncePkW
namespace Go.Proofs.YtppgdppmheiocaaGreatDoor
set_option maxRecDepth 100000
set_option maxHeartbeats 16000000
end Go.Proofs.YtppgdppmheiocaaGreatDoor
