/-
  What the law DotsOnce leans on, and its walk (16 of 33).
-/
import Derived.Test.YtppgdppmheiocaaGreatDoorShelf
import Derived.Shelf.SlicesE.IndexFunc
namespace Go.Proofs.YtppgdppmheiocaaGreatDoor
set_option maxRecDepth 100000
set_option maxHeartbeats 16000000
end Go.Proofs.YtppgdppmheiocaaGreatDoor
