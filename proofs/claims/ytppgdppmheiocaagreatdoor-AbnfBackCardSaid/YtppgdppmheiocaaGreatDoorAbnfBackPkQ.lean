/-
  What the law AbnfBack leans on, and its walk (17 of 27).
-/
import Derived.Test.YtppgdppmheiocaaGreatDoorShelf
import Derived.Shelf.SlicesE.IndexFunc
namespace Go.Proofs.YtppgdppmheiocaaGreatDoor
set_option maxRecDepth 100000
set_option maxHeartbeats 16000000
end Go.Proofs.YtppgdppmheiocaaGreatDoor
