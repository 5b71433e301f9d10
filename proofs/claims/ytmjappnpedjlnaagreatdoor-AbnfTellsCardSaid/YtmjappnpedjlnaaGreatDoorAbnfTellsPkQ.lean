/-
  What the law AbnfTells leans on, and its walk (17 of 27).
-/
import Derived.Test.YtmjappnpedjlnaaGreatDoorShelf
import Derived.Shelf.SlicesE.IndexFunc
namespace Go.Proofs.YtmjappnpedjlnaaGreatDoor
set_option maxRecDepth 100000
set_option maxHeartbeats 16000000
end Go.Proofs.YtmjappnpedjlnaaGreatDoor
