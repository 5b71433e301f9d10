/-
  What the law AbnfReads leans on, and its walk (19 of 27).
-/
import Derived.Test.YtmjappnpedjlnaaGreatDoorAbnfReadsPkP
import Derived.Test.YtmjappnpedjlnaaGreatDoorAbnfReadsPkR
namespace Go.Proofs.YtmjappnpedjlnaaGreatDoor
set_option maxRecDepth 100000
set_option maxHeartbeats 16000000
end Go.Proofs.YtmjappnpedjlnaaGreatDoor
