/-
  What the law AbnfTells leans on, and its walk (19 of 27).
-/
import Derived.Test.YtmjappnpedjlnaaGreatDoorAbnfTellsPkP
import Derived.Test.YtmjappnpedjlnaaGreatDoorAbnfTellsPkR
namespace Go.Proofs.YtmjappnpedjlnaaGreatDoor
set_option maxRecDepth 100000
set_option maxHeartbeats 16000000
end Go.Proofs.YtmjappnpedjlnaaGreatDoor
