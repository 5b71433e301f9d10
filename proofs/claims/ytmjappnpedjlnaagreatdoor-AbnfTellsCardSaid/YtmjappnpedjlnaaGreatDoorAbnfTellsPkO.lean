/-
  What the law AbnfTells leans on, and its walk (15 of 27).
-/
import Derived.Lib.Strings
import Derived.Test.YtmjappnpedjlnaaGreatDoorAbnfTellsPkC
import Derived.Test.YtmjappnpedjlnaaGreatDoorAbnfTellsPkA
namespace Go.Proofs.YtmjappnpedjlnaaGreatDoor
set_option maxRecDepth 100000
set_option maxHeartbeats 16000000
end Go.Proofs.YtmjappnpedjlnaaGreatDoor
