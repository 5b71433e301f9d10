/-
  What the law AbnfTells leans on, and its walk (16 of 27).
-/
import Derived.Test.YtmjappnpedjlnaaGreatDoorAbnfTellsPkO
import Derived.Test.YtmjappnpedjlnaaGreatDoorAbnfTellsPkE
namespace Go.Proofs.YtmjappnpedjlnaaGreatDoor
set_option maxRecDepth 100000
set_option maxHeartbeats 16000000
section
open Go.RowKit
inductive HZ where
 |none
 |name (l:List UInt8)
 |addr (a:AZ)
end
end Go.Proofs.YtmjappnpedjlnaaGreatDoor
