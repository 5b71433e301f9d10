/-
  What the law ResolveParts leans on, and its walk (17 of 42).
-/
import Derived.Test.YtmjappnpedjlnaaGreatDoorResolvePartsPkP
import Derived.Test.YtmjappnpedjlnaaGreatDoorResolvePartsPkE
namespace Go.Proofs.YtmjappnpedjlnaaGreatDoor
set_option maxRecDepth 100000
set_option maxHeartbeats 16000000
section
open Go.RowKit
inductive HZ where
 |none
 |name (l:List UInt8)
 |addr (a:AZ)
end
end Go.Proofs.YtmjappnpedjlnaaGreatDoor
