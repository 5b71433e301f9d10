/-
  What the law DotsOnce leans on, and its walk (15 of 33).
-/
import Derived.Test.YtppgdppmheiocaaGreatDoorDotsOncePkN
import Derived.Test.YtppgdppmheiocaaGreatDoorDotsOncePkE
namespace Go.Proofs.YtppgdppmheiocaaGreatDoor
set_option maxRecDepth 100000
set_option maxHeartbeats 16000000
section
open Go.RowKit
inductive HZ where
 |none
 |name (l:List UInt8)
 |addr (a:AZ)
end
end Go.Proofs.YtppgdppmheiocaaGreatDoor
