/-
  What the law ResolveRight leans on, and its walk (34 of 42).
-/
import Derived.Test.YtmjappnpedjlnaaGreatDoorResolveRightPke
import Derived.Test.YtmjappnpedjlnaaGreatDoorResolveRightPkI
namespace Go.Proofs.YtmjappnpedjlnaaGreatDoor
set_option maxRecDepth 100000
set_option maxHeartbeats 16000000
end Go.Proofs.YtmjappnpedjlnaaGreatDoor
