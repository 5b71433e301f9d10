/-
  What the law ResolveRight leans on, and its walk (35 of 42).
-/
import Derived.Test.YtmjappnpedjlnaaGreatDoorResolveRightPkh
import Derived.Test.YtmjappnpedjlnaaGreatDoorResolveRightPkJ
import Derived.Test.YtmjappnpedjlnaaGreatDoorResolveRightPki
namespace Go.Proofs.YtmjappnpedjlnaaGreatDoor
set_option maxRecDepth 100000
set_option maxHeartbeats 16000000
end Go.Proofs.YtmjappnpedjlnaaGreatDoor
