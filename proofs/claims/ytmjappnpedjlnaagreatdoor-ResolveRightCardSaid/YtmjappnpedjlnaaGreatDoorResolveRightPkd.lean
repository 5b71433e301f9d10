/-
  What the law ResolveRight leans on, and its walk (29 of 42).
-/
import Derived.Test.YtmjappnpedjlnaaGreatDoorResolveRightPkY
import Derived.Test.YtmjappnpedjlnaaGreatDoorResolveRightPkc
import Derived.Test.YtmjappnpedjlnaaGreatDoorResolveRightPkT
import Derived.Test.YtmjappnpedjlnaaGreatDoorResolveRightPkU
namespace Go.Proofs.YtmjappnpedjlnaaGreatDoor
set_option maxRecDepth 100000
set_option maxHeartbeats 16000000
end Go.Proofs.YtmjappnpedjlnaaGreatDoor
