/-
  What the law ResolveRight leans on, and its walk (33 of 42).
-/
import Derived.Deep.Slices
import Derived.Deep.Fields
import Derived.ChangeSame
import Derived.Test.YtmjappnpedjlnaaGreatDoorResolveRightPkJ
import Derived.Test.YtmjappnpedjlnaaGreatDoorResolveRightPkI
namespace Go.Proofs.YtmjappnpedjlnaaGreatDoor
set_option maxRecDepth 100000
set_option maxHeartbeats 16000000
end Go.Proofs.YtmjappnpedjlnaaGreatDoor
