/-
  What the law ResolveRight leans on, and its walk (28 of 42).
-/
import Derived.Lib.LastIndexByte
import Derived.Test.YtmjappnpedjlnaaGreatDoorResolveRightPkV
import Derived.Test.YtmjappnpedjlnaaGreatDoorResolveRightPkb
namespace Go.Proofs.YtmjappnpedjlnaaGreatDoor
set_option maxRecDepth 100000
set_option maxHeartbeats 16000000
end Go.Proofs.YtmjappnpedjlnaaGreatDoor
