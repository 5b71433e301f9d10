/-
  What the law ResolveParts leans on, and its walk (20 of 42).
-/
import Derived.Test.YtmjappnpedjlnaaGreatDoorResolvePartsPkQ
import Derived.Test.YtmjappnpedjlnaaGreatDoorResolvePartsPkT
namespace Go.Proofs.YtmjappnpedjlnaaGreatDoor
set_option maxRecDepth 100000
set_option maxHeartbeats 16000000
end Go.Proofs.YtmjappnpedjlnaaGreatDoor
