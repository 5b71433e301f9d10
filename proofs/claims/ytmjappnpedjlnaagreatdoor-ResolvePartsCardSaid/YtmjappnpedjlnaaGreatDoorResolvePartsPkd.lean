/-
  What the law ResolveParts leans on, and its walk (29 of 42).
-/
import Derived.Test.YtmjappnpedjlnaaGreatDoorResolvePartsPkY
import Derived.Test.YtmjappnpedjlnaaGreatDoorResolvePartsPkc
import Derived.Test.YtmjappnpedjlnaaGreatDoorResolvePartsPkT
import Derived.Test.YtmjappnpedjlnaaGreatDoorResolvePartsPkU
namespace Go.Proofs.YtmjappnpedjlnaaGreatDoor
set_option maxRecDepth 100000
set_option maxHeartbeats 16000000
end Go.Proofs.YtmjappnpedjlnaaGreatDoor
