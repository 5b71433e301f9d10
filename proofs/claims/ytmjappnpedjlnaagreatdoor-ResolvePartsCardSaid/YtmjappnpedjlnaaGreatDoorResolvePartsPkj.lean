/-
  What the law ResolveParts leans on, and its walk (35 of 42).
-/
import Derived.Test.YtmjappnpedjlnaaGreatDoorResolvePartsPkh
import Derived.Test.YtmjappnpedjlnaaGreatDoorResolvePartsPkJ
import Derived.Test.YtmjappnpedjlnaaGreatDoorResolvePartsPki
namespace Go.Proofs.YtmjappnpedjlnaaGreatDoor
set_option maxRecDepth 100000
set_option maxHeartbeats 16000000
end Go.Proofs.YtmjappnpedjlnaaGreatDoor
