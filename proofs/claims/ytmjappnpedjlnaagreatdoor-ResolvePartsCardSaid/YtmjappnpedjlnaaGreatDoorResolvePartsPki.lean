/-
  What the law ResolveParts leans on, and its walk (34 of 42).
-/
import Derived.Test.YtmjappnpedjlnaaGreatDoorResolvePartsPke
import Derived.Test.YtmjappnpedjlnaaGreatDoorResolvePartsPkI
namespace Go.Proofs.YtmjappnpedjlnaaGreatDoor
set_option maxRecDepth 100000
set_option maxHeartbeats 16000000
end Go.Proofs.YtmjappnpedjlnaaGreatDoor
