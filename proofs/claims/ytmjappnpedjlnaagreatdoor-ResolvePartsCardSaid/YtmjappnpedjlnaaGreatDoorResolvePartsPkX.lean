/-
  What the law ResolveParts leans on, and its walk (23 of 42).
-/
import Derived.Test.YtmjappnpedjlnaaGreatDoorResolvePartsPkO
import Derived.Test.YtmjappnpedjlnaaGreatDoorResolvePartsPkV
import Derived.Test.YtmjappnpedjlnaaGreatDoorResolvePartsPkW
namespace Go.Proofs.YtmjappnpedjlnaaGreatDoor
set_option maxRecDepth 100000
set_option maxHeartbeats 16000000
end Go.Proofs.YtmjappnpedjlnaaGreatDoor
