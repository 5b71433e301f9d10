/-
  What the law ResolveParts leans on, and its walk (21 of 42).
-/
import Derived.Test.YtmjappnpedjlnaaGreatDoorResolvePartsPkQ
import Derived.Test.YtmjappnpedjlnaaGreatDoorResolvePartsPkU
import Derived.Test.YtmjappnpedjlnaaGreatDoorResolvePartsPkH
import Derived.Test.YtmjappnpedjlnaaGreatDoorResolvePartsPkB
namespace Go.Proofs.YtmjappnpedjlnaaGreatDoor
set_option maxRecDepth 100000
set_option maxHeartbeats 16000000
end Go.Proofs.YtmjappnpedjlnaaGreatDoor
