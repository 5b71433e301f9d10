/-
  What the law ResolveParts leans on, and its walk (15 of 42).
-/
import Derived.Lib.Strings
import Derived.Test.YtmjappnpedjlnaaGreatDoorResolvePartsPkM
import Derived.Test.YtmjappnpedjlnaaGreatDoorResolvePartsPkA
namespace Go.Proofs.YtmjappnpedjlnaaGreatDoor
set_option maxRecDepth 100000
set_option maxHeartbeats 16000000
end Go.Proofs.YtmjappnpedjlnaaGreatDoor
