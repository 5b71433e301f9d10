/-
  What the law ResolveMeets leans on, and its walk (34 of 46).
-/
import Derived.Test.YtmjappnpedjlnaaGreatDoorResolveMeetsPke
import Derived.Test.YtmjappnpedjlnaaGreatDoorResolveMeetsPkI
namespace Go.Proofs.YtmjappnpedjlnaaGreatDoor
set_option maxRecDepth 100000
set_option maxHeartbeats 16000000
end Go.Proofs.YtmjappnpedjlnaaGreatDoor
