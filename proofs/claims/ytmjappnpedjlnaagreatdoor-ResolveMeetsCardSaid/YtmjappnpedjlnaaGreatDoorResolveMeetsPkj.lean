/-
  What the law ResolveMeets leans on, and its walk (35 of 46).
-/
import Derived.Test.YtmjappnpedjlnaaGreatDoorResolveMeetsPkh
import Derived.Test.YtmjappnpedjlnaaGreatDoorResolveMeetsPkJ
import Derived.Test.YtmjappnpedjlnaaGreatDoorResolveMeetsPki
namespace Go.Proofs.YtmjappnpedjlnaaGreatDoor
set_option maxRecDepth 100000
set_option maxHeartbeats 16000000
end Go.Proofs.YtmjappnpedjlnaaGreatDoor
