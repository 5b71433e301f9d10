/-
  What the law ResolveMeets leans on, and its walk (30 of 46).
-/
import Derived.Deep.Slices
import Derived.Laws.AppendOwn
import Derived.OwnWalk
import Derived.Test.YtmjappnpedjlnaaGreatDoorResolveMeetsPkG
import Derived.Test.YtmjappnpedjlnaaGreatDoorResolveMeetsPkF
namespace Go.Proofs.YtmjappnpedjlnaaGreatDoor
set_option maxRecDepth 100000
set_option maxHeartbeats 16000000
end Go.Proofs.YtmjappnpedjlnaaGreatDoor
