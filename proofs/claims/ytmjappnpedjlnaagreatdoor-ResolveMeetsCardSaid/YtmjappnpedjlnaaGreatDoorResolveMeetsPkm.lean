/-
  What the law ResolveMeets leans on, and its walk (38 of 46).
-/
import Derived.Shelf.GgClosure.StringsTrimFunc
import Derived.Lib.TrimAscii
import Derived.Test.YtmjappnpedjlnaaGreatDoorResolveMeetsPkV
import Derived.Test.YtmjappnpedjlnaaGreatDoorResolveMeetsPkU
namespace Go.Proofs.YtmjappnpedjlnaaGreatDoor
set_option maxRecDepth 100000
set_option maxHeartbeats 16000000
end Go.Proofs.YtmjappnpedjlnaaGreatDoor
