/-
  What the law AuthorityStrict leans on, and its walk (24 of 35).
-/
import Derived.Shelf.Abstract
import Derived.Test.YtmjappnpedjlnaaGreatDoorAuthorityStrictPkT
import Derived.Test.YtmjappnpedjlnaaGreatDoorAuthorityStrictPkG
import Derived.Test.YtmjappnpedjlnaaGreatDoorAuthorityStrictPkX
namespace Go.Proofs.YtmjappnpedjlnaaGreatDoor
set_option maxRecDepth 100000
set_option maxHeartbeats 16000000
section
open Go.RowKit
def hd1 (of_:List UInt8):List UInt8→Bool
 |[]=>false
 |c::_=>hasB of_ c
end
end Go.Proofs.YtmjappnpedjlnaaGreatDoor
