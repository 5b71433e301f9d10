/-
  What the law AuthorityStrict leans on, and its walk (22 of 35).
-/
import Derived.Lib.Strings
import Derived.Test.YtmjappnpedjlnaaGreatDoorAuthorityStrictPkM
import Derived.Test.YtmjappnpedjlnaaGreatDoorAuthorityStrictPkA
namespace Go.Proofs.YtmjappnpedjlnaaGreatDoor
set_option maxRecDepth 100000
set_option maxHeartbeats 16000000
end Go.Proofs.YtmjappnpedjlnaaGreatDoor
