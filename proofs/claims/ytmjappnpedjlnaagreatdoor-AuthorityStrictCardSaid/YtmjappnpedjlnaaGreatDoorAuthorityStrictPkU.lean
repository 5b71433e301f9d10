/-
  What the law AuthorityStrict leans on, and its walk (20 of 35).
-/
import Derived.Test.YtmjappnpedjlnaaGreatDoorAuthorityStrictPkM
import Derived.Test.YtmjappnpedjlnaaGreatDoorAuthorityStrictPkT
import Derived.Test.YtmjappnpedjlnaaGreatDoorAuthorityStrictPkW
import Derived.Test.YtmjappnpedjlnaaGreatDoorAuthorityStrictPkX
namespace Go.Proofs.YtmjappnpedjlnaaGreatDoor
set_option maxRecDepth 100000
set_option maxHeartbeats 16000000
end Go.Proofs.YtmjappnpedjlnaaGreatDoor
