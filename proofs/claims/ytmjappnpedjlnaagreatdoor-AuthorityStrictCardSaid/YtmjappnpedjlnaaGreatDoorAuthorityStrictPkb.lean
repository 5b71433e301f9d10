/-
  What the law AuthorityStrict leans on, and its walk (27 of 35).
-/
import Derived.Lib.Replace
import Derived.Lib.CountLaws
import Derived.Test.YtmjappnpedjlnaaGreatDoorAuthorityStrictPkT
namespace Go.Proofs.YtmjappnpedjlnaaGreatDoor
set_option maxRecDepth 100000
set_option maxHeartbeats 16000000
end Go.Proofs.YtmjappnpedjlnaaGreatDoor
