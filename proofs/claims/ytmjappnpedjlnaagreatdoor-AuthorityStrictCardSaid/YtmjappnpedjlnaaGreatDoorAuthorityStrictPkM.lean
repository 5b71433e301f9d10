/-
  What the law AuthorityStrict leans on, and its walk (13 of 35).
-/
import Derived.Lib.LastIndexByte
import Derived.Lib.IndexAny
import Derived.Test.YtmjappnpedjlnaaGreatDoorAuthorityStrictPkL
namespace Go.Proofs.YtmjappnpedjlnaaGreatDoor
set_option maxRecDepth 100000
set_option maxHeartbeats 16000000
end Go.Proofs.YtmjappnpedjlnaaGreatDoor
