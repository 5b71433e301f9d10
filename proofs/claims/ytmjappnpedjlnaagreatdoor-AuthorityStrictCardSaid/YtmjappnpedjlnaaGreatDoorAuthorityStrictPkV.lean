/-
  What the law AuthorityStrict leans on, and its walk (21 of 35).
-/
import Derived.Lib.Strings
import Derived.Lib.Bytealg
import Derived.Lib.LastIndexByte
import Derived.Test.YtmjappnpedjlnaaGreatDoorAuthorityStrictPkL
namespace Go.Proofs.YtmjappnpedjlnaaGreatDoor
set_option maxRecDepth 100000
set_option maxHeartbeats 16000000
end Go.Proofs.YtmjappnpedjlnaaGreatDoor
