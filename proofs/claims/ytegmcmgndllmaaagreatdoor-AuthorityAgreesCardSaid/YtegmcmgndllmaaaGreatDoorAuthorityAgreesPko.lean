/-
  What the law AuthorityAgrees leans on, and its walk (40 of 43).
-/
import Derived.Test.YtegmcmgndllmaaaGreatDoorAuthorityAgreesPkm
import Derived.Test.YtegmcmgndllmaaaGreatDoorAuthorityAgreesPkJ
import Derived.Test.YtegmcmgndllmaaaGreatDoorAuthorityAgreesPkn
namespace Go.Proofs.YtegmcmgndllmaaaGreatDoor
set_option maxRecDepth 100000
set_option maxHeartbeats 16000000
end Go.Proofs.YtegmcmgndllmaaaGreatDoor
