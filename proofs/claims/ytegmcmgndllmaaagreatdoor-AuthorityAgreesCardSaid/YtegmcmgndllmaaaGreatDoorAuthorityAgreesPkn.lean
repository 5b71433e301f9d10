/-
  What the law AuthorityAgrees leans on, and its walk (39 of 43).
-/
import Derived.Test.YtegmcmgndllmaaaGreatDoorAuthorityAgreesPke
import Derived.Test.YtegmcmgndllmaaaGreatDoorAuthorityAgreesPkI
namespace Go.Proofs.YtegmcmgndllmaaaGreatDoor
set_option maxRecDepth 100000
set_option maxHeartbeats 16000000
end Go.Proofs.YtegmcmgndllmaaaGreatDoor
