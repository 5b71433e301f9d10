/-
  What the law AuthorityAgrees leans on, and its walk (38 of 43).
-/
import Derived.Deep.Slices
import Derived.Deep.Fields
import Derived.ChangeSame
import Derived.Test.YtegmcmgndllmaaaGreatDoorAuthorityAgreesPkJ
import Derived.Test.YtegmcmgndllmaaaGreatDoorAuthorityAgreesPkI
namespace Go.Proofs.YtegmcmgndllmaaaGreatDoor
set_option maxRecDepth 100000
set_option maxHeartbeats 16000000
end Go.Proofs.YtegmcmgndllmaaaGreatDoor
