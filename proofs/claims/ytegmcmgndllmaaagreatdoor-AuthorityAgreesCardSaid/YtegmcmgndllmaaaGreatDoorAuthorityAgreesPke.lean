/-
  What the law AuthorityAgrees leans on, and its walk (30 of 43).
-/
import Derived.Deep.Slices
import Derived.Laws.AppendOwn
import Derived.OwnWalk
import Derived.Test.YtegmcmgndllmaaaGreatDoorAuthorityAgreesPkG
import Derived.Test.YtegmcmgndllmaaaGreatDoorAuthorityAgreesPkF
namespace Go.Proofs.YtegmcmgndllmaaaGreatDoor
set_option maxRecDepth 100000
set_option maxHeartbeats 16000000
end Go.Proofs.YtegmcmgndllmaaaGreatDoor
