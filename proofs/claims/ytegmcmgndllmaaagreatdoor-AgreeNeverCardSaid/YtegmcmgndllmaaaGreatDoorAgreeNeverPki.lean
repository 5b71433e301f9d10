/-
  What the law AgreeNever leans on, and its walk (34 of 42).
-/
import Derived.Deep.RegionHeld3
import Derived.Test.YtegmcmgndllmaaaGreatDoorAgreeNeverPkg
import Derived.Test.YtegmcmgndllmaaaGreatDoorAgreeNeverPkU
import Derived.Test.YtegmcmgndllmaaaGreatDoorAgreeNeverPkT
import Derived.Test.YtegmcmgndllmaaaGreatDoorAgreeNeverPkI
namespace Go.Proofs.YtegmcmgndllmaaaGreatDoor
set_option maxRecDepth 100000
set_option maxHeartbeats 16000000
end Go.Proofs.YtegmcmgndllmaaaGreatDoor
