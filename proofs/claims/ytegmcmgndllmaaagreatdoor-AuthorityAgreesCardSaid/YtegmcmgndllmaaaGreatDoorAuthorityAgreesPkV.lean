/-
  What the law AuthorityAgrees leans on, and its walk (21 of 43).
-/
import Derived.Lib.Strings
import Derived.Lib.Bytealg
import Derived.Lib.LastIndexByte
import Derived.Test.YtegmcmgndllmaaaGreatDoorAuthorityAgreesPkL
namespace Go.Proofs.YtegmcmgndllmaaaGreatDoor
set_option maxRecDepth 100000
set_option maxHeartbeats 16000000
end Go.Proofs.YtegmcmgndllmaaaGreatDoor
