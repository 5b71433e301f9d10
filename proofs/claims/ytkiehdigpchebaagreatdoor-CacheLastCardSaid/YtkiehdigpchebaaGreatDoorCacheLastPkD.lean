/-
  What the law CacheLast leans on, and its walk (4 of 21).
-/
import Derived.Deep.Slices
import Derived.Laws.AppendOwn
import Derived.OwnWalk
import Derived.Test.YtkiehdigpchebaaGreatDoorCacheLastPkC
import Derived.Test.YtkiehdigpchebaaGreatDoorCacheLastPkB
namespace Go.Proofs.YtkiehdigpchebaaGreatDoor
set_option maxRecDepth 100000
set_option maxHeartbeats 16000000
end Go.Proofs.YtkiehdigpchebaaGreatDoor
