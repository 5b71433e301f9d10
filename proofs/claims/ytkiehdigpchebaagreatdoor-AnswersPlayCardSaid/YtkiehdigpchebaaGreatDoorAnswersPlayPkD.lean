/-
  What the law AnswersPlay leans on, and its walk (4 of 22).
-/
import Derived.Deep.Slices
import Derived.Laws.AppendOwn
import Derived.OwnWalk
import Derived.Test.YtkiehdigpchebaaGreatDoorAnswersPlayPkC
import Derived.Test.YtkiehdigpchebaaGreatDoorAnswersPlayPkB
namespace Go.Proofs.YtkiehdigpchebaaGreatDoor
set_option maxRecDepth 100000
set_option maxHeartbeats 16000000
end Go.Proofs.YtkiehdigpchebaaGreatDoor
