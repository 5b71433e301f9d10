/-
  What the law AnswersPlay leans on, and its walk (6 of 22).
-/
import Derived.IntWalk
import Derived.StillTailTactics
import Derived.Deep.RegionHeld3
import Derived.Deep.AppendLies
import Derived.Test.YtkiehdigpchebaaGreatDoorAnswersPlayPkE
namespace Go.Proofs.YtkiehdigpchebaaGreatDoor
set_option maxRecDepth 100000
set_option maxHeartbeats 16000000
end Go.Proofs.YtkiehdigpchebaaGreatDoor
