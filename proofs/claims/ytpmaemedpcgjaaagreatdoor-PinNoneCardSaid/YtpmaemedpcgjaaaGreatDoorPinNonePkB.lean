/-
  What the law PinNone leans on, and its walk (2 of 12).
-/
import Derived.IntWalk
import Derived.StillTailTactics
import Derived.Deep.RegionHeld3
import Derived.Deep.AppendLies
import Derived.Test.YtpmaemedpcgjaaaGreatDoorPinNonePkA
namespace Go.Proofs.YtpmaemedpcgjaaaGreatDoor
set_option maxRecDepth 100000
set_option maxHeartbeats 16000000
end Go.Proofs.YtpmaemedpcgjaaaGreatDoor
