/-
  What the law PinNone leans on, and its walk (5 of 12).
-/
import Derived.Deep.DeepCutAuto
import Derived.Defers
import Derived.Recover
import Derived.Deep.OwnRows
import Derived.Test.YtpmaemedpcgjaaaGreatDoorPinNonePkD
import Derived.Test.YtpmaemedpcgjaaaGreatDoorPinNonePkC
import Derived.Test.YtpmaemedpcgjaaaGreatDoorPinNonePkF
namespace Go.Proofs.YtpmaemedpcgjaaaGreatDoor
set_option maxRecDepth 100000
set_option maxHeartbeats 16000000
section
open Go.RowKit
theorem zaH {x y z:World} (h:Below x.heap.size x y) (k:Below y.heap.size y z):Below x.heap.size x z:=h.trans (k.mono h.size)
end
end Go.Proofs.YtpmaemedpcgjaaaGreatDoor
