/-
  What the law AbnfTells leans on, and its walk (5 of 27).
-/
import Derived.Deep.DeepCutAuto
import Derived.Defers
import Derived.Recover
import Derived.Deep.OwnRows
import Derived.Test.YtmjappnpedjlnaaGreatDoorAbnfTellsPkD
import Derived.Test.YtmjappnpedjlnaaGreatDoorAbnfTellsPkC
import Derived.Test.YtmjappnpedjlnaaGreatDoorAbnfTellsPkF
namespace Go.Proofs.YtmjappnpedjlnaaGreatDoor
set_option maxRecDepth 100000
set_option maxHeartbeats 16000000
section
section
open Go.RowKit
inductive AZ where
 |four (n:Int)
 |six (hi lo:Int)
def pa (c:Bool) (l:List Int):List Int:=if c then l else []
end
end
section
open Go.RowKit
theorem zcV {x y z:World} (h:Below x.heap.size x y) (k:Below y.heap.size y z):Below x.heap.size x z:=h.trans (k.mono h.size)
end
end Go.Proofs.YtmjappnpedjlnaaGreatDoor
