/-
  What the law AbnfTells leans on, and its walk (18 of 27).
-/
import Derived.Test.YtmjappnpedjlnaaGreatDoorAbnfTellsPkO
import Derived.Test.YtmjappnpedjlnaaGreatDoorAbnfTellsPkQ
namespace Go.Proofs.YtmjappnpedjlnaaGreatDoor
set_option maxRecDepth 100000
set_option maxHeartbeats 16000000
section
open Go.RowKit
theorem zaV {w x1 x2:World} (h1:Below w.heap.size w x1) (h2:Below x1.heap.size x1 x2):Below w.heap.size w x2:=h1.trans (h2.mono h1.size)
end
end Go.Proofs.YtmjappnpedjlnaaGreatDoor
