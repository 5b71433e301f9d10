/-
  What the law AbnfBack leans on, and its walk (15 of 27).
-/
import Derived.Lib.Strings
import Derived.Test.YtppgdppmheiocaaGreatDoorAbnfBackPkC
import Derived.Test.YtppgdppmheiocaaGreatDoorAbnfBackPkA
namespace Go.Proofs.YtppgdppmheiocaaGreatDoor
set_option maxRecDepth 100000
set_option maxHeartbeats 16000000
end Go.Proofs.YtppgdppmheiocaaGreatDoor
