/-
  What the law AbnfBack leans on, and its walk (19 of 27).
-/
import Derived.Test.YtppgdppmheiocaaGreatDoorAbnfBackPkP
import Derived.Test.YtppgdppmheiocaaGreatDoorAbnfBackPkR
namespace Go.Proofs.YtppgdppmheiocaaGreatDoor
set_option maxRecDepth 100000
set_option maxHeartbeats 16000000
end Go.Proofs.YtppgdppmheiocaaGreatDoor
