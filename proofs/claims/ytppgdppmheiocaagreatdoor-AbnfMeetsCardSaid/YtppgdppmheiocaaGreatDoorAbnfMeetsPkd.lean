/-
  What the law AbnfMeets leans on, and its walk (29 of 35).
-/
import Derived.Deep.Slices
import Derived.Laws.AppendOwn
import Derived.OwnWalk
import Derived.Test.YtppgdppmheiocaaGreatDoorAbnfMeetsPkG
import Derived.Test.YtppgdppmheiocaaGreatDoorAbnfMeetsPkF
namespace Go.Proofs.YtppgdppmheiocaaGreatDoor
set_option maxRecDepth 100000
set_option maxHeartbeats 16000000
end Go.Proofs.YtppgdppmheiocaaGreatDoor
