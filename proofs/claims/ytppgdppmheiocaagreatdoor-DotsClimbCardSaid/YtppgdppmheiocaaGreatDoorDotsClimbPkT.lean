/-
  What the law DotsClimb leans on, and its walk (19 of 33).
-/
import Derived.Test.YtppgdppmheiocaaGreatDoorDotsClimbPkO
import Derived.Test.YtppgdppmheiocaaGreatDoorDotsClimbPkR
import Derived.Test.YtppgdppmheiocaaGreatDoorDotsClimbPkH
import Derived.Test.YtppgdppmheiocaaGreatDoorDotsClimbPkB
namespace Go.Proofs.YtppgdppmheiocaaGreatDoor
set_option maxRecDepth 100000
set_option maxHeartbeats 16000000
section
open Go.RowKit
theorem zfN (p:UInt8→Bool) (l:List UInt8):splitB p l≠[]:=by simp [splitB]
/-! a path that is read -/
/-! a port that is read -/
end
end Go.Proofs.YtppgdppmheiocaaGreatDoor
