/-
  What the law DotsGo leans on, and its walk (2 of 33).
-/
import Derived.IntWalk
import Derived.StillTailTactics
import Derived.Deep.RegionHeld3
import Derived.Deep.AppendLies
import Derived.Test.YtppgdppmheiocaaGreatDoorDotsGoPkA
namespace Go.Proofs.YtppgdppmheiocaaGreatDoor
set_option maxRecDepth 100000
set_option maxHeartbeats 16000000
section
section
open Go.RowKit
theorem zkE (l:List UInt8):(ByteArray.mk l.toArray).data.toList=l:=by simp
end
end
end Go.Proofs.YtppgdppmheiocaaGreatDoor
