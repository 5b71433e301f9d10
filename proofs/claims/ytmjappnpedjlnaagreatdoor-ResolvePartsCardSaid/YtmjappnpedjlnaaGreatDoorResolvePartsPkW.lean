/-
  What the law ResolveParts leans on, and its walk (22 of 42).
-/
import Derived.IntWalk
import Derived.Test.YtmjappnpedjlnaaGreatDoorResolvePartsPkA
namespace Go.Proofs.YtmjappnpedjlnaaGreatDoor
set_option maxRecDepth 100000
set_option maxHeartbeats 16000000
section
open Go.RowKit
theorem zgI {P:Program} (w:World) (t:TypeId) (s:ByteArray) (i:Int) (a:Nat) (hi:i=a) (ha:a≤s.size) (h:P.underlying t=some .string):
  (Instr.slice t (.string s) (some (.int .i64 i)) none none).run P w= .ok (.string (s.extract a s.size)) w:=by
 subst hi
 simp [go_sem,Instr.slice,run_underlying h,Instr.sliceBounds,run_sliceBound,ha]
end
end Go.Proofs.YtmjappnpedjlnaaGreatDoor
