/-
  What the law AgreeNever leans on, and its walk (36 of 42).
-/
import Derived.ChangeKeysEq
import Derived.Test.YtegmcmgndllmaaaGreatDoorAgreeNeverPkY
namespace Go.Proofs.YtegmcmgndllmaaaGreatDoor
set_option maxRecDepth 100000
set_option maxHeartbeats 16000000
section
open Go.RowKit
theorem z0L (six:List UInt8→Bool) (l:List UInt8):(zdK six l).1.Few l.length:=by
 have d: ∀n,zbH.Few n:=fun n=>⟨Nat.zero_le _,Nat.zero_le _,Nat.zero_le _,Nat.zero_le _,Nat.zero_le _,Nat.zero_le _,Nat.zero_le _⟩
 unfold zdK
 split
 ·exact d _
 ·split
  ·exact d _
  ·split
   ·exact zsH l
   ·exact d _
end
end Go.Proofs.YtegmcmgndllmaaaGreatDoor
