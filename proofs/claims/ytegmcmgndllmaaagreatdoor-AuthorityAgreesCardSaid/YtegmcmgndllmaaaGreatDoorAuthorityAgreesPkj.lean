/-
  What the law AuthorityAgrees leans on, and its walk (35 of 43).
-/
import Derived.ChangeKeysEq
import Derived.Test.YtegmcmgndllmaaaGreatDoorAuthorityAgreesPkZ
namespace Go.Proofs.YtegmcmgndllmaaaGreatDoor
set_option maxRecDepth 100000
set_option maxHeartbeats 16000000
section
open Go.RowKit
theorem zoV (six:List UInt8→Bool) (l:List UInt8):(zfA six l).1.Few l.length:=by
 have d: ∀n,zaY.Few n:=fun n=>⟨Nat.zero_le _,Nat.zero_le _,Nat.zero_le _,Nat.zero_le _,Nat.zero_le _,Nat.zero_le _,Nat.zero_le _⟩
 unfold zfA
 split
 ·exact d _
 ·split
  ·exact d _
  ·split
   ·exact zvE l
   ·exact d _
end
end Go.Proofs.YtegmcmgndllmaaaGreatDoor
