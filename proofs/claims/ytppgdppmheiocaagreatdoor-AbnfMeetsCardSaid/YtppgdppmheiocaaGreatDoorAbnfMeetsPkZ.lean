/-
  What the law AbnfMeets leans on, and its walk (25 of 35).
-/
import Derived.ChangeKeysEq
import Derived.Test.YtppgdppmheiocaaGreatDoorAbnfMeetsPkY
namespace Go.Proofs.YtppgdppmheiocaaGreatDoor
set_option maxRecDepth 100000
set_option maxHeartbeats 16000000
section
open Go.RowKit
theorem zxU (six:List UInt8→Bool) (l:List UInt8):(zeS six l).1.Few l.length:=by
 have h0: ∀n,zaX.Few n:=fun n=>⟨Nat.zero_le _,Nat.zero_le _,Nat.zero_le _,Nat.zero_le _,Nat.zero_le _,Nat.zero_le _,Nat.zero_le _⟩
 unfold zeS
 split
 ·exact h0 _
 ·split
  ·exact h0 _
  ·split
   ·exact zqH l
   ·exact h0 _
end
end Go.Proofs.YtppgdppmheiocaaGreatDoor
