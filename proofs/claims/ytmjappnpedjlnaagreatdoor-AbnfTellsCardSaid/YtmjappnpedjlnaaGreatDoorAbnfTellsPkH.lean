/-
  What the law AbnfTells leans on, and its walk (8 of 27).
-/
import Derived.Test.YtmjappnpedjlnaaGreatDoorAbnfTellsPkE
import Derived.Test.YtmjappnpedjlnaaGreatDoorAbnfTellsPkG
namespace Go.Proofs.YtmjappnpedjlnaaGreatDoor
set_option maxRecDepth 100000
set_option maxHeartbeats 16000000
section
open Go.RowKit
theorem ofW_lt {A n:Nat} (h:A<2^128):ofW A n<2^128:=Nat.lt_of_le_of_lt (ofW_le A n) h
theorem row3 {W:World} {b:Nat} {x y z:Value} {t:TypeId} (h:W.heap[b]? =some (.cells #[x,y,z] t)):
  (W.cell? ⟨b,0,none⟩=some x∧W.cell? ⟨b,1,none⟩=some y∧W.cell? ⟨b,2,none⟩=some z)∧W.frozen? ⟨b,0,none⟩=false∧W.frozen? ⟨b,1,none⟩=false∧W.frozen? ⟨b,2,none⟩=false:=
 ⟨⟨zaK h 0,zaK h 1,zaK h 2⟩,zbI h 0,zbI h 1,zbI h 2⟩
end
end Go.Proofs.YtmjappnpedjlnaaGreatDoor
