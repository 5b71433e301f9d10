/-
  What the law AnswersPlay leans on, and its walk (10 of 22).
-/
import Derived.Test.YtkiehdigpchebaaGreatDoorAnswersPlayPkI
import Derived.Test.YtkiehdigpchebaaGreatDoorAnswersPlayPkC
namespace Go.Proofs.YtkiehdigpchebaaGreatDoor
set_option maxRecDepth 100000
set_option maxHeartbeats 16000000
section
open Go.RowKit
theorem ofW_lt {A n:Nat} (h:A<2^128):ofW A n<2^128:=Nat.lt_of_le_of_lt (ofW_le A n) h
theorem row3 {W:World} {b:Nat} {x y z:Value} {t:TypeId} (h:W.heap[b]? =some (.cells #[x,y,z] t)):
  (W.cell? ⟨b,0,none⟩=some x∧W.cell? ⟨b,1,none⟩=some y∧W.cell? ⟨b,2,none⟩=some z)∧W.frozen? ⟨b,0,none⟩=false∧W.frozen? ⟨b,1,none⟩=false∧W.frozen? ⟨b,2,none⟩=false:=
 ⟨⟨zaA h 0,zaA h 1,zaA h 2⟩,zaY h 0,zaY h 1,zaY h 2⟩
end
end Go.Proofs.YtkiehdigpchebaaGreatDoor
