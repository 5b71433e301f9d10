/-
  What the law PinNone leans on, and its walk (8 of 12).
-/
import Derived.Test.YtpmaemedpcgjaaaGreatDoorPinNonePkE
import Derived.Test.YtpmaemedpcgjaaaGreatDoorPinNonePkG
namespace Go.Proofs.YtpmaemedpcgjaaaGreatDoor
set_option maxRecDepth 100000
set_option maxHeartbeats 16000000
section
open Go.RowKit
theorem ofW_lt {A n:Nat} (h:A<2^128):ofW A n<2^128:=Nat.lt_of_le_of_lt (ofW_le A n) h
theorem row3 {W:World} {b:Nat} {x y z:Value} {t:TypeId} (h:W.heap[b]? =some (.cells #[x,y,z] t)):
  (W.cell? ⟨b,0,none⟩=some x∧W.cell? ⟨b,1,none⟩=some y∧W.cell? ⟨b,2,none⟩=some z)∧W.frozen? ⟨b,0,none⟩=false∧W.frozen? ⟨b,1,none⟩=false∧W.frozen? ⟨b,2,none⟩=false:=
 ⟨⟨zbF h 0,zbF h 1,zbF h 2⟩,zaW h 0,zaW h 1,zaW h 2⟩
end
end Go.Proofs.YtpmaemedpcgjaaaGreatDoor
