/-
  What the law CachePlays leans on, and its walk (10 of 21).
-/
import Derived.Test.YteajemblhlbfpaaGreatDoorCachePlaysPkI
import Derived.Test.YteajemblhlbfpaaGreatDoorCachePlaysPkC
namespace Go.Proofs.YteajemblhlbfpaaGreatDoor
set_option maxRecDepth 100000
set_option maxHeartbeats 16000000
section
open Go.RowKit
theorem ofW_lt {A n:Nat} (h:A<2^128):ofW A n<2^128:=Nat.lt_of_le_of_lt (ofW_le A n) h
theorem row3 {W:World} {b:Nat} {x y z:Value} {t:TypeId} (h:W.heap[b]? =some (.cells #[x,y,z] t)):
  (W.cell? ⟨b,0,none⟩=some x∧W.cell? ⟨b,1,none⟩=some y∧W.cell? ⟨b,2,none⟩=some z)∧W.frozen? ⟨b,0,none⟩=false∧W.frozen? ⟨b,1,none⟩=false∧W.frozen? ⟨b,2,none⟩=false:=
 ⟨⟨zaD h 0,zaD h 1,zaD h 2⟩,zcS h 0,zcS h 1,zcS h 2⟩
end
end Go.Proofs.YteajemblhlbfpaaGreatDoor
