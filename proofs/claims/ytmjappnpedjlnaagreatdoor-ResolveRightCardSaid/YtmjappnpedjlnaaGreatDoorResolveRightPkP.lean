/-
  What the law ResolveRight leans on, and its walk (16 of 42).
-/
import Derived.Lib.Strings
import Derived.Test.YtmjappnpedjlnaaGreatDoorResolveRightPkC
import Derived.Test.YtmjappnpedjlnaaGreatDoorResolveRightPkA
namespace Go.Proofs.YtmjappnpedjlnaaGreatDoor
set_option maxRecDepth 100000
set_option maxHeartbeats 16000000
section
open Go.RowKit
def Seen (w:World) (g:Nat) (ps:List (List UInt8)):Prop:=g<w.heap.size∧ ∀j,j<ps.length→w.cell? ⟨g,j,none⟩=some (.string ⟨(ps.getD j []).toArray⟩)
end
end Go.Proofs.YtmjappnpedjlnaaGreatDoor
