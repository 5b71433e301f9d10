/-
  What the law DotsOnce leans on, and its walk (14 of 33).
-/
import Derived.Lib.Strings
import Derived.Test.YtppgdppmheiocaaGreatDoorDotsOncePkC
import Derived.Test.YtppgdppmheiocaaGreatDoorDotsOncePkA
namespace Go.Proofs.YtppgdppmheiocaaGreatDoor
set_option maxRecDepth 100000
set_option maxHeartbeats 16000000
section
open Go.RowKit
def Seen (w:World) (g:Nat) (ps:List (List UInt8)):Prop:=g<w.heap.size∧ ∀j,j<ps.length→w.cell? ⟨g,j,none⟩=some (.string ⟨(ps.getD j []).toArray⟩)
def zkD (w:World) (ps:List (List UInt8)) (e:Ending) (w':World):Prop:= ∃g c,e= .returned (.slice (some ⟨g,0,none⟩) ps.length c)∧ps.length≤c∧Seen w' g ps∧Below w.heap.size w w'
end
end Go.Proofs.YtppgdppmheiocaaGreatDoor
