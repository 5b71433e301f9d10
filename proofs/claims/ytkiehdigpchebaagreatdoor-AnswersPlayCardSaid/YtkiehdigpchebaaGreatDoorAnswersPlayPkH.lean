/-
  What the law AnswersPlay leans on, and its walk (8 of 22).
-/
import Derived.Lib.IndexMore
import Derived.Deep.Onto
import Derived.Laws.CopyOwn
import Derived.Lib.AppendZerosOnto
import Derived.Laws.MakeOwn
import Derived.Test.YtkiehdigpchebaaGreatDoorAnswersPlayPkG
namespace Go.Proofs.YtkiehdigpchebaaGreatDoor
set_option maxRecDepth 100000
set_option maxHeartbeats 16000000
section
section
open Go.RowKit Go.Sort Go.Lib
end
section
open Go.RowKit
def MaxVar (w:World):Prop:= ∃m,w.cell? ⟨0,0,none⟩=some (.int .i64 m)
theorem zaC {w w':World} (h:MaxVar w) (f:Below w.heap.size w w'):MaxVar w':=by
 obtain ⟨m,d⟩:=h
 exact ⟨m,(f.cell (World.block_lt_of_cell? w _ d)).trans d⟩
theorem zbZ {w:World} {g:Nat} {t:TypeId} {cs:Array Value} (h:w.heap[g]? =some (.cells cs t (0,0))) (j:Nat):w.frozen? ⟨g,j,none⟩=false:=by
 simp [World.frozen?,h]
theorem zaF (x:World):Below x.heap.size x x.drew:=(Below.refl _ _).drew
end
end
end Go.Proofs.YtkiehdigpchebaaGreatDoor
