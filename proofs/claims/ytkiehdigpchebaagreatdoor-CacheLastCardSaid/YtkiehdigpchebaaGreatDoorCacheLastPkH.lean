/-
  What the law CacheLast leans on, and its walk (8 of 21).
-/
import Derived.Lib.IndexMore
import Derived.Deep.Onto
import Derived.Laws.CopyOwn
import Derived.Lib.AppendZerosOnto
import Derived.Laws.MakeOwn
import Derived.Test.YtkiehdigpchebaaGreatDoorCacheLastPkG
namespace Go.Proofs.YtkiehdigpchebaaGreatDoor
set_option maxRecDepth 100000
set_option maxHeartbeats 16000000
section
section
open Go.RowKit Go.Sort Go.Lib
end
section
open Go.RowKit
def MaxVar (w:World):Prop:= ∃m,w.cell? ⟨0,0,none⟩=some (.int .i64 m)
theorem zaA {w w':World} (h:MaxVar w) (f:Below w.heap.size w w'):MaxVar w':=by
 obtain ⟨m,a⟩:=h
 exact ⟨m,(f.cell (World.block_lt_of_cell? w _ a)).trans a⟩
theorem zaJ (x:World):Below x.heap.size x x.drew:=(Below.refl _ _).drew
end
end
end Go.Proofs.YtkiehdigpchebaaGreatDoor
