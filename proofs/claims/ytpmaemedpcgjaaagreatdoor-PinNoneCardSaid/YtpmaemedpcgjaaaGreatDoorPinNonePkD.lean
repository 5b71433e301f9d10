/-
  What the law PinNone leans on, and its walk (4 of 12).
-/
import Derived.Lib.IndexMore
import Derived.Deep.Onto
import Derived.Laws.CopyOwn
import Derived.Lib.AppendZerosOnto
import Derived.Laws.MakeOwn
import Derived.Test.YtpmaemedpcgjaaaGreatDoorPinNonePkC
namespace Go.Proofs.YtpmaemedpcgjaaaGreatDoor
set_option maxRecDepth 100000
set_option maxHeartbeats 16000000
section
section
open Go.RowKit Go.Sort Go.Lib
end
section
open Go.RowKit
def MaxVar (w:World):Prop:= ∃m,w.cell? ⟨0,0,none⟩=some (.int .i64 m)
theorem zaA {w w':World} (h:MaxVar w) (b:Below w.heap.size w w'):MaxVar w':=by
 obtain ⟨m,a⟩:=h
 exact ⟨m,(b.cell (World.block_lt_of_cell? w _ a)).trans a⟩
end
end
end Go.Proofs.YtpmaemedpcgjaaaGreatDoor
