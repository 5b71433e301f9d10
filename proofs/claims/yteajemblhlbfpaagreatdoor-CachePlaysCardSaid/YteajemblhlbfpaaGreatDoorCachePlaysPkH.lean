/-
  What the law CachePlays leans on, and its walk (8 of 21).
-/
import Derived.Lib.IndexMore
import Derived.Deep.Onto
import Derived.Laws.CopyOwn
import Derived.Lib.AppendZerosOnto
import Derived.Laws.MakeOwn
import Derived.Test.YteajemblhlbfpaaGreatDoorCachePlaysPkG
namespace Go.Proofs.YteajemblhlbfpaaGreatDoor
set_option maxRecDepth 100000
set_option maxHeartbeats 16000000
section
section
open Go.RowKit Go.Sort Go.Lib
end
section
open Go.RowKit
def MaxVar (w:World):Prop:= ∃m,w.cell? ⟨0,0,none⟩=some (.int .i64 m)
theorem zaB {w w':World} (h:MaxVar w) (g:Below w.heap.size w w'):MaxVar w':=by
 obtain ⟨m,f⟩:=h
 exact ⟨m,(g.cell (World.block_lt_of_cell? w _ f)).trans f⟩
theorem zbW {w:World} {g:Nat} {t:TypeId} {f:Array Value} (h:w.heap[g]? =some (.cells f t (0,0))) (j:Nat):w.frozen? ⟨g,j,none⟩=false:=by
 simp [World.frozen?,h]
theorem zaF (x:World):Below x.heap.size x x.drew:=(Below.refl _ _).drew
end
end
end Go.Proofs.YteajemblhlbfpaaGreatDoor
