/-
  What the law AuthorityStrict leans on, and its walk (25 of 35).
-/
import Derived.Shelf.Strings.MapAny
import Derived.Shelf.Unicode.DecodeLastEight
import Derived.Deep.RegionHeld3
import Derived.Test.YtmjappnpedjlnaaGreatDoorAuthorityStrictPkU
import Derived.Test.YtmjappnpedjlnaaGreatDoorAuthorityStrictPkY
import Derived.Test.YtmjappnpedjlnaaGreatDoorAuthorityStrictPkB
import Derived.Test.YtmjappnpedjlnaaGreatDoorAuthorityStrictPkT
import Derived.Test.YtmjappnpedjlnaaGreatDoorAuthorityStrictPkD
import Derived.Test.YtmjappnpedjlnaaGreatDoorAuthorityStrictPkG
namespace Go.Proofs.YtmjappnpedjlnaaGreatDoor
set_option maxRecDepth 100000
set_option maxHeartbeats 16000000
section
open Go.RowKit
def PZ.cells (p:PZ):Array Value:= #[.string ⟨p.scheme.toArray⟩,.bool p.hasS,.string ⟨p.user.toArray⟩,.bool p.hasU,.string ⟨p.host.toArray⟩,.bool p.hasA,.string ⟨p.port.toArray⟩,.bool p.hasP,.string ⟨p.path.toArray⟩,.string ⟨p.query.toArray⟩,.bool p.hasQ,.string ⟨p.frag.toArray⟩,.bool p.hasF]
def PB (t:TypeId) (w:World) (P:Nat) (p:PZ):Prop:=w.heap[P]? =some (.cells p.cells t)
theorem PB.below {t:TypeId} {w w':World} {P:Nat} {p:PZ} (h:PB t w P p) (hb:Below w.heap.size w w'):PB t w' P p:=(hb.block P (zbA h)).trans h
theorem PB.new (t:TypeId) (w:World) (p:PZ):PB t (w.alloc (.cells p.cells t)) w.heap.size p:=heap_alloc_new w _
theorem PB.all {t:TypeId} {w:World} {P:Nat} {p:PZ} (h:PB t w P p):w.cell? ⟨P,0,none⟩=some (.string ⟨p.scheme.toArray⟩)∧w.cell? ⟨P,1,none⟩=some (.bool p.hasS)∧w.cell? ⟨P,2,none⟩=some (.string ⟨p.user.toArray⟩)∧w.cell? ⟨P,3,none⟩=some (.bool p.hasU)∧w.cell? ⟨P,4,none⟩=some (.string ⟨p.host.toArray⟩)∧w.cell? ⟨P,5,none⟩=some (.bool p.hasA)∧w.cell? ⟨P,6,none⟩=some (.string ⟨p.port.toArray⟩)∧w.cell? ⟨P,7,none⟩=some (.bool p.hasP)∧w.cell? ⟨P,8,none⟩=some (.string ⟨p.path.toArray⟩)∧w.cell? ⟨P,9,none⟩=some (.string ⟨p.query.toArray⟩)∧w.cell? ⟨P,10,none⟩=some (.bool p.hasQ)∧w.cell? ⟨P,11,none⟩=some (.string ⟨p.frag.toArray⟩)∧w.cell? ⟨P,12,none⟩=some (.bool p.hasF):=
 ⟨zaG h 0,zaG h 1,zaG h 2,zaG h 3,zaG h 4,zaG h 5,zaG h 6,zaG h 7,zaG h 8,zaG h 9,zaG h 10,zaG h 11,zaG h 12⟩
def PZ.Few (p:PZ) (n:Nat):Prop:=p.scheme.length≤n∧p.user.length≤n∧p.host.length≤n∧p.port.length≤n∧p.path.length≤n∧p.query.length≤n∧p.frag.length≤n
end
end Go.Proofs.YtmjappnpedjlnaaGreatDoor
