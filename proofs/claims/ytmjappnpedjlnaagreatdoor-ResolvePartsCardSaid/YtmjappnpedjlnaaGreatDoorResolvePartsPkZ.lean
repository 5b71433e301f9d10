/-
  What the law ResolveParts leans on, and its walk (25 of 42).
-/
import Derived.Shelf.Strings.MapAny
import Derived.Shelf.Unicode.DecodeLastEight
import Derived.Deep.RegionHeld3
import Derived.Test.YtmjappnpedjlnaaGreatDoorResolvePartsPkX
import Derived.Test.YtmjappnpedjlnaaGreatDoorResolvePartsPkY
import Derived.Test.YtmjappnpedjlnaaGreatDoorResolvePartsPkB
import Derived.Test.YtmjappnpedjlnaaGreatDoorResolvePartsPkV
import Derived.Test.YtmjappnpedjlnaaGreatDoorResolvePartsPkD
import Derived.Test.YtmjappnpedjlnaaGreatDoorResolvePartsPkG
namespace Go.Proofs.YtmjappnpedjlnaaGreatDoor
set_option maxRecDepth 100000
set_option maxHeartbeats 16000000
section
open Go.RowKit
def PZ.cells (p:PZ):Array Value:= #[.string ⟨p.scheme.toArray⟩,.bool p.hasS,.string ⟨p.user.toArray⟩,.bool p.hasU,.string ⟨p.host.toArray⟩,.bool p.hasA,.string ⟨p.port.toArray⟩,.bool p.hasP,.string ⟨p.path.toArray⟩,.string ⟨p.query.toArray⟩,.bool p.hasQ,.string ⟨p.frag.toArray⟩,.bool p.hasF]
def PB (t:TypeId) (w:World) (P:Nat) (p:PZ):Prop:=w.heap[P]? =some (.cells p.cells t)
theorem PB.below {t:TypeId} {w w':World} {P:Nat} {p:PZ} (h:PB t w P p) (hb:Below w.heap.size w w'):PB t w' P p:=(hb.block P (zbC h)).trans h
theorem PB.new (t:TypeId) (w:World) (p:PZ):PB t (w.alloc (.cells p.cells t)) w.heap.size p:=heap_alloc_new w _
theorem PB.all {t:TypeId} {w:World} {P:Nat} {p:PZ} (h:PB t w P p):w.cell? ⟨P,0,none⟩=some (.string ⟨p.scheme.toArray⟩)∧w.cell? ⟨P,1,none⟩=some (.bool p.hasS)∧w.cell? ⟨P,2,none⟩=some (.string ⟨p.user.toArray⟩)∧w.cell? ⟨P,3,none⟩=some (.bool p.hasU)∧w.cell? ⟨P,4,none⟩=some (.string ⟨p.host.toArray⟩)∧w.cell? ⟨P,5,none⟩=some (.bool p.hasA)∧w.cell? ⟨P,6,none⟩=some (.string ⟨p.port.toArray⟩)∧w.cell? ⟨P,7,none⟩=some (.bool p.hasP)∧w.cell? ⟨P,8,none⟩=some (.string ⟨p.path.toArray⟩)∧w.cell? ⟨P,9,none⟩=some (.string ⟨p.query.toArray⟩)∧w.cell? ⟨P,10,none⟩=some (.bool p.hasQ)∧w.cell? ⟨P,11,none⟩=some (.string ⟨p.frag.toArray⟩)∧w.cell? ⟨P,12,none⟩=some (.bool p.hasF):=
 ⟨zaI h 0,zaI h 1,zaI h 2,zaI h 3,zaI h 4,zaI h 5,zaI h 6,zaI h 7,zaI h 8,zaI h 9,zaI h 10,zaI h 11,zaI h 12⟩
def PZ.Few (p:PZ) (n:Nat):Prop:=p.scheme.length≤n∧p.user.length≤n∧p.host.length≤n∧p.port.length≤n∧p.path.length≤n∧p.query.length≤n∧p.frag.length≤n
theorem PB.frozen {t:TypeId} {w:World} {P:Nat} {p:PZ} (h:PB t w P p): ∀i,w.frozen? ⟨P,i,none⟩=false:=zeP h
def zaU (x:World) (g:Nat) (a0 a1 a2 a3 a4 a5 a6 a7 a8 a9 a10 a11 a12:Value):World:=(((((((((((((x.setCell ⟨g,0,none⟩ a0).setCell ⟨g,1,none⟩ a1).setCell ⟨g,2,none⟩ a2).setCell ⟨g,3,none⟩ a3).setCell ⟨g,4,none⟩ a4).setCell ⟨g,5,none⟩ a5).setCell ⟨g,6,none⟩ a6).setCell ⟨g,7,none⟩ a7).setCell ⟨g,8,none⟩ a8).setCell ⟨g,9,none⟩ a9).setCell ⟨g,10,none⟩ a10).setCell ⟨g,11,none⟩ a11).setCell ⟨g,12,none⟩ a12)
theorem zeA {t:TypeId} {x:World} {g:Nat} {p:PZ} (h:PB t x g p) (a0 a1 a2 a3 a4 a5 a6 a7 a8 a9 a10 a11 a12:Value):(zaU x g a0 a1 a2 a3 a4 a5 a6 a7 a8 a9 a10 a11 a12).heap[g]? =some (.cells #[a0,a1,a2,a3,a4,a5,a6,a7,a8,a9,a10,a11,a12] t):=by
 have:=zaQ (zaQ (zaQ (zaQ (zaQ (zaQ (zaQ (zaQ (zaQ (zaQ (zaQ (zaQ (zaQ h 0 a0) 1 a1) 2 a2) 3 a3) 4 a4) 5 a5) 6 a6) 7 a7) 8 a8) 9 a9) 10 a10) 11 a11) 12 a12
 unfold zaU
 simpa [PZ.cells] using this
theorem zeN {w x:World} {g B:Nat} (h:Below B w x) (hg:B≤g) (a0 a1 a2 a3 a4 a5 a6 a7 a8 a9 a10 a11 a12:Value):Below B w (zaU x g a0 a1 a2 a3 a4 a5 a6 a7 a8 a9 a10 a11 a12):=
 (((((((((((((h.setCell (p:=⟨g,0,none⟩) hg _).setCell (p:=⟨g,1,none⟩) hg _).setCell (p:=⟨g,2,none⟩) hg _).setCell (p:=⟨g,3,none⟩) hg _).setCell (p:=⟨g,4,none⟩) hg _).setCell (p:=⟨g,5,none⟩) hg _).setCell (p:=⟨g,6,none⟩) hg _).setCell (p:=⟨g,7,none⟩) hg _).setCell (p:=⟨g,8,none⟩) hg _).setCell (p:=⟨g,9,none⟩) hg _).setCell (p:=⟨g,10,none⟩) hg _).setCell (p:=⟨g,11,none⟩) hg _).setCell (p:=⟨g,12,none⟩) hg _)
theorem zeQ {t:TypeId} {x:World} {g:Nat} {p:PZ} (h:PB t x g p) (a0 a1 a2 a3 a4 a5 a6 a7 a8 a9 a10 a11 a12:Value):(zaU x g a0 a1 a2 a3 a4 a5 a6 a7 a8 a9 a10 a11 a12).cell? ⟨g,0,none⟩=some a0∧(zaU x g a0 a1 a2 a3 a4 a5 a6 a7 a8 a9 a10 a11 a12).cell? ⟨g,1,none⟩=some a1∧(zaU x g a0 a1 a2 a3 a4 a5 a6 a7 a8 a9 a10 a11 a12).cell? ⟨g,2,none⟩=some a2∧(zaU x g a0 a1 a2 a3 a4 a5 a6 a7 a8 a9 a10 a11 a12).cell? ⟨g,3,none⟩=some a3∧(zaU x g a0 a1 a2 a3 a4 a5 a6 a7 a8 a9 a10 a11 a12).cell? ⟨g,4,none⟩=some a4∧(zaU x g a0 a1 a2 a3 a4 a5 a6 a7 a8 a9 a10 a11 a12).cell? ⟨g,5,none⟩=some a5∧(zaU x g a0 a1 a2 a3 a4 a5 a6 a7 a8 a9 a10 a11 a12).cell? ⟨g,6,none⟩=some a6∧(zaU x g a0 a1 a2 a3 a4 a5 a6 a7 a8 a9 a10 a11 a12).cell? ⟨g,7,none⟩=some a7∧(zaU x g a0 a1 a2 a3 a4 a5 a6 a7 a8 a9 a10 a11 a12).cell? ⟨g,8,none⟩=some a8∧(zaU x g a0 a1 a2 a3 a4 a5 a6 a7 a8 a9 a10 a11 a12).cell? ⟨g,9,none⟩=some a9∧(zaU x g a0 a1 a2 a3 a4 a5 a6 a7 a8 a9 a10 a11 a12).cell? ⟨g,10,none⟩=some a10∧(zaU x g a0 a1 a2 a3 a4 a5 a6 a7 a8 a9 a10 a11 a12).cell? ⟨g,11,none⟩=some a11∧(zaU x g a0 a1 a2 a3 a4 a5 a6 a7 a8 a9 a10 a11 a12).cell? ⟨g,12,none⟩=some a12:=by
 have h:=zeA h a0 a1 a2 a3 a4 a5 a6 a7 a8 a9 a10 a11 a12
 exact ⟨zaI h 0,zaI h 1,zaI h 2,zaI h 3,zaI h 4,zaI h 5,zaI h 6,zaI h 7,zaI h 8,zaI h 9,zaI h 10,zaI h 11,zaI h 12⟩
theorem zaO {w x:World} {g B:Nat} (h:Below B w x) (hg:B≤g) (p:PZ):Below B w (zaU x g (.string ⟨p.scheme.toArray⟩) (.bool p.hasS) (.string ⟨p.user.toArray⟩) (.bool p.hasU) (.string ⟨p.host.toArray⟩) (.bool p.hasA) (.string ⟨p.port.toArray⟩) (.bool p.hasP) (.string ⟨p.path.toArray⟩) (.string ⟨p.query.toArray⟩) (.bool p.hasQ) (.string ⟨p.frag.toArray⟩) (.bool p.hasF)):=zeN h hg ..
theorem zaP {t:TypeId} {x:World} {g:Nat} {q:PZ} (h:PB t x g q) (p:PZ): ∀y,y=zaU x g (.string ⟨p.scheme.toArray⟩) (.bool p.hasS) (.string ⟨p.user.toArray⟩) (.bool p.hasU) (.string ⟨p.host.toArray⟩) (.bool p.hasA) (.string ⟨p.port.toArray⟩) (.bool p.hasP) (.string ⟨p.path.toArray⟩) (.string ⟨p.query.toArray⟩) (.bool p.hasQ) (.string ⟨p.frag.toArray⟩) (.bool p.hasF)→y.cell? ⟨g,0,none⟩=some (.string ⟨p.scheme.toArray⟩)∧y.cell? ⟨g,1,none⟩=some (.bool p.hasS)∧y.cell? ⟨g,2,none⟩=some (.string ⟨p.user.toArray⟩)∧y.cell? ⟨g,3,none⟩=some (.bool p.hasU)∧y.cell? ⟨g,4,none⟩=some (.string ⟨p.host.toArray⟩)∧y.cell? ⟨g,5,none⟩=some (.bool p.hasA)∧y.cell? ⟨g,6,none⟩=some (.string ⟨p.port.toArray⟩)∧y.cell? ⟨g,7,none⟩=some (.bool p.hasP)∧y.cell? ⟨g,8,none⟩=some (.string ⟨p.path.toArray⟩)∧y.cell? ⟨g,9,none⟩=some (.string ⟨p.query.toArray⟩)∧y.cell? ⟨g,10,none⟩=some (.bool p.hasQ)∧y.cell? ⟨g,11,none⟩=some (.string ⟨p.frag.toArray⟩)∧y.cell? ⟨g,12,none⟩=some (.bool p.hasF):=fun y hy=>by
 subst hy
 exact zeQ h ..
structure ST (t:TypeId) (w x:World) (R P:Nat) (p:PZ):Prop where
 below:Below w.heap.size w x
 row:PB t x P p
 res:PB t x R zaD
 hR:w.heap.size≤R
 hP:w.heap.size≤P
 ne:R≠P
theorem ST.keep {t:TypeId} {w x y:World} {R P:Nat} {p:PZ} (h:ST t w x R P p) (hb:Below x.heap.size x y):ST t w y R P p:=
 ⟨zaS h.below hb,h.row.below hb,h.res.below hb,h.hR,h.hP,h.ne⟩
theorem ST.set {t:TypeId} {w x:World} {R P:Nat} {p:PZ} (h:ST t w x R P p) (i:Nat) (v:Value) {q:PZ} (hq:p.cells.setIfInBounds i v=q.cells):ST t w (x.setCell ⟨P,i,none⟩ v) R P q:=by
 refine ⟨h.below.setCell (p:=⟨P,i,none⟩) h.hP _,?_,?_,h.hR,h.hP,h.ne⟩
 ·unfold PB
  rw [←hq]
  exact zaQ h.row i v
 ·unfold PB
  rw [zaK h.ne]
  exact h.res
theorem zfT (p:PZ):p.cells.size=13:=rfl
theorem ST.st {t:TypeId} {w x:World} {R P:Nat} {p:PZ} (h:ST t w x R P p) (i j:Nat) (a:Value) (hi:i<13) (hj:j<13): ∃v1 v2,x.cell? ⟨P,i,none⟩=some v1∧x.frozen? ⟨P,i,none⟩=false∧(x.setCell ⟨P,i,none⟩ a).cell? ⟨P,j,none⟩=some v2∧(x.setCell ⟨P,i,none⟩ a).frozen? ⟨P,j,none⟩=false:=
 ⟨_,_,(zaI h.row i).trans (Array.getElem?_eq_getElem (by rw [zfT];exact hi)),zbM h.row i,(zaI (zaQ h.row i a) j).trans (Array.getElem?_eq_getElem (by rw [Array.size_setIfInBounds,zfT];exact hj)),zbM (zaQ h.row i a) j⟩
def zcE (w:World) (p:PZ) (e:Ending) (w':World):Prop:=e= .returned (.agg p.cells)∧Below w.heap.size w w'
theorem PZ.Few.mono {p:PZ} {n m:Nat} (h:p.Few n) (hm:n≤m):p.Few m:=by
 unfold PZ.Few at*
 omega
end
end Go.Proofs.YtmjappnpedjlnaaGreatDoor
