/-
  What the law ResolveParts leans on, and its walk (26 of 42).
-/
import Derived.Test.YtmjappnpedjlnaaGreatDoorResolvePartsPkM
import Derived.Test.YtmjappnpedjlnaaGreatDoorResolvePartsPkN
import Derived.Test.YtmjappnpedjlnaaGreatDoorResolvePartsPkZ
namespace Go.Proofs.YtmjappnpedjlnaaGreatDoor
set_option maxRecDepth 100000
set_option maxHeartbeats 16000000
section
open Go.RowKit
def zbI (b r:PZ):List UInt8:=
 if r.hasS=true∨r.hasA=true∨r.path.head? =some 47 then zaG r.path
 else if r.path=[] then b.path
 else zaG (zaM b.path b.hasA r.path)
def zaT (b r:PZ):PZ:=
 if r.hasS=true then {r with path:=zbI b r}
 else if r.hasA=true then {r with scheme:=b.scheme,hasS:=b.hasS,path:=zbI b r}
 else if r.path=[]∧r.hasQ=false then {b with path:=zbI b r,frag:=r.frag,hasF:=r.hasF}
 else {b with path:=zbI b r,query:=r.query,hasQ:=r.hasQ,frag:=r.frag,hasF:=r.hasF}
/-! ### signs,step by step -/
/-! ### parts that are put together,and cut again -/
theorem zbA (b p:List UInt8) (r:Bool):(zaM b r p).length≤b.length+p.length+1:=by
 unfold zaM
 split
 ·simp
 ·rw [List.length_append,List.length_take];omega
theorem zeL (b r:PZ):(zbI b r).length≤b.path.length+r.path.length+1:=by
 unfold zbI
 split
 ·have:=zbV r.path;omega
 ·split
  ·omega
  ·have:=zbV (zaM b.path b.hasA r.path)
   have:=zbA b.path r.path b.hasA
   omega
end
end Go.Proofs.YtmjappnpedjlnaaGreatDoor
