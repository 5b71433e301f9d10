/-
  What the law AuthorityStrict leans on, and its walk (26 of 35).
-/
import Derived.Test.YtmjappnpedjlnaaGreatDoorAuthorityStrictPkM
import Derived.Test.YtmjappnpedjlnaaGreatDoorAuthorityStrictPkV
import Derived.Test.YtmjappnpedjlnaaGreatDoorAuthorityStrictPkZ
import Derived.Test.YtmjappnpedjlnaaGreatDoorAuthorityStrictPkU
namespace Go.Proofs.YtmjappnpedjlnaaGreatDoor
set_option maxRecDepth 100000
set_option maxHeartbeats 16000000
section
open Go.RowKit
/-! ### sites -/
structure SZ where
 scheme:List UInt8
 host:HZ
 port:Int
 user:Bool
def zdI:SZ:=⟨[],.none,0,false⟩
def zeQ (p:PZ):SZ×Int:=
 if p.hasS=false∨ownZ (zaN p.scheme)=0 then (zdI,5)
 else if p.hasA=false then (zdI,6)
 else if (zeT p.host).2≠0 then (zdI,(zeT p.host).2)
 else if p.hasP=true∧zeS p.port= -2 then (zdI,8)
 else (⟨zaN p.scheme,(zeT p.host).1,if p.hasP=true∧p.port≠[] then zeS p.port else ownZ (zaN p.scheme),p.hasU⟩,0)
end
end Go.Proofs.YtmjappnpedjlnaaGreatDoor
