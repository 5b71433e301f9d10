/-
  What the law AgreeNever leans on, and its walk (26 of 42).
-/
import Derived.Test.YtegmcmgndllmaaaGreatDoorAgreeNeverPkM
import Derived.Test.YtegmcmgndllmaaaGreatDoorAgreeNeverPkZ
import Derived.Test.YtegmcmgndllmaaaGreatDoorAgreeNeverPkY
import Derived.Test.YtegmcmgndllmaaaGreatDoorAgreeNeverPkW
namespace Go.Proofs.YtegmcmgndllmaaaGreatDoor
set_option maxRecDepth 100000
set_option maxHeartbeats 16000000
section
open Go.RowKit
/-! ### sites -/
structure SZ where
 scheme:List UInt8
 host:HZ
 port:Int
 user:Bool
def ziU:SZ:=⟨[],.none,0,false⟩
def zcO (p:PZ):SZ×Int:=
 if p.hasS=false∨ownZ (zaM p.scheme)=0 then (ziU,5)
 else if p.hasA=false then (ziU,6)
 else if (zdR p.host).2≠0 then (ziU,(zdR p.host).2)
 else if p.hasP=true∧zeL p.port= -2 then (ziU,8)
 else (⟨zaM p.scheme,(zdR p.host).1,if p.hasP=true∧p.port≠[] then zeL p.port else ownZ (zaM p.scheme),p.hasU⟩,0)
def ztG (u:UZ):SZ:=⟨u.scheme,u.host,effZ u,!(u.user++u.pass).isEmpty⟩
end
end Go.Proofs.YtegmcmgndllmaaaGreatDoor
