/-
  What the law AgreeNever leans on, and its walk (31 of 42).
-/
import Derived.Deep.Slices
import Derived.Laws.AppendOwn
import Derived.OwnWalk
import Derived.Test.YtegmcmgndllmaaaGreatDoorAgreeNeverPkG
import Derived.Test.YtegmcmgndllmaaaGreatDoorAgreeNeverPkF
namespace Go.Proofs.YtegmcmgndllmaaaGreatDoor
set_option maxRecDepth 100000
set_option maxHeartbeats 16000000
section
open Go.RowKit
theorem z8L (w:World) (c:List Value) (t:TypeId): ∀(j:Nat) (u:Value),c[j]? =some u→(w.alloc (.cells c.toArray t)).cell? ((⟨w.heap.size,0,none⟩:Addr).add j)=some u:=by
 intro j u d
 have e:(⟨w.heap.size,0,none⟩:Addr).add j=⟨w.heap.size,j,none⟩:=by simp [Addr.add];intro h;omega
 rw [e,zaB (heap_alloc_new w _)]
 simpa using d
theorem zmF {P:Program} {e:TypeId} {z:Option Value} {s b:Nat} (h:(P.info? e).map (fun i=>(i.zero,i.size,i.bytes))=some (z,s,b)): ∃i,P.info? e=some i∧i.zero=z∧i.size=s∧i.bytes=b:=by
 cases hi:P.info? e with
 |none=>rw [hi] at h;cases h
 |some i=>rw [hi] at h;simp at h;exact ⟨i,rfl,h.1,h.2.1,h.2.2⟩
end
end Go.Proofs.YtegmcmgndllmaaaGreatDoor
