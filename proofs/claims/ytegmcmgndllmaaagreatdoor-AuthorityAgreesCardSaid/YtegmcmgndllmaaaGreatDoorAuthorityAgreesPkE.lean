/-
  What the law AuthorityAgrees leans on, and its walk (5 of 43).
-/
import Derived.Deep.DeepCutAuto
import Derived.Defers
import Derived.Recover
import Derived.Deep.OwnRows
import Derived.Test.YtegmcmgndllmaaaGreatDoorAuthorityAgreesPkD
import Derived.Test.YtegmcmgndllmaaaGreatDoorAuthorityAgreesPkC
import Derived.Test.YtegmcmgndllmaaaGreatDoorAuthorityAgreesPkF
namespace Go.Proofs.YtegmcmgndllmaaaGreatDoor
set_option maxRecDepth 100000
set_option maxHeartbeats 16000000
section
section
open Go.RowKit
inductive AZ where
 |four (n:Int)
 |six (hi lo:Int)
def AZ.val:AZ→Value
 | .four n=> .iface 168 (.int .u32 n)
 | .six hi lo=> .iface 173 (.agg #[.int .u64 hi,.int .u64 lo])
def AZ.Ok:AZ→Prop
 | .four n=>0≤n∧n≤4294967295
 | .six hi lo=>(0≤hi∧hi≤18446744073709551615)∧(0≤lo∧lo≤18446744073709551615)
def optV:Option AZ→Value
 |none=> .nilIface
 |some a=>a.val
theorem ymL (l:List UInt8):(0≤(sixZ l).1.1∧(sixZ l).1.1≤18446744073709551615)∧(0≤(sixZ l).1.2∧(sixZ l).1.2≤18446744073709551615):=⟨z3W (ydK l),z4G (ydK l)⟩
def pa (c:Bool) (l:List Int):List Int:=if c then l else []
end
end
section
open Go.RowKit
theorem zdS {x y z:World} (h:Below x.heap.size x y) (k:Below y.heap.size y z):Below x.heap.size x z:=h.trans (k.mono h.size)
end
end Go.Proofs.YtegmcmgndllmaaaGreatDoor
