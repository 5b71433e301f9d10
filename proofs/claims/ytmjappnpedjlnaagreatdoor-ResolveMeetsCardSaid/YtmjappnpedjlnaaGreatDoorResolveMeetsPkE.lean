/-
  What the law ResolveMeets leans on, and its walk (5 of 46).
-/
import Derived.Deep.DeepCutAuto
import Derived.Defers
import Derived.Recover
import Derived.Deep.OwnRows
import Derived.Test.YtmjappnpedjlnaaGreatDoorResolveMeetsPkD
import Derived.Test.YtmjappnpedjlnaaGreatDoorResolveMeetsPkC
import Derived.Test.YtmjappnpedjlnaaGreatDoorResolveMeetsPkF
namespace Go.Proofs.YtmjappnpedjlnaaGreatDoor
set_option maxRecDepth 100000
set_option maxHeartbeats 16000000
section
section
open Go.RowKit
inductive AZ where
 |four (n:Int)
 |six (hi lo:Int)
def AZ.val:AZ→Value
 | .four n=> .iface 134 (.int .u32 n)
 | .six hi lo=> .iface 144 (.agg #[.int .u64 hi,.int .u64 lo])
def AZ.Ok:AZ→Prop
 | .four n=>0≤n∧n≤4294967295
 | .six hi lo=>(0≤hi∧hi≤18446744073709551615)∧(0≤lo∧lo≤18446744073709551615)
theorem ylW (l:List UInt8):(0≤(sixZ l).1.1∧(sixZ l).1.1≤18446744073709551615)∧(0≤(sixZ l).1.2∧(sixZ l).1.2≤18446744073709551615):=⟨z5F (z7E l),z5C (z7E l)⟩
def pa (c:Bool) (l:List Int):List Int:=if c then l else []
end
end
section
open Go.RowKit
theorem zeH {x y z:World} (h:Below x.heap.size x y) (k:Below y.heap.size y z):Below x.heap.size x z:=h.trans (k.mono h.size)
end
end Go.Proofs.YtmjappnpedjlnaaGreatDoor
