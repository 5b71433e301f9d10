/-
  What the law AuthorityStrict leans on, and its walk (12 of 35).
-/
import Derived.Below
namespace Go.Proofs.YtmjappnpedjlnaaGreatDoor
set_option maxRecDepth 100000
set_option maxHeartbeats 16000000
section
open Go.RowKit
structure PZ where
 scheme:List UInt8
 hasS:Bool
 user:List UInt8
 hasU:Bool
 host:List UInt8
 hasA:Bool
 port:List UInt8
 hasP:Bool
 path:List UInt8
 query:List UInt8
 hasQ:Bool
 frag:List UInt8
 hasF:Bool
 deriving DecidableEq
end
end Go.Proofs.YtmjappnpedjlnaaGreatDoor
