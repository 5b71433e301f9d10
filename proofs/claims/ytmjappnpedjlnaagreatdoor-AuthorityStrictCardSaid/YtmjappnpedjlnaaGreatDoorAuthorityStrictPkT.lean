/-
  What the law AuthorityStrict leans on, and its walk (19 of 35).
-/
import Derived.Test.YtmjappnpedjlnaaGreatDoorAuthorityStrictPkO
import Derived.Test.YtmjappnpedjlnaaGreatDoorAuthorityStrictPkR
import Derived.Test.YtmjappnpedjlnaaGreatDoorAuthorityStrictPkH
import Derived.Test.YtmjappnpedjlnaaGreatDoorAuthorityStrictPkB
namespace Go.Proofs.YtmjappnpedjlnaaGreatDoor
set_option maxRecDepth 100000
set_option maxHeartbeats 16000000
section
open Go.RowKit
def zyS:List UInt8:=[104,116,116,112]
def zuD:List UInt8:=[104,116,116,112,115]
def ownZ (s:List UInt8):Int:=if s=zyS then 80 else if s=zuD then 443 else 0
def zgH:Int→List UInt8→Option Int
 |n,[]=>some n
 |n,c::r=>if zaU c.toNat=true then zgH (if n≤65535 then 10*n+(c.toNat:Int) - 48 else n) r else none
def zeS (l:List UInt8):Int:=if l=[] then -1 else match zgH 0 l with
 |none=> -2
 |some n=>if n>65535 then -2 else n
end
end Go.Proofs.YtmjappnpedjlnaaGreatDoor
