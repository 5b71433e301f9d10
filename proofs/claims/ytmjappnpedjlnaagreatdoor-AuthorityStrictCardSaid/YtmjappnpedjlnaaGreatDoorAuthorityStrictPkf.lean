/-
  What the law AuthorityStrict leans on, and its walk (31 of 35).
-/
import Derived.Maps.AppendAt
import Derived.Deep.RegionHeld3
import Derived.Test.YtmjappnpedjlnaaGreatDoorAuthorityStrictPkd
import Derived.Test.YtmjappnpedjlnaaGreatDoorAuthorityStrictPkN
import Derived.Test.YtmjappnpedjlnaaGreatDoorAuthorityStrictPke
import Derived.Test.YtmjappnpedjlnaaGreatDoorAuthorityStrictPkT
import Derived.Test.YtmjappnpedjlnaaGreatDoorAuthorityStrictPkR
namespace Go.Proofs.YtmjappnpedjlnaaGreatDoor
set_option maxRecDepth 100000
set_option maxHeartbeats 16000000
section
open Go.RowKit
theorem HZ.shape (h:HZ):h.val= .nilIface∨ ∃t v,h.val= .iface t v:=by
 cases h with
 |none=>exact .inl rfl
 |name l=>exact .inr ⟨_,_,rfl⟩
 |addr a=>cases a<;>exact .inr ⟨_,_,rfl⟩
end
end Go.Proofs.YtmjappnpedjlnaaGreatDoor
