/-
  What the law ResolveMeets leans on, and its walk (33 of 46).
-/
import Derived.Deep.Slices
import Derived.Deep.Fields
import Derived.ChangeSame
import Derived.Test.YtmjappnpedjlnaaGreatDoorResolveMeetsPkJ
import Derived.Test.YtmjappnpedjlnaaGreatDoorResolveMeetsPkI
namespace Go.Proofs.YtmjappnpedjlnaaGreatDoor
set_option maxRecDepth 100000
set_option maxHeartbeats 16000000
section
open Go.RowKit
theorem ykS (s:ByteArray) (p:Nat) (h:p<s.size):p+(Utf8.decode s p).2≤s.size:=by
 rw [zcP]
 repeat' split
 all_goals simp only
 all_goals omega
end
end Go.Proofs.YtmjappnpedjlnaaGreatDoor
