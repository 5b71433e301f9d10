/-
  What the law AnswersPlay leans on, and its walk (5 of 22).
-/
import Derived.Test.YtkiehdigpchebaaGreatDoorChecked
import Derived.WalkKit
import Derived.WalkLawsBesides
import Derived.BigQuiet
import Derived.Deep.QuietTactic
import Derived.Lib.Hide
import Derived.Lib.OthersKept
import Derived.Lib.RuneBytes
import Derived.Test.YtkiehdigpchebaaGreatDoorShelf
import Derived.OpenShut
import Derived.Lib.ConvBytes
import Derived.WalkSpells
import Derived.Lib.Join
namespace Go.Proofs.YtkiehdigpchebaaGreatDoor
set_option maxRecDepth 100000
set_option maxHeartbeats 16000000
section
section
open Go.RowKit
theorem zcF {B:Nat} {a w:World} (h:Below B a w) (n:Nat):Below B a (w.drewN n):=⟨h.os,h.tape,h.output,h.size,h.block⟩
theorem zkZ (l:List UInt8):(ByteArray.mk l.toArray).size=l.length:=by simp [ByteArray.size]
/-! ### parts,put together again -/
/-! ### a second time -/
end
end
end Go.Proofs.YtkiehdigpchebaaGreatDoor
