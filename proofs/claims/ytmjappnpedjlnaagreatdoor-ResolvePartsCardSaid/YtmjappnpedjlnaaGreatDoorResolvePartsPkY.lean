/-
  What the law ResolveParts leans on, and its walk (24 of 42).
-/
import Derived.Shelf.Abstract
import Derived.Test.YtmjappnpedjlnaaGreatDoorResolvePartsPkV
import Derived.Test.YtmjappnpedjlnaaGreatDoorResolvePartsPkG
import Derived.Test.YtmjappnpedjlnaaGreatDoorResolvePartsPkW
namespace Go.Proofs.YtmjappnpedjlnaaGreatDoor
set_option maxRecDepth 100000
set_option maxHeartbeats 16000000
section
open Go.RowKit
theorem zdT (l:List UInt8) (n:Nat) (h:n≤l.length): ∀W,(Instr.slice 9 (.string ⟨l.toArray⟩) none (some (.int .i64 (n:Int))) none).run Tryz.prog W= .ok (.string ⟨(l.take n).toArray⟩) W:=fun W=>by
 have hz:(ByteArray.mk l.toArray).size=l.length:=by simp [ByteArray.size]
 rw [run_slice_string_to_if W 9 _ .i64 _ Tryz.underlying9,if_pos (by rw [hz];omega)]
 have:(ByteArray.mk l.toArray).extract 0 n=⟨(l.take n).toArray⟩:=by
  apply ByteArray.ext;simp
 simp [this]
theorem zbQ (l:List UInt8) (n:Nat) (h:n≤l.length): ∀W,(Instr.slice 9 (.string ⟨l.toArray⟩) (some (.int .i64 (n:Int))) none none).run Tryz.prog W= .ok (.string ⟨(l.drop n).toArray⟩) W:=fun W=>by
 have hz:(ByteArray.mk l.toArray).size=l.length:=by simp [ByteArray.size]
 rw [zgI W 9 _ (n:Int) n rfl (by rw [hz];exact h) Tryz.underlying9]
 have:(ByteArray.mk l.toArray).extract n (ByteArray.mk l.toArray).size=⟨(l.drop n).toArray⟩:=by
  apply ByteArray.ext;rw [hz];simp [List.take_of_length_le]
 rw [this]
def hd1 (of_:List UInt8):List UInt8→Bool
 |[]=>false
 |c::_=>hasB of_ c
end
end Go.Proofs.YtmjappnpedjlnaaGreatDoor
