/-
  What the law AbnfMeets leans on, and its walk (31 of 35).
-/
import Derived.Shelf.GgClosure.StringsTrimFunc
import Derived.Lib.TrimAscii
import Derived.Test.YtppgdppmheiocaaGreatDoorAbnfMeetsPkU
import Derived.Test.YtppgdppmheiocaaGreatDoorAbnfMeetsPkT
namespace Go.Proofs.YtppgdppmheiocaaGreatDoor
set_option maxRecDepth 100000
set_option maxHeartbeats 16000000
section
open Go.RowKit
theorem z9L (n l:List UInt8):(zeB n l).1.host.In:=by
 unfold zeB
 simp only
 split
 ·trivial
 ·split
  ·trivial
  ·split
   ·trivial
   ·show (zeA _ _ _).host.In
    unfold zeA zjX
    rw [(z8C _ _).2.2.2.1,(ycL _ _).2.2.2.1]
    exact z8H _
theorem z7S (t:List UInt8):(zaZ t none).1.host.In:=by
 unfold zaZ
 split
 ·trivial
 ·unfold zmT
  split
  ·trivial
  ·rename_i h;cases h
  ·split
   ·exact z9L _ _
   ·trivial
  ·rename_i h;cases h
end
end Go.Proofs.YtppgdppmheiocaaGreatDoor
