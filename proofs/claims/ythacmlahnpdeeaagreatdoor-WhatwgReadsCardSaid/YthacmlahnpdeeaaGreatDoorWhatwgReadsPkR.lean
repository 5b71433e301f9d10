/-
  What the law WhatwgReads leans on, and its walk (18 of 29).
-/
import Derived.Shelf.GgClosure.StringsTrimFunc
import Derived.Lib.TrimAscii
import Derived.Test.YthacmlahnpdeeaaGreatDoorWhatwgReadsPkQ
import Derived.Test.YthacmlahnpdeeaaGreatDoorWhatwgReadsPkP
namespace Go.Proofs.YthacmlahnpdeeaaGreatDoor
set_option maxRecDepth 100000
set_option maxHeartbeats 16000000
section
open Go.RowKit
theorem z8C (n l:List UInt8):(zdV n l).1.host.In:=by
 unfold zdV
 simp only
 split
 ·trivial
 ·split
  ·trivial
  ·split
   ·trivial
   ·show (zeA _ _ _).host.In
    unfold zeA zdP
    rw [(zpI _ _).2.2.2.1,(zoY _ _).2.2.2.1]
    exact z8D _
theorem z0P (t:List UInt8):(zdY t none).1.host.In:=by
 unfold zdY
 split
 ·trivial
 ·unfold znF
  split
  ·trivial
  ·rename_i h;cases h
  ·split
   ·exact z8C _ _
   ·trivial
  ·rename_i h;cases h
end
end Go.Proofs.YthacmlahnpdeeaaGreatDoor
