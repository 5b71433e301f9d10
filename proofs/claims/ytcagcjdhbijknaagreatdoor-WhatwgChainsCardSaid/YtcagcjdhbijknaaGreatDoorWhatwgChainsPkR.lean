/-
  What the law WhatwgChains leans on, and its walk (18 of 33).
-/
import Derived.Shelf.GgClosure.StringsTrimFunc
import Derived.Lib.TrimAscii
import Derived.Test.YtcagcjdhbijknaaGreatDoorWhatwgChainsPkQ
import Derived.Test.YtcagcjdhbijknaaGreatDoorWhatwgChainsPkP
namespace Go.Proofs.YtcagcjdhbijknaaGreatDoor
set_option maxRecDepth 100000
set_option maxHeartbeats 16000000
section
open Go.RowKit
theorem zrU (n l:List UInt8):(zcU n l).1.host.In:=by
 unfold zcU
 simp only
 split
 ·trivial
 ·split
  ·trivial
  ·split
   ·trivial
   ·show (zcY _ _ _).host.In
    unfold zcY zdC
    rw [(zkI _ _).2.2.2.1,(zkA _ _).2.2.2.1]
    exact ybN _
theorem z6F (t:List UInt8):(zaQ t none).1.host.In:=by
 unfold zaQ
 split
 ·trivial
 ·unfold zeB
  split
  ·trivial
  ·rename_i h;cases h
  ·split
   ·exact zrU _ _
   ·trivial
  ·rename_i h;cases h
end
end Go.Proofs.YtcagcjdhbijknaaGreatDoor
