/-
  What the law AuthorityAgrees leans on, and its walk (36 of 43).
-/
import Derived.Shelf.GgClosure.StringsTrimFunc
import Derived.Lib.TrimAscii
import Derived.Test.YtegmcmgndllmaaaGreatDoorAuthorityAgreesPkT
import Derived.Test.YtegmcmgndllmaaaGreatDoorAuthorityAgreesPkR
namespace Go.Proofs.YtegmcmgndllmaaaGreatDoor
set_option maxRecDepth 100000
set_option maxHeartbeats 16000000
section
open Go.RowKit
theorem ygF (n l:List UInt8):(zeG n l).1.host.In:=by
 unfold zeG
 simp only
 split
 ·trivial
 ·split
  ·trivial
  ·split
   ·trivial
   ·show (zdQ _ _ _).host.In
    unfold zdQ zkH
    rw [(yfP _ _).2.2.2.1,(ygN _ _).2.2.2.1]
    exact yeX _
theorem z7J (t:List UInt8):(zbL t none).1.host.In:=by
 unfold zbL
 split
 ·trivial
 ·unfold znE
  split
  ·trivial
  ·rename_i h;cases h
  ·split
   ·exact ygF _ _
   ·trivial
  ·rename_i h;cases h
end
end Go.Proofs.YtegmcmgndllmaaaGreatDoor
