/-
  What the law WhatwgChains leans on, and its walk (26 of 33).
-/
import Derived.Test.YtcagcjdhbijknaaGreatDoorWhatwgChainsPkR
import Derived.Test.YtcagcjdhbijknaaGreatDoorWhatwgChainsPkZ
namespace Go.Proofs.YtcagcjdhbijknaaGreatDoor
set_option maxRecDepth 100000
set_option maxHeartbeats 16000000
section
open Go.RowKit
theorem zoA (u:UZ) (p:List (List UInt8)) (l:List UInt8):(zcY u p l).host=u.host:=by
 unfold zcY zdC
 rw [(zkI _ _).2.2.2.1,(zkA _ _).2.2.2.1]
theorem zqJ (u:UZ) (l:List UInt8):(zdC u l).host=u.host:=by
 unfold zdC
 rw [(zkI _ _).2.2.2.1,(zkA _ _).2.2.2.1]
theorem z8X {b:UZ} (hb:b.host.In) (l:List UInt8):(relW b l).1.host.In:=by
 unfold relW
 simp only
 split
 ·exact zrU _ _
 split
 ·rw [zoA];exact hb
 split
 ·rw [zqJ];exact hb
 split
 ·rw [zqJ];exact hb
 ·rw [zoA];exact hb
theorem z5I (t:List UInt8) {b:UZ} (hb:b.host.In):(zaQ t (some b)).1.host.In:=by
 unfold zaQ
 split
 ·trivial
 ·unfold zeB
  split
  ·rename_i h;cases h
  ·rename_i h;cases h;exact z8X hb _
  ·rename_i h;cases h
  ·rename_i h
   cases h
   split
   ·split
    ·exact zrU _ _
    ·exact z8X hb _
   ·trivial
theorem zuF: ∀(l:List (List UInt8)) (c:UZ×Int),c.1.host.In→(zeD c l).1.host.In
 |[],c,h=>by rw [zeD];exact h
 |t::r,c,h=>by
  rw [zeD]
  split
  ·exact zuF r _ (z5I t h)
  ·exact h
theorem zqD: ∀(l:List (List UInt8)) (c:UZ×Int) (n:Nat),c.1.path.length≤n→(zeD c l).1.path.length≤n+4098*l.length
 |[],c,n,h=>by rw [zeD];simpa using h
 |t::r,c,n,h=>by
  rw [zeD]
  split
  ·have h1:=zqD r _ _ (zfQ t (some c.1) n (fun u e=>by cases e;exact h))
   rw [List.length_cons];omega
  ·rw [List.length_cons];omega
end
end Go.Proofs.YtcagcjdhbijknaaGreatDoor
