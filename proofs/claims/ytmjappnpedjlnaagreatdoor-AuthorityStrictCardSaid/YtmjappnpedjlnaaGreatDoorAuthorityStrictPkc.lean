/-
  What the law AuthorityStrict leans on, and its walk (28 of 35).
-/
import Derived.Lib.LastIndexByte
import Derived.Test.YtmjappnpedjlnaaGreatDoorAuthorityStrictPkT
import Derived.Test.YtmjappnpedjlnaaGreatDoorAuthorityStrictPkb
namespace Go.Proofs.YtmjappnpedjlnaaGreatDoor
set_option maxRecDepth 100000
set_option maxHeartbeats 16000000
section
open Go.RowKit
def digP:Int→List UInt8→Option Int
 |n,[]=>some n
 |n,c::r=>if zaU c.toNat=true then digP (min (10*n+((c.toNat:Int) - 48)) 65536) r else none
theorem zpQ: ∀(l:List UInt8) (n m:Int),n=m∨(65535<n∧n≤65536∧65535<m)→(digP n l=none∧zgH m l=none)∨ ∃a b,digP n l=some a∧zgH m l=some b∧(a=b∨(65535<a∧a≤65536∧65535<b))
 |[],n,m,h=> .inr ⟨n,m,rfl,rfl,h⟩
 |c::r,n,m,h=>by
  cases hd:zaU c.toNat with
  |false=>exact .inl ⟨by rw [digP,if_neg (by rw [hd];decide)],by rw [zgH,if_neg (by rw [hd];decide)]⟩
  |true=>
   have h48:48≤(c.toNat:Int)∧(c.toNat:Int)≤57:=by simpa [zaU] using hd
   rw [digP,if_pos hd,zgH,if_pos hd]
   refine zpQ r _ _ ?_
   split<;>omega
theorem zsW: ∀(l:List UInt8) (n m:Int),0≤n→n≤65536→digP n l=some m→0≤m∧m≤65536
 |[],n,m,h0,h1,h=>by simp [digP] at h;omega
 |c::r,n,m,h0,h1,h=>by
  rw [digP] at h
  split at h
  ·rename_i hd
   have h48:48≤(c.toNat:Int)∧(c.toNat:Int)≤57:=by simpa [zaU] using hd
   exact zsW r _ m (by omega) (by omega) h
  ·cases h
end
end Go.Proofs.YtmjappnpedjlnaaGreatDoor
