/-
  What the law AuthorityStrict leans on, and its walk (29 of 35).
-/
import Derived.Test.YtmjappnpedjlnaaGreatDoorAuthorityStrictPkY
import Derived.Test.YtmjappnpedjlnaaGreatDoorAuthorityStrictPkc
import Derived.Test.YtmjappnpedjlnaaGreatDoorAuthorityStrictPkQ
import Derived.Test.YtmjappnpedjlnaaGreatDoorAuthorityStrictPkR
namespace Go.Proofs.YtmjappnpedjlnaaGreatDoor
set_option maxRecDepth 100000
set_option maxHeartbeats 16000000
abbrev z0K := @beq_eq_false_iff_ne
section
open Go.RowKit
theorem ztO (s:List UInt8) (w:World):Calls Tryz.prog 68 #[.string ⟨s.toArray⟩] w fun e w'=>e= .returned (.int .i64 (ownZ s))∧w=w':=by
 by_cases h1:s=zyS
 ·subst h1
  go_enter Tryz.func68,Tryz.ntmps68
  go_wp2
  go_ret
  exact ⟨rfl,rfl⟩
 ·by_cases h2:s=zuD
  ·subst h2
   go_enter Tryz.func68,Tryz.ntmps68
   go_wp2
   go_ret
   exact ⟨rfl,rfl⟩
  ·have HF:Hid (ownZ s=0):=by show _=_;unfold ownZ;rw [if_neg h1,if_neg h2]
   have e1:(s==[104,116,116,112])=false:=by rw [z0K];exact h1
   have e2:(s==[104,116,116,112,115])=false:=by rw [z0K];exact h2
   clear h1 h2
   go_enter Tryz.func68,Tryz.ntmps68
   go_wp2
   go_ret
   exact ⟨by rw [HF.out];rfl,rfl⟩
theorem ztL (s:ByteArray) (k:Nat) (h:k<s.size) (hc: ¬s[k].toNat<128):128≤(Utf8.decode s k).1:=(decode_high s k h (by omega)).1
theorem zyT {c:Nat} (h:zaU (c:Int)=true):valZ (c:Int)=(c:Int) - 48∧48≤c∧c≤57:=by
 have h48:48≤(c:Int)∧(c:Int)≤57:=by simpa [zaU] using h
 refine ⟨?_,by omega,by omega⟩
 unfold valZ
 (repeat' split)<;>omega
theorem zmG (s:List UInt8) (w:World):Calls Tryz.prog 80 #[.string ⟨s.toArray⟩] w fun e w'=>e= .returned (.int .i64 (ownZ s))∧w=w':=by
 by_cases h1:s=zyS
 ·subst h1
  go_enter Tryz.func80,Tryz.ntmps80
  go_wp2
  go_ret
  exact ⟨rfl,rfl⟩
 ·by_cases h2:s=zuD
  ·subst h2
   go_enter Tryz.func80,Tryz.ntmps80
   go_wp2
   go_ret
   exact ⟨rfl,rfl⟩
  ·have HF:Hid (ownZ s=0):=by show _=_;unfold ownZ;rw [if_neg h1,if_neg h2]
   have e1:(s==[104,116,116,112])=false:=by rw [z0K];exact h1
   have e2:(s==[104,116,116,112,115])=false:=by rw [z0K];exact h2
   clear h1 h2
   go_enter Tryz.func80,Tryz.ntmps80
   go_wp2
   go_ret
   exact ⟨by rw [HF.out];rfl,rfl⟩
theorem zxX (l:List UInt8) (k:Nat) (h:k<l.length): ∃(hk:k<(ByteArray.mk l.toArray).size) (c:UInt8),(ByteArray.mk l.toArray)[k]=c∧l.drop k=c::l.drop (k+1)∧c∈l:=
 ⟨by rw [zaA];exact h,l[k],rfl,List.drop_eq_getElem_cons h,List.getElem_mem h⟩
theorem zxO {l:List UInt8} (h:l≠[]):zeS l=match zgH 0 l with|none=> -2|some n=>if n>65535 then -2 else n:=by
 unfold zeS;rw [if_neg h];cases zgH 0 l<;>rfl
theorem zwQ {c:UInt8} (h:zaU (c.toNat:Int)=true):48≤(c.toNat:Int)∧(c.toNat:Int)≤57:=by simpa [zaU] using h
end
end Go.Proofs.YtmjappnpedjlnaaGreatDoor
