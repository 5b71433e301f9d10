/-
  What the law AuthorityAgrees leans on, and its walk (20 of 43).
-/
import Derived.Test.YtegmcmgndllmaaaGreatDoorAuthorityAgreesPkM
import Derived.Test.YtegmcmgndllmaaaGreatDoorAuthorityAgreesPkT
import Derived.Test.YtegmcmgndllmaaaGreatDoorAuthorityAgreesPkW
import Derived.Test.YtegmcmgndllmaaaGreatDoorAuthorityAgreesPkX
namespace Go.Proofs.YtegmcmgndllmaaaGreatDoor
set_option maxRecDepth 100000
set_option maxHeartbeats 16000000
section
open Go.RowKit
theorem zqV {of l:List UInt8} (h: ∀c∈l,hasB of c=false) {b:UInt8} (f:hasB of b=true): ∀c∈l,(c==b)=false:=fun c d=>by
 rw [beq_eq_false_iff_ne]
 intro e
 have:=h c d
 rw [e,f] at this
 cases this
theorem zkY {l:List UInt8} {b:UInt8} (h:b∉l): ∀c∈l,(c==b)=false:=fun c d=>by
 rw [beq_eq_false_iff_ne]
 intro e
 exact h (e▸d)
theorem yjW {p:UInt8→Bool} {a b:List UInt8} (f: ∀c∈a,p c=false) (e: ∀c∈b,p c=false): ∀c∈a++b,p c=false:=fun c d=>by
 rcases List.mem_append.1 d with q|q
 ·exact f c q
 ·exact e c q
def allR (s:ByteArray) (d:Nat→Nat→Bool):Nat→Nat→Bool
 |0,_=>true
 |f+1,p=>if p<s.size then d p (Utf8.decode s p).1&&allR s d f (p+(Utf8.decode s p).2) else true
theorem znP (s:ByteArray) (d:Nat→Nat→Bool): ∀(f g p:Nat),s.size≤p+f→s.size≤p+g→allR s d f p=allR s d g p
 |0,0,_,_,_=>rfl
 |0,g+1,p,h,_=>by show true=_;unfold allR;rw [if_neg (by omega)]
 |f+1,0,p,_,h=>by show _=true;unfold allR;rw [if_neg (by omega)]
 |f+1,g+1,p,j,e=>by
  unfold allR
  by_cases h:p<s.size
  ·have i:=zeP s p h
   rw [if_pos h,if_pos h,znP s d f g _ (by omega) (by omega)]
  ·rw [if_neg h,if_neg h]
def allP (s:ByteArray) (d:Nat→Nat→Bool) (p:Nat):Bool:=allR s d s.size p
theorem zgS (s:ByteArray) (d:Nat→Nat→Bool) {p:Nat} (h: ¬p<s.size):allP s d p=true:=by
 unfold allP
 rw [znP s d s.size 0 p (by omega) (by omega)]
 rfl
theorem zhT (s:ByteArray) (d:Nat→Nat→Bool) {p:Nat} (h:p<s.size):allP s d p=(d p (Utf8.decode s p).1&&allP s d (p+(Utf8.decode s p).2)):=by
 have e:=zeP s p h
 unfold allP
 rw [znP s d s.size (s.size+1) p (by omega) (by omega)]
 conv=>lhs;unfold allR
 rw [if_pos h]
theorem zlR (s:ByteArray) (e:Nat→Nat→Bool) (q:UInt8→Bool) (f: ∀p (h:p<s.size),s[p].toNat<128→e p s[p].toNat=q s[p]) (j: ∀p r,128≤r→e p r=false) (i: ∀c:UInt8,128≤c.toNat→q c=false): ∀(n p:Nat),s.size≤p+n→allP s e p=(s.data.toList.drop p).all q
 |0,p,h=>by rw [zgS s e (by omega),zdP s p (by omega)];rfl
 |n+1,p,h=>by
  by_cases d:p<s.size
  ·rw [zhT s e d,zcP s p d,List.all_cons]
   by_cases g:s[p].toNat<128
   ·rw [decode_ascii s p d g,f p d g,zlR s e q f j i n (p+1) (by omega)]
   ·rw [j _ _ (decode_high s p d (by omega)).1,i _ (by omega)];rfl
  ·rw [zgS s e d,zdP s p d];rfl
def zeV (of l:List UInt8) (k:Nat):Bool:=(l.take k).all of.contains
theorem zyB (of:List UInt8): ∀(k:Nat) (l:List UInt8),(∀j,j<k→ ∃c,l[j]? =some c∧128≤c.toNat)→isA of l=(zeV of l k&&isA of (l.drop k))
 |0,l,_=>by simp [zeV]
 |k+1,[],h=>by obtain ⟨c,e,_⟩:=h 0 (by omega);simp at e
 |k+1,c::l,h=>by
  have o:=zyB of k l fun j A=>by have:=h (j+1) (by omega);simpa using this
  obtain ⟨d,e,g⟩:=h 0 (by omega)
  simp at e;subst e
  have m:zjZ c=false:=by
   have i: ∀d:Fin 256,128≤d.val→zjZ (UInt8.ofNat d.val)=false:=by decide+kernel
   have:=i ⟨c.toNat,c.toNat_lt⟩ g
   simp only [UInt8.ofNat_toNat] at this
   exact this
  have q:pctA (c::l)=false:=by
   have f:(c==37)=false:=beq_eq_false_iff_ne.2 fun e=>by rw [e] at g;exact absurd g (by decide)
   match l with
   |[]=>rfl
   |[_]=>rfl
   |d::e::l=>simp [pctA,f]
  rw [zrO,m,q,o,List.drop_succ_cons]
  simp [zeV,Bool.and_assoc]
def isPr (s:ByteArray) (of:List UInt8) (p r:Nat):Bool:=(decide (r<128)&&zjZ (UInt8.ofNat r))||pctA (s.data.toList.drop p)||zeV of (s.data.toList.drop p) (Utf8.decode s p).2
theorem yjE (s:ByteArray) (of:List UInt8): ∀(n p:Nat),s.size≤p+n→allP s (isPr s of) p=isA of (s.data.toList.drop p)
 |0,p,h=>by rw [zgS s _ (by omega),zdP s p (by omega)];rfl
 |n+1,p,h=>by
  by_cases f:p<s.size
  ·have D:=zeP s p f
   rw [zhT s _ f,yjE s of n (p+(Utf8.decode s p).2) (by omega)]
   unfold isPr
   by_cases i:s[p].toNat<128
   ·rw [decode_ascii s p f i,zcP s p f,zrO]
    simp only [i,decide_true,Bool.true_and,UInt8.ofNat_toNat]
    simp [zeV]
   ·have C:=zmG s p f (by omega)
    have e:=zyB of (Utf8.decode s p).2 (s.data.toList.drop p) fun j A=>by
     obtain ⟨c,m,q⟩:=C j A
     exact ⟨c,by rw [List.getElem?_drop];exact m,q⟩
    have o:pctA (s.data.toList.drop p)=false:=by
     rw [zcP s p f]
     have g:(s[p]==37)=false:=beq_eq_false_iff_ne.2 fun e=>i (by rw [e];decide)
     generalize s.data.toList.drop (p+1)=l
     match l with
     |[]=>rfl
     |[_]=>rfl
     |d::e::l=>simp [pctA,g]
    have B: ¬(Utf8.decode s p).1<128:=by have:=(decode_high s p f (by omega)).1;omega
    rw [e,o,decide_eq_false B,List.drop_drop]
    simp
  ·rw [zgS s _ f,zdP s p f];rfl
def zkZ (p r:Nat):Bool:=decide (r<128)&&(zgY (UInt8.ofNat r)||(decide (0<p)&&(zdF (UInt8.ofNat r)||[43,45,46].contains (UInt8.ofNat r))))
theorem zyL (c:UInt8) (h:128≤c.toNat):(zgY c||(zdF c||[43,45,46].contains c))=false:=by
 have e: ∀d:Fin 256,128≤d.val→(zgY (UInt8.ofNat d.val)||(zdF (UInt8.ofNat d.val)||[43,45,46].contains (UInt8.ofNat d.val)))=false:=by decide+kernel
 have:=e ⟨c.toNat,c.toNat_lt⟩ h
 simp only [UInt8.ofNat_toNat] at this
 exact this
theorem ylO (s:ByteArray):(!s.data.toList.isEmpty&&allP s zkZ 0)=zeA s.data.toList:=by
 by_cases j:0<s.size
 ·have f: ∀(n p:Nat),0<p→s.size≤p+n→allP s zkZ p=(s.data.toList.drop p).all fun d=>zgY d||(zdF d||[43,45,46].contains d):=by
   intro n
   induction n with
   |zero=>intro p _ h;rw [zgS s _ (by omega),zdP s p (by omega)];rfl
   |succ n A=>
    intro p m h
    by_cases e:p<s.size
    ·rw [zhT s _ e,zcP s p e,List.all_cons]
     unfold zkZ
     by_cases g:s[p].toNat<128
     ·rw [decode_ascii s p e g]
      simp only [g,decide_true,Bool.true_and,UInt8.ofNat_toNat,m]
      rw [←A (p+1) (by omega) (by omega)]
      rfl
     ·have o: ¬(Utf8.decode s p).1<128:=by have:=(decode_high s p e (by omega)).1;omega
      rw [decide_eq_false o,zyL _ (by omega)];rfl
    ·rw [zgS s _ e,zdP s p e];rfl
  have i:=zcP s 0 j
  rw [List.drop_zero] at i
  rw [zhT s _ j,i]
  show (true&&_)=zeA (s[0]::_)
  unfold zeA
  by_cases g:s[0].toNat<128
  ·rw [decode_ascii s 0 j g]
   show (true&&(zkZ 0 s[0].toNat&&allP s zkZ 1))=(zgY s[0]&&(s.data.toList.drop 1).all fun d=>zgY d||zdF d||[43,45,46].contains d)
   rw [f s.size 1 (by omega) (by omega)]
   unfold zkZ
   simp only [g,decide_true,Bool.true_and,UInt8.ofNat_toNat,Nat.lt_irrefl,decide_false,Bool.false_and,Bool.or_false,Bool.or_assoc]
  ·have o: ¬(Utf8.decode s 0).1<128:=by have:=(decode_high s 0 j (by omega)).1;omega
   have q:=zyL s[0] (by omega)
   simp only [Bool.or_eq_false_iff] at q
   unfold zkZ
   rw [decide_eq_false o]
   show _=(zgY s[0]&&_)
   rw [q.1]
   rfl
 ·have i:s.data.toList=[]:=List.eq_nil_of_length_eq_zero (by rw [zaN];omega)
  rw [i];rfl
end
end Go.Proofs.YtegmcmgndllmaaaGreatDoor
