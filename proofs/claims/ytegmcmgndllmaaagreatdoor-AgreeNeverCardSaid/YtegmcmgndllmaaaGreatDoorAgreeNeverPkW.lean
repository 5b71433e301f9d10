/-
  What the law AgreeNever leans on, and its walk (22 of 42).
-/
import Derived.Test.YtegmcmgndllmaaaGreatDoorAgreeNeverPkN
import Derived.Test.YtegmcmgndllmaaaGreatDoorAgreeNeverPkU
import Derived.Test.YtegmcmgndllmaaaGreatDoorAgreeNeverPkV
import Derived.Test.YtegmcmgndllmaaaGreatDoorAgreeNeverPkM
namespace Go.Proofs.YtegmcmgndllmaaaGreatDoor
set_option maxRecDepth 100000
set_option maxHeartbeats 16000000
section
open Go.RowKit
def allR (s:ByteArray) (d:Nat→Nat→Bool):Nat→Nat→Bool
 |0,_=>true
 |f+1,p=>if p<s.size then d p (Utf8.decode s p).1&&allR s d f (p+(Utf8.decode s p).2) else true
theorem znG (s:ByteArray) (d:Nat→Nat→Bool): ∀(f g p:Nat),s.size≤p+f→s.size≤p+g→allR s d f p=allR s d g p
 |0,0,_,_,_=>rfl
 |0,g+1,p,h,_=>by show true=_;unfold allR;rw [if_neg (by omega)]
 |f+1,0,p,_,h=>by show _=true;unfold allR;rw [if_neg (by omega)]
 |f+1,g+1,p,i,j=>by
  unfold allR
  by_cases h:p<s.size
  ·have m:=zeN s p h
   rw [if_pos h,if_pos h,znG s d f g _ (by omega) (by omega)]
  ·rw [if_neg h,if_neg h]
def allP (s:ByteArray) (d:Nat→Nat→Bool) (p:Nat):Bool:=allR s d s.size p
theorem zgN (s:ByteArray) (d:Nat→Nat→Bool) {p:Nat} (h: ¬p<s.size):allP s d p=true:=by
 unfold allP
 rw [znG s d s.size 0 p (by omega) (by omega)]
 rfl
theorem zhK (s:ByteArray) (d:Nat→Nat→Bool) {p:Nat} (h:p<s.size):allP s d p=(d p (Utf8.decode s p).1&&allP s d (p+(Utf8.decode s p).2)):=by
 have f:=zeN s p h
 unfold allP
 rw [znG s d s.size (s.size+1) p (by omega) (by omega)]
 conv=>lhs;unfold allR
 rw [if_pos h]
theorem zlN (s:ByteArray) (f:Nat→Nat→Bool) (q:UInt8→Bool) (i: ∀p (h:p<s.size),s[p].toNat<128→f p s[p].toNat=q s[p]) (j: ∀p r,128≤r→f p r=false) (o: ∀c:UInt8,128≤c.toNat→q c=false): ∀(n p:Nat),s.size≤p+n→allP s f p=(s.data.toList.drop p).all q
 |0,p,h=>by rw [zgN s f (by omega),zeB s p (by omega)];rfl
 |n+1,p,h=>by
  by_cases d:p<s.size
  ·rw [zhK s f d,zcP s p d,List.all_cons]
   by_cases m:s[p].toNat<128
   ·rw [decode_ascii s p d m,i p d m,zlN s f q i j o n (p+1) (by omega)]
   ·rw [j _ _ (decode_high s p d (by omega)).1,o _ (by omega)];rfl
  ·rw [zgN s f d,zeB s p d];rfl
def zfG (d l:List UInt8) (k:Nat):Bool:=(l.take k).all d.contains
theorem zxO (f:List UInt8): ∀(k:Nat) (l:List UInt8),(∀j,j<k→ ∃c,l[j]? =some c∧128≤c.toNat)→isA f l=(zfG f l k&&isA f (l.drop k))
 |0,l,_=>by simp [zfG]
 |k+1,[],h=>by obtain ⟨c,e,_⟩:=h 0 (by omega);simp at e
 |k+1,c::l,h=>by
  have B:=zxO f k l fun j C=>by have:=h (j+1) (by omega);simpa using this
  obtain ⟨d,e,i⟩:=h 0 (by omega)
  simp at e;subst e
  have o:ziJ c=false:=by
   have key: ∀d:Fin 256,128≤d.val→ziJ (UInt8.ofNat d.val)=false:=by decide+kernel
   have:=key ⟨c.toNat,c.toNat_lt⟩ i
   simp only [UInt8.ofNat_toNat] at this
   exact this
  have A:pctA (c::l)=false:=by
   have m:(c==37)=false:=beq_eq_false_iff_ne.2 fun e=>by rw [e] at i;exact absurd i (by decide)
   match l with
   |[]=>rfl
   |[_]=>rfl
   |d::e::l=>simp [pctA,m]
  rw [zlR,o,A,B,List.drop_succ_cons]
  simp [zfG,Bool.and_assoc]
def isPr (s:ByteArray) (d:List UInt8) (p r:Nat):Bool:=(decide (r<128)&&ziJ (UInt8.ofNat r))||pctA (s.data.toList.drop p)||zfG d (s.data.toList.drop p) (Utf8.decode s p).2
theorem ygJ (s:ByteArray) (i:List UInt8): ∀(n p:Nat),s.size≤p+n→allP s (isPr s i) p=isA i (s.data.toList.drop p)
 |0,p,h=>by rw [zgN s _ (by omega),zeB s p (by omega)];rfl
 |n+1,p,h=>by
  by_cases f:p<s.size
  ·have H:=zeN s p f
   rw [zhK s _ f,ygJ s i n (p+(Utf8.decode s p).2) (by omega)]
   unfold isPr
   by_cases m:s[p].toNat<128
   ·rw [decode_ascii s p f m,zcP s p f,zlR]
    simp only [m,decide_true,Bool.true_and,UInt8.ofNat_toNat]
    simp [zfG]
   ·have E:=zmP s p f (by omega)
    have e:=zxO i (Utf8.decode s p).2 (s.data.toList.drop p) fun j C=>by
     obtain ⟨c,A,B⟩:=E j C
     exact ⟨c,by rw [List.getElem?_drop];exact A,B⟩
    have G:pctA (s.data.toList.drop p)=false:=by
     rw [zcP s p f]
     have o:(s[p]==37)=false:=beq_eq_false_iff_ne.2 fun e=>m (by rw [e];decide)
     generalize s.data.toList.drop (p+1)=l
     match l with
     |[]=>rfl
     |[_]=>rfl
     |d::e::l=>simp [pctA,o]
    have D: ¬(Utf8.decode s p).1<128:=by have:=(decode_high s p f (by omega)).1;omega
    rw [e,G,decide_eq_false D,List.drop_drop]
    simp
  ·rw [zgN s _ f,zeB s p f];rfl
def zkY (p r:Nat):Bool:=decide (r<128)&&(zgB (UInt8.ofNat r)||(decide (0<p)&&(zdD (UInt8.ofNat r)||[43,45,46].contains (UInt8.ofNat r))))
theorem zyG (c:UInt8) (h:128≤c.toNat):(zgB c||(zdD c||[43,45,46].contains c))=false:=by
 have key: ∀d:Fin 256,128≤d.val→(zgB (UInt8.ofNat d.val)||(zdD (UInt8.ofNat d.val)||[43,45,46].contains (UInt8.ofNat d.val)))=false:=by decide+kernel
 have:=key ⟨c.toNat,c.toNat_lt⟩ h
 simp only [UInt8.ofNat_toNat] at this
 exact this
theorem yiR (s:ByteArray):(!s.data.toList.isEmpty&&allP s zkY 0)=zcZ s.data.toList:=by
 by_cases m:0<s.size
 ·have j: ∀(n p:Nat),0<p→s.size≤p+n→allP s zkY p=(s.data.toList.drop p).all fun d=>zgB d||(zdD d||[43,45,46].contains d):=by
   intro n
   induction n with
   |zero=>intro p _ h;rw [zgN s _ (by omega),zeB s p (by omega)];rfl
   |succ n D=>
    intro p B h
    by_cases f:p<s.size
    ·rw [zhK s _ f,zcP s p f,List.all_cons]
     unfold zkY
     by_cases i:s[p].toNat<128
     ·rw [decode_ascii s p f i]
      simp only [i,decide_true,Bool.true_and,UInt8.ofNat_toNat,B]
      rw [←D (p+1) (by omega) (by omega)]
      rfl
     ·have A: ¬(Utf8.decode s p).1<128:=by have:=(decode_high s p f (by omega)).1;omega
      rw [decide_eq_false A,zyG _ (by omega)];rfl
    ·rw [zgN s _ f,zeB s p f];rfl
  have o:=zcP s 0 m
  rw [List.drop_zero] at o
  rw [zhK s _ m,o]
  show (true&&_)=zcZ (s[0]::_)
  unfold zcZ
  by_cases i:s[0].toNat<128
  ·rw [decode_ascii s 0 m i]
   show (true&&(zkY 0 s[0].toNat&&allP s zkY 1))=(zgB s[0]&&(s.data.toList.drop 1).all fun d=>zgB d||zdD d||[43,45,46].contains d)
   rw [j s.size 1 (by omega) (by omega)]
   unfold zkY
   simp only [i,decide_true,Bool.true_and,UInt8.ofNat_toNat,Nat.lt_irrefl,decide_false,Bool.false_and,Bool.or_false,Bool.or_assoc]
  ·have A: ¬(Utf8.decode s 0).1<128:=by have:=(decode_high s 0 m (by omega)).1;omega
   have C:=zyG s[0] (by omega)
   simp only [Bool.or_eq_false_iff] at C
   unfold zkY
   rw [decide_eq_false A]
   show _=(zgB s[0]&&_)
   rw [C.1]
   rfl
 ·have o:s.data.toList=[]:=List.eq_nil_of_length_eq_zero (by rw [zaR];omega)
  rw [o];rfl
end
end Go.Proofs.YtegmcmgndllmaaaGreatDoor
