/-
  What the law ResolveMeets leans on, and its walk (23 of 46).
-/
import Derived.Test.YtmjappnpedjlnaaGreatDoorResolveMeetsPkO
import Derived.Test.YtmjappnpedjlnaaGreatDoorResolveMeetsPkV
import Derived.Test.YtmjappnpedjlnaaGreatDoorResolveMeetsPkW
import Derived.Test.YtmjappnpedjlnaaGreatDoorResolveMeetsPkM
namespace Go.Proofs.YtmjappnpedjlnaaGreatDoor
set_option maxRecDepth 100000
set_option maxHeartbeats 16000000
section
open Go.RowKit
def allR (s:ByteArray) (pr:Nat→Nat→Bool):Nat→Nat→Bool
 |0,_=>true
 |f+1,p=>if p<s.size then pr p (Utf8.decode s p).1&&allR s pr f (p+(Utf8.decode s p).2) else true
theorem znL (s:ByteArray) (pr:Nat→Nat→Bool): ∀(f g p:Nat),s.size≤p+f→s.size≤p+g→allR s pr f p=allR s pr g p
 |0,0,_,_,_=>rfl
 |0,g+1,p,h,_=>by show true=_;unfold allR;rw [if_neg (by omega)]
 |f+1,0,p,_,h=>by show _=true;unfold allR;rw [if_neg (by omega)]
 |f+1,g+1,p,hf,hg=>by
  unfold allR
  by_cases h:p<s.size
  ·have hw:=zfC s p h
   rw [if_pos h,if_pos h,znL s pr f g _ (by omega) (by omega)]
  ·rw [if_neg h,if_neg h]
def allP (s:ByteArray) (pr:Nat→Nat→Bool) (p:Nat):Bool:=allR s pr s.size p
theorem zhC (s:ByteArray) (pr:Nat→Nat→Bool) {p:Nat} (h: ¬p<s.size):allP s pr p=true:=by
 unfold allP
 rw [znL s pr s.size 0 p (by omega) (by omega)]
 rfl
theorem ziE (s:ByteArray) (pr:Nat→Nat→Bool) {p:Nat} (h:p<s.size):allP s pr p=(pr p (Utf8.decode s p).1&&allP s pr (p+(Utf8.decode s p).2)):=by
 have hw:=zfC s p h
 unfold allP
 rw [znL s pr s.size (s.size+1) p (by omega) (by omega)]
 conv=>lhs;unfold allR
 rw [if_pos h]
theorem zmN (s:ByteArray) (pr:Nat→Nat→Bool) (q:UInt8→Bool) (h1: ∀p (h:p<s.size),s[p].toNat<128→pr p s[p].toNat=q s[p]) (h2: ∀p r,128≤r→pr p r=false) (h3: ∀c:UInt8,128≤c.toNat→q c=false): ∀(n p:Nat),s.size≤p+n→allP s pr p=(s.data.toList.drop p).all q
 |0,p,h=>by rw [zhC s pr (by omega),zeE s p (by omega)];rfl
 |n+1,p,h=>by
  by_cases hp:p<s.size
  ·rw [ziE s pr hp,zcU s p hp,List.all_cons]
   by_cases hc:s[p].toNat<128
   ·rw [decode_ascii s p hp hc,h1 p hp hc,zmN s pr q h1 h2 h3 n (p+1) (by omega)]
   ·rw [h2 _ _ (decode_high s p hp (by omega)).1,h3 _ (by omega)];rfl
  ·rw [zhC s pr hp,zeE s p hp];rfl
def zfY (of l:List UInt8) (k:Nat):Bool:=(l.take k).all of.contains
theorem zzN (of:List UInt8): ∀(k:Nat) (l:List UInt8),(∀j,j<k→ ∃c,l[j]? =some c∧128≤c.toNat)→isA of l=(zfY of l k&&isA of (l.drop k))
 |0,l,_=>by simp [zfY]
 |k+1,[],h=>by obtain ⟨c,e,_⟩:=h 0 (by omega);simp at e
 |k+1,c::l,h=>by
  have ih:=zzN of k l fun j hj=>by have:=h (j+1) (by omega);simpa using this
  obtain ⟨d,e,hd⟩:=h 0 (by omega)
  simp at e;subst e
  have h1:zhN c=false:=by
   have key: ∀d:Fin 256,128≤d.val→zhN (UInt8.ofNat d.val)=false:=by decide+kernel
   have:=key ⟨c.toNat,c.toNat_lt⟩ hd
   simp only [UInt8.ofNat_toNat] at this
   exact this
  have h2:pctA (c::l)=false:=by
   have h37:(c==37)=false:=beq_eq_false_iff_ne.2 fun e=>by rw [e] at hd;exact absurd hd (by decide)
   match l with
   |[]=>rfl
   |[_]=>rfl
   |d::e::l=>simp [pctA,h37]
  rw [zgA,h1,h2,ih,List.drop_succ_cons]
  simp [zfY,Bool.and_assoc]
def isPr (s:ByteArray) (of:List UInt8) (p r:Nat):Bool:=(decide (r<128)&&zhN (UInt8.ofNat r))||pctA (s.data.toList.drop p)||zfY of (s.data.toList.drop p) (Utf8.decode s p).2
theorem ykK (s:ByteArray) (of:List UInt8): ∀(n p:Nat),s.size≤p+n→allP s (isPr s of) p=isA of (s.data.toList.drop p)
 |0,p,h=>by rw [zhC s _ (by omega),zeE s p (by omega)];rfl
 |n+1,p,h=>by
  by_cases hp:p<s.size
  ·have hw:=zfC s p hp
   rw [ziE s _ hp,ykK s of n (p+(Utf8.decode s p).2) (by omega)]
   unfold isPr
   by_cases hc:s[p].toNat<128
   ·rw [decode_ascii s p hp hc,zcU s p hp,zgA]
    simp only [hc,decide_true,Bool.true_and,UInt8.ofNat_toNat]
    simp [zfY]
   ·have hd:=zoI s p hp (by omega)
    have e:=zzN of (Utf8.decode s p).2 (s.data.toList.drop p) fun j hj=>by
     obtain ⟨c,h1,h2⟩:=hd j hj
     exact ⟨c,by rw [List.getElem?_drop];exact h1,h2⟩
    have h3:pctA (s.data.toList.drop p)=false:=by
     rw [zcU s p hp]
     have h37:(s[p]==37)=false:=beq_eq_false_iff_ne.2 fun e=>hc (by rw [e];decide)
     generalize s.data.toList.drop (p+1)=l
     match l with
     |[]=>rfl
     |[_]=>rfl
     |d::e::l=>simp [pctA,h37]
    have h4: ¬(Utf8.decode s p).1<128:=by have:=(decode_high s p hp (by omega)).1;omega
    rw [e,h3,decide_eq_false h4,List.drop_drop]
    simp
  ·rw [zhC s _ hp,zeE s p hp];rfl
def zlH (p r:Nat):Bool:=decide (r<128)&&(zhS (UInt8.ofNat r)||(decide (0<p)&&(zdL (UInt8.ofNat r)||[43,45,46].contains (UInt8.ofNat r))))
theorem z2Q (c:UInt8) (h:128≤c.toNat):(zhS c||(zdL c||[43,45,46].contains c))=false:=by
 have key: ∀d:Fin 256,128≤d.val→(zhS (UInt8.ofNat d.val)||(zdL (UInt8.ofNat d.val)||[43,45,46].contains (UInt8.ofNat d.val)))=false:=by decide+kernel
 have:=key ⟨c.toNat,c.toNat_lt⟩ h
 simp only [UInt8.ofNat_toNat] at this
 exact this
theorem ylB (s:ByteArray):(!s.data.toList.isEmpty&&allP s zlH 0)=zdR s.data.toList:=by
 by_cases h0:0<s.size
 ·have tail: ∀(n p:Nat),0<p→s.size≤p+n→allP s zlH p=(s.data.toList.drop p).all fun d=>zhS d||(zdL d||[43,45,46].contains d):=by
   intro n
   induction n with
   |zero=>intro p _ h;rw [zhC s _ (by omega),zeE s p (by omega)];rfl
   |succ n ih=>
    intro p hp0 h
    by_cases hp:p<s.size
    ·rw [ziE s _ hp,zcU s p hp,List.all_cons]
     unfold zlH
     by_cases hc:s[p].toNat<128
     ·rw [decode_ascii s p hp hc]
      simp only [hc,decide_true,Bool.true_and,UInt8.ofNat_toNat,hp0]
      rw [←ih (p+1) (by omega) (by omega)]
      rfl
     ·have h4: ¬(Utf8.decode s p).1<128:=by have:=(decode_high s p hp (by omega)).1;omega
      rw [decide_eq_false h4,z2Q _ (by omega)];rfl
    ·rw [zhC s _ hp,zeE s p hp];rfl
  have hl:=zcU s 0 h0
  rw [List.drop_zero] at hl
  rw [ziE s _ h0,hl]
  show (true&&_)=zdR (s[0]::_)
  unfold zdR
  by_cases hc:s[0].toNat<128
  ·rw [decode_ascii s 0 h0 hc]
   show (true&&(zlH 0 s[0].toNat&&allP s zlH 1))=(zhS s[0]&&(s.data.toList.drop 1).all fun d=>zhS d||zdL d||[43,45,46].contains d)
   rw [tail s.size 1 (by omega) (by omega)]
   unfold zlH
   simp only [hc,decide_true,Bool.true_and,UInt8.ofNat_toNat,Nat.lt_irrefl,decide_false,Bool.false_and,Bool.or_false,Bool.or_assoc]
  ·have h4: ¬(Utf8.decode s 0).1<128:=by have:=(decode_high s 0 h0 (by omega)).1;omega
   have h5:=z2Q s[0] (by omega)
   simp only [Bool.or_eq_false_iff] at h5
   unfold zlH
   rw [decide_eq_false h4]
   show _=(zhS s[0]&&_)
   rw [h5.1]
   rfl
 ·have hl:s.data.toList=[]:=List.eq_nil_of_length_eq_zero (by rw [zaN];omega)
  rw [hl];rfl
theorem zrS {of l:List UInt8} (h: ∀c∈l,hasB of c=false) {b:UInt8} (hb:hasB of b=true): ∀c∈l,(c==b)=false:=fun c hc=>by
 rw [beq_eq_false_iff_ne]
 intro e
 have:=h c hc
 rw [e,hb] at this
 cases this
theorem ziI {l:List UInt8} {b:UInt8} (h:b∉l): ∀c∈l,(c==b)=false:=fun c hc=>by
 rw [beq_eq_false_iff_ne]
 intro e
 exact h (e▸hc)
theorem ymT {p:UInt8→Bool} {a b:List UInt8} (ha: ∀c∈a,p c=false) (hb: ∀c∈b,p c=false): ∀c∈a++b,p c=false:=fun c hc=>by
 rcases List.mem_append.1 hc with q|q
 ·exact ha c q
 ·exact hb c q
end
end Go.Proofs.YtmjappnpedjlnaaGreatDoor
