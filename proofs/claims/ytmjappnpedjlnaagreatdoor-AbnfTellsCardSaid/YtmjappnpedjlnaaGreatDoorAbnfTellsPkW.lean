/-
  What the law AbnfTells leans on, and its walk (22 of 27).
-/
import Derived.Test.YtmjappnpedjlnaaGreatDoorAbnfTellsPkN
import Derived.Test.YtmjappnpedjlnaaGreatDoorAbnfTellsPkU
import Derived.Test.YtmjappnpedjlnaaGreatDoorAbnfTellsPkV
namespace Go.Proofs.YtmjappnpedjlnaaGreatDoor
set_option maxRecDepth 100000
set_option maxHeartbeats 16000000
section
open Go.RowKit
def allR (s:ByteArray) (pr:Nat→Nat→Bool):Nat→Nat→Bool
 |0,_=>true
 |f+1,p=>if p<s.size then pr p (Utf8.decode s p).1&&allR s pr f (p+(Utf8.decode s p).2) else true
theorem zhE (s:ByteArray) (pr:Nat→Nat→Bool): ∀(f g p:Nat),s.size≤p+f→s.size≤p+g→allR s pr f p=allR s pr g p
 |0,0,_,_,_=>rfl
 |0,g+1,p,h,_=>by show true=_;unfold allR;rw [if_neg (by omega)]
 |f+1,0,p,_,h=>by show _=true;unfold allR;rw [if_neg (by omega)]
 |f+1,g+1,p,hf,hg=>by
  unfold allR
  by_cases h:p<s.size
  ·have hw:=zeL s p h
   rw [if_pos h,if_pos h,zhE s pr f g _ (by omega) (by omega)]
  ·rw [if_neg h,if_neg h]
def allP (s:ByteArray) (pr:Nat→Nat→Bool) (p:Nat):Bool:=allR s pr s.size p
theorem zdZ (s:ByteArray) (pr:Nat→Nat→Bool) {p:Nat} (h: ¬p<s.size):allP s pr p=true:=by
 unfold allP
 rw [zhE s pr s.size 0 p (by omega) (by omega)]
 rfl
theorem zeI (s:ByteArray) (pr:Nat→Nat→Bool) {p:Nat} (h:p<s.size):allP s pr p=(pr p (Utf8.decode s p).1&&allP s pr (p+(Utf8.decode s p).2)):=by
 have hw:=zeL s p h
 unfold allP
 rw [zhE s pr s.size (s.size+1) p (by omega) (by omega)]
 conv=>lhs;unfold allR
 rw [if_pos h]
theorem zgM (s:ByteArray) (pr:Nat→Nat→Bool) (q:UInt8→Bool) (h1: ∀p (h:p<s.size),s[p].toNat<128→pr p s[p].toNat=q s[p]) (h2: ∀p r,128≤r→pr p r=false) (h3: ∀c:UInt8,128≤c.toNat→q c=false): ∀(n p:Nat),s.size≤p+n→allP s pr p=(s.data.toList.drop p).all q
 |0,p,h=>by rw [zdZ s pr (by omega),zdB s p (by omega)];rfl
 |n+1,p,h=>by
  by_cases hp:p<s.size
  ·rw [zeI s pr hp,zcJ s p hp,List.all_cons]
   by_cases hc:s[p].toNat<128
   ·rw [decode_ascii s p hp hc,h1 p hp hc,zgM s pr q h1 h2 h3 n (p+1) (by omega)]
   ·rw [h2 _ _ (decode_high s p hp (by omega)).1,h3 _ (by omega)];rfl
  ·rw [zdZ s pr hp,zdB s p hp];rfl
def zdM (of l:List UInt8) (k:Nat):Bool:=(l.take k).all of.contains
theorem zoB (of:List UInt8): ∀(k:Nat) (l:List UInt8),(∀j,j<k→ ∃c,l[j]? =some c∧128≤c.toNat)→isA of l=(zdM of l k&&isA of (l.drop k))
 |0,l,_=>by simp [zdM]
 |k+1,[],h=>by obtain ⟨c,e,_⟩:=h 0 (by omega);simp at e
 |k+1,c::l,h=>by
  have ih:=zoB of k l fun j hj=>by have:=h (j+1) (by omega);simpa using this
  obtain ⟨d,e,hd⟩:=h 0 (by omega)
  simp at e;subst e
  have h1:zeX c=false:=by
   have key: ∀d:Fin 256,128≤d.val→zeX (UInt8.ofNat d.val)=false:=by decide+kernel
   have:=key ⟨c.toNat,c.toNat_lt⟩ hd
   simp only [UInt8.ofNat_toNat] at this
   exact this
  have h2:pctA (c::l)=false:=by
   have h37:(c==37)=false:=beq_eq_false_iff_ne.2 fun e=>by rw [e] at hd;exact absurd hd (by decide)
   match l with
   |[]=>rfl
   |[_]=>rfl
   |d::e::l=>simp [pctA,h37]
  rw [zjI,h1,h2,ih,List.drop_succ_cons]
  simp [zdM,Bool.and_assoc]
def isPr (s:ByteArray) (of:List UInt8) (p r:Nat):Bool:=(decide (r<128)&&zeX (UInt8.ofNat r))||pctA (s.data.toList.drop p)||zdM of (s.data.toList.drop p) (Utf8.decode s p).2
theorem zvA (s:ByteArray) (of:List UInt8): ∀(n p:Nat),s.size≤p+n→allP s (isPr s of) p=isA of (s.data.toList.drop p)
 |0,p,h=>by rw [zdZ s _ (by omega),zdB s p (by omega)];rfl
 |n+1,p,h=>by
  by_cases hp:p<s.size
  ·have hw:=zeL s p hp
   rw [zeI s _ hp,zvA s of n (p+(Utf8.decode s p).2) (by omega)]
   unfold isPr
   by_cases hc:s[p].toNat<128
   ·rw [decode_ascii s p hp hc,zcJ s p hp,zjI]
    simp only [hc,decide_true,Bool.true_and,UInt8.ofNat_toNat]
    simp [zdM]
   ·have hd:=zkW s p hp (by omega)
    have e:=zoB of (Utf8.decode s p).2 (s.data.toList.drop p) fun j hj=>by
     obtain ⟨c,h1,h2⟩:=hd j hj
     exact ⟨c,by rw [List.getElem?_drop];exact h1,h2⟩
    have h3:pctA (s.data.toList.drop p)=false:=by
     rw [zcJ s p hp]
     have h37:(s[p]==37)=false:=beq_eq_false_iff_ne.2 fun e=>hc (by rw [e];decide)
     generalize s.data.toList.drop (p+1)=l
     match l with
     |[]=>rfl
     |[_]=>rfl
     |d::e::l=>simp [pctA,h37]
    have h4: ¬(Utf8.decode s p).1<128:=by have:=(decode_high s p hp (by omega)).1;omega
    rw [e,h3,decide_eq_false h4,List.drop_drop]
    simp
  ·rw [zdZ s _ hp,zdB s p hp];rfl
def zgD (p r:Nat):Bool:=decide (r<128)&&(zcW (UInt8.ofNat r)||(decide (0<p)&&(zbC (UInt8.ofNat r)||[43,45,46].contains (UInt8.ofNat r))))
theorem znV (c:UInt8) (h:128≤c.toNat):(zcW c||(zbC c||[43,45,46].contains c))=false:=by
 have key: ∀d:Fin 256,128≤d.val→(zcW (UInt8.ofNat d.val)||(zbC (UInt8.ofNat d.val)||[43,45,46].contains (UInt8.ofNat d.val)))=false:=by decide+kernel
 have:=key ⟨c.toNat,c.toNat_lt⟩ h
 simp only [UInt8.ofNat_toNat] at this
 exact this
theorem zwI (s:ByteArray):(!s.data.toList.isEmpty&&allP s zgD 0)=zbF s.data.toList:=by
 by_cases h0:0<s.size
 ·have tail: ∀(n p:Nat),0<p→s.size≤p+n→allP s zgD p=(s.data.toList.drop p).all fun d=>zcW d||(zbC d||[43,45,46].contains d):=by
   intro n
   induction n with
   |zero=>intro p _ h;rw [zdZ s _ (by omega),zdB s p (by omega)];rfl
   |succ n ih=>
    intro p hp0 h
    by_cases hp:p<s.size
    ·rw [zeI s _ hp,zcJ s p hp,List.all_cons]
     unfold zgD
     by_cases hc:s[p].toNat<128
     ·rw [decode_ascii s p hp hc]
      simp only [hc,decide_true,Bool.true_and,UInt8.ofNat_toNat,hp0]
      rw [←ih (p+1) (by omega) (by omega)]
      rfl
     ·have h4: ¬(Utf8.decode s p).1<128:=by have:=(decode_high s p hp (by omega)).1;omega
      rw [decide_eq_false h4,znV _ (by omega)];rfl
    ·rw [zdZ s _ hp,zdB s p hp];rfl
  have hl:=zcJ s 0 h0
  rw [List.drop_zero] at hl
  rw [zeI s _ h0,hl]
  show (true&&_)=zbF (s[0]::_)
  unfold zbF
  by_cases hc:s[0].toNat<128
  ·rw [decode_ascii s 0 h0 hc]
   show (true&&(zgD 0 s[0].toNat&&allP s zgD 1))=(zcW s[0]&&(s.data.toList.drop 1).all fun d=>zcW d||zbC d||[43,45,46].contains d)
   rw [tail s.size 1 (by omega) (by omega)]
   unfold zgD
   simp only [hc,decide_true,Bool.true_and,UInt8.ofNat_toNat,Nat.lt_irrefl,decide_false,Bool.false_and,Bool.or_false,Bool.or_assoc]
  ·have h4: ¬(Utf8.decode s 0).1<128:=by have:=(decode_high s 0 h0 (by omega)).1;omega
   have h5:=znV s[0] (by omega)
   simp only [Bool.or_eq_false_iff] at h5
   unfold zgD
   rw [decide_eq_false h4]
   show _=(zcW s[0]&&_)
   rw [h5.1]
   rfl
 ·have hl:s.data.toList=[]:=List.eq_nil_of_length_eq_zero (by rw [zaM];omega)
  rw [hl];rfl
end
end Go.Proofs.YtmjappnpedjlnaaGreatDoor
