/-
  What the law AbnfMeets leans on, and its walk (22 of 35).
-/
import Derived.Test.YtppgdppmheiocaaGreatDoorAbnfMeetsPkN
import Derived.Test.YtppgdppmheiocaaGreatDoorAbnfMeetsPkU
import Derived.Test.YtppgdppmheiocaaGreatDoorAbnfMeetsPkV
import Derived.Test.YtppgdppmheiocaaGreatDoorAbnfMeetsPkM
namespace Go.Proofs.YtppgdppmheiocaaGreatDoor
set_option maxRecDepth 100000
set_option maxHeartbeats 16000000
section
open Go.RowKit
def allR (s:ByteArray) (pr:Nat→Nat→Bool):Nat→Nat→Bool
 |0,_=>true
 |f+1,p=>if p<s.size then pr p (Utf8.decode s p).1&&allR s pr f (p+(Utf8.decode s p).2) else true
theorem zlX (s:ByteArray) (pr:Nat→Nat→Bool): ∀(f g p:Nat),s.size≤p+f→s.size≤p+g→allR s pr f p=allR s pr g p
 |0,0,_,_,_=>rfl
 |0,g+1,p,h,_=>by show true=_;unfold allR;rw [if_neg (by omega)]
 |f+1,0,p,_,h=>by show _=true;unfold allR;rw [if_neg (by omega)]
 |f+1,g+1,p,hf,hg=>by
  unfold allR
  by_cases h:p<s.size
  ·have hw:=zdR s p h
   rw [if_pos h,if_pos h,zlX s pr f g _ (by omega) (by omega)]
  ·rw [if_neg h,if_neg h]
def allP (s:ByteArray) (pr:Nat→Nat→Bool) (p:Nat):Bool:=allR s pr s.size p
theorem zfO (s:ByteArray) (pr:Nat→Nat→Bool) {p:Nat} (h: ¬p<s.size):allP s pr p=true:=by
 unfold allP
 rw [zlX s pr s.size 0 p (by omega) (by omega)]
 rfl
theorem zfX (s:ByteArray) (pr:Nat→Nat→Bool) {p:Nat} (h:p<s.size):allP s pr p=(pr p (Utf8.decode s p).1&&allP s pr (p+(Utf8.decode s p).2)):=by
 have hw:=zdR s p h
 unfold allP
 rw [zlX s pr s.size (s.size+1) p (by omega) (by omega)]
 conv=>lhs;unfold allR
 rw [if_pos h]
theorem zkB (s:ByteArray) (pr:Nat→Nat→Bool) (q:UInt8→Bool) (h1: ∀p (h:p<s.size),s[p].toNat<128→pr p s[p].toNat=q s[p]) (h2: ∀p r,128≤r→pr p r=false) (h3: ∀c:UInt8,128≤c.toNat→q c=false): ∀(n p:Nat),s.size≤p+n→allP s pr p=(s.data.toList.drop p).all q
 |0,p,h=>by rw [zfO s pr (by omega),zdA s p (by omega)];rfl
 |n+1,p,h=>by
  by_cases hp:p<s.size
  ·rw [zfX s pr hp,zbZ s p hp,List.all_cons]
   by_cases hc:s[p].toNat<128
   ·rw [decode_ascii s p hp hc,h1 p hp hc,zkB s pr q h1 h2 h3 n (p+1) (by omega)]
   ·rw [h2 _ _ (decode_high s p hp (by omega)).1,h3 _ (by omega)];rfl
  ·rw [zfO s pr hp,zdA s p hp];rfl
def zeE (of l:List UInt8) (k:Nat):Bool:=(l.take k).all of.contains
theorem zuG (of:List UInt8): ∀(k:Nat) (l:List UInt8),(∀j,j<k→ ∃c,l[j]? =some c∧128≤c.toNat)→isA of l=(zeE of l k&&isA of (l.drop k))
 |0,l,_=>by simp [zeE]
 |k+1,[],h=>by obtain ⟨c,e,_⟩:=h 0 (by omega);simp at e
 |k+1,c::l,h=>by
  have ih:=zuG of k l fun j hj=>by have:=h (j+1) (by omega);simpa using this
  obtain ⟨d,e,hd⟩:=h 0 (by omega)
  simp at e;subst e
  have h1:ziC c=false:=by
   have key: ∀d:Fin 256,128≤d.val→ziC (UInt8.ofNat d.val)=false:=by decide+kernel
   have:=key ⟨c.toNat,c.toNat_lt⟩ hd
   simp only [UInt8.ofNat_toNat] at this
   exact this
  have h2:pctA (c::l)=false:=by
   have h37:(c==37)=false:=beq_eq_false_iff_ne.2 fun e=>by rw [e] at hd;exact absurd hd (by decide)
   match l with
   |[]=>rfl
   |[_]=>rfl
   |d::e::l=>simp [pctA,h37]
  rw [zpC,h1,h2,ih,List.drop_succ_cons]
  simp [zeE,Bool.and_assoc]
def isPr (s:ByteArray) (of:List UInt8) (p r:Nat):Bool:=(decide (r<128)&&ziC (UInt8.ofNat r))||pctA (s.data.toList.drop p)||zeE of (s.data.toList.drop p) (Utf8.decode s p).2
theorem ydA (s:ByteArray) (of:List UInt8): ∀(n p:Nat),s.size≤p+n→allP s (isPr s of) p=isA of (s.data.toList.drop p)
 |0,p,h=>by rw [zfO s _ (by omega),zdA s p (by omega)];rfl
 |n+1,p,h=>by
  by_cases hp:p<s.size
  ·have hw:=zdR s p hp
   rw [zfX s _ hp,ydA s of n (p+(Utf8.decode s p).2) (by omega)]
   unfold isPr
   by_cases hc:s[p].toNat<128
   ·rw [decode_ascii s p hp hc,zbZ s p hp,zpC]
    simp only [hc,decide_true,Bool.true_and,UInt8.ofNat_toNat]
    simp [zeE]
   ·have hd:=zmA s p hp (by omega)
    have e:=zuG of (Utf8.decode s p).2 (s.data.toList.drop p) fun j hj=>by
     obtain ⟨c,h1,h2⟩:=hd j hj
     exact ⟨c,by rw [List.getElem?_drop];exact h1,h2⟩
    have h3:pctA (s.data.toList.drop p)=false:=by
     rw [zbZ s p hp]
     have h37:(s[p]==37)=false:=beq_eq_false_iff_ne.2 fun e=>hc (by rw [e];decide)
     generalize s.data.toList.drop (p+1)=l
     match l with
     |[]=>rfl
     |[_]=>rfl
     |d::e::l=>simp [pctA,h37]
    have h4: ¬(Utf8.decode s p).1<128:=by have:=(decode_high s p hp (by omega)).1;omega
    rw [e,h3,decide_eq_false h4,List.drop_drop]
    simp
  ·rw [zfO s _ hp,zdA s p hp];rfl
def zjO (p r:Nat):Bool:=decide (r<128)&&(zgC (UInt8.ofNat r)||(decide (0<p)&&(zcT (UInt8.ofNat r)||[43,45,46].contains (UInt8.ofNat r))))
theorem zuE (c:UInt8) (h:128≤c.toNat):(zgC c||(zcT c||[43,45,46].contains c))=false:=by
 have key: ∀d:Fin 256,128≤d.val→(zgC (UInt8.ofNat d.val)||(zcT (UInt8.ofNat d.val)||[43,45,46].contains (UInt8.ofNat d.val)))=false:=by decide+kernel
 have:=key ⟨c.toNat,c.toNat_lt⟩ h
 simp only [UInt8.ofNat_toNat] at this
 exact this
theorem yeS (s:ByteArray):(!s.data.toList.isEmpty&&allP s zjO 0)=zdI s.data.toList:=by
 by_cases h0:0<s.size
 ·have tail: ∀(n p:Nat),0<p→s.size≤p+n→allP s zjO p=(s.data.toList.drop p).all fun d=>zgC d||(zcT d||[43,45,46].contains d):=by
   intro n
   induction n with
   |zero=>intro p _ h;rw [zfO s _ (by omega),zdA s p (by omega)];rfl
   |succ n ih=>
    intro p hp0 h
    by_cases hp:p<s.size
    ·rw [zfX s _ hp,zbZ s p hp,List.all_cons]
     unfold zjO
     by_cases hc:s[p].toNat<128
     ·rw [decode_ascii s p hp hc]
      simp only [hc,decide_true,Bool.true_and,UInt8.ofNat_toNat,hp0]
      rw [←ih (p+1) (by omega) (by omega)]
      rfl
     ·have h4: ¬(Utf8.decode s p).1<128:=by have:=(decode_high s p hp (by omega)).1;omega
      rw [decide_eq_false h4,zuE _ (by omega)];rfl
    ·rw [zfO s _ hp,zdA s p hp];rfl
  have hl:=zbZ s 0 h0
  rw [List.drop_zero] at hl
  rw [zfX s _ h0,hl]
  show (true&&_)=zdI (s[0]::_)
  unfold zdI
  by_cases hc:s[0].toNat<128
  ·rw [decode_ascii s 0 h0 hc]
   show (true&&(zjO 0 s[0].toNat&&allP s zjO 1))=(zgC s[0]&&(s.data.toList.drop 1).all fun d=>zgC d||zcT d||[43,45,46].contains d)
   rw [tail s.size 1 (by omega) (by omega)]
   unfold zjO
   simp only [hc,decide_true,Bool.true_and,UInt8.ofNat_toNat,Nat.lt_irrefl,decide_false,Bool.false_and,Bool.or_false,Bool.or_assoc]
  ·have h4: ¬(Utf8.decode s 0).1<128:=by have:=(decode_high s 0 h0 (by omega)).1;omega
   have h5:=zuE s[0] (by omega)
   simp only [Bool.or_eq_false_iff] at h5
   unfold zjO
   rw [decide_eq_false h4]
   show _=(zgC s[0]&&_)
   rw [h5.1]
   rfl
 ·have hl:s.data.toList=[]:=List.eq_nil_of_length_eq_zero (by rw [zaI];omega)
  rw [hl];rfl
theorem zoV {of l:List UInt8} (h: ∀c∈l,hasB of c=false) {b:UInt8} (hb:hasB of b=true): ∀c∈l,(c==b)=false:=fun c hc=>by
 rw [beq_eq_false_iff_ne]
 intro e
 have:=h c hc
 rw [e,hb] at this
 cases this
theorem ziY {l:List UInt8} {b:UInt8} (h:b∉l): ∀c∈l,(c==b)=false:=fun c hc=>by
 rw [beq_eq_false_iff_ne]
 intro e
 exact h (e▸hc)
theorem zmG {p:UInt8→Bool} {a b:List UInt8} (ha: ∀c∈a,p c=false) (hb: ∀c∈b,p c=false): ∀c∈a++b,p c=false:=fun c hc=>by
 rcases List.mem_append.1 hc with q|q
 ·exact ha c q
 ·exact hb c q
theorem zyO {u:UZ} (h:zfY u) (he:zhZ u):(zbF (zcF u)).hasS=true∧(zbF (zcF u)).hasA=true∧(zbF (zcF u)).scheme=u.scheme∧
  (zbF (zcF u)).path++(if (zbF (zcF u)).hasQ then 63::(zbF (zcF u)).query else [])=askU u∧(zbF (zcF u)).hasQ=u.hasQ∧(zbF (zcF u)).hasF=u.hasF∧(zbF (zcF u)).frag=u.frag∧
  (zbF (zcF u)).hasU= !(u.user++u.pass).isEmpty:=by
 obtain ⟨r,hr⟩: ∃r,zbA u.path=47::r:=by
  cases hp:u.path with
  |nil=>exact absurd hp h.some
  |cons s t=>exact ⟨s++zbA t,rfl⟩
 have hA: ∀c∈whoU u++zbX u,hasB [47,92,63,35] c=false:=fun c hc=>by
  rcases List.mem_append.1 hc with hc|hc
  ·exact z8I he c hc
  ·exact zoP (zpS h) c hc
 have hs35: ∀c∈zbA u.path,(c==35)=false:=ziY (zvD h.segs (by decide) (by decide))
 have hs63: ∀c∈zbA u.path,(c==63)=false:=ziY (zvD h.segs (by decide) (by decide))
 have hq35: ∀c∈qryL u,(c==35)=false:=fun c hc=>by
  unfold qryL at hc
  split at hc
  ·rcases List.mem_cons.1 hc with rfl|hc
   ·rfl
   ·exact ziY (zvN h.qry (by decide)) c hc
  ·cases hc
 have e0:zcF u=u.scheme++58::((47::47::((whoU u++zbX u)++zbA u.path))++qryL u++frgL u):=by
  unfold zcF zfF z3A askU qryL frgL;simp [List.append_assoc]
 have hms: ∀c∈u.scheme,zfU c=false:=by rcases h.sch with e|e<;>rw [e]<;>decide
 have e1:zaK (zcF u)=(true,u.scheme,(47::47::((whoU u++zbX u)++zbA u.path))++qryL u++frgL u):=by
  unfold zaK
  rw [e0,zdP zfU hms (.inr ⟨58,_,rfl,by decide⟩)]
  rfl
 have hpre35: ∀c∈(47::47::((whoU u++zbX u)++zbA u.path)),(c==35)=false:=fun c hc=>by
  rcases List.mem_cons.1 hc with rfl|hc
  ·rfl
  ·rcases List.mem_cons.1 hc with rfl|hc
   ·rfl
   ·exact zmG (zoV hA (by decide)) hs35 c hc
 have hpre63: ∀c∈(47::47::((whoU u++zbX u)++zbA u.path)),(c==63)=false:=fun c hc=>by
  rcases List.mem_cons.1 hc with rfl|hc
  ·rfl
  ·rcases List.mem_cons.1 hc with rfl|hc
   ·rfl
   ·exact zmG (zoV hA (by decide)) hs63 c hc
 have e2:cutA 35 ((47::47::((whoU u++zbX u)++zbA u.path))++qryL u++frgL u)=((47::47::((whoU u++zbX u)++zbA u.path))++qryL u,u.hasF,u.frag):=by
  unfold frgL
  cases hf:u.hasF with
  |true=>
   rw [if_pos rfl]
   exact zoN (zmG hpre35 hq35) _
  |false=>
   rw [if_neg (by decide),List.append_nil,h.noF hf]
   exact zkV (zmG hpre35 hq35)
 have e3:cutA 63 ((47::47::((whoU u++zbX u)++zbA u.path))++qryL u)=(47::47::((whoU u++zbX u)++zbA u.path),u.hasQ,u.query):=by
  unfold qryL
  cases hf:u.hasQ with
  |true=>
   rw [if_pos rfl]
   exact zoN hpre63 _
  |false=>
   rw [if_neg (by decide),List.append_nil,h.noQ hf]
   exact zkV hpre63
 have e4:zeX (47::47::((whoU u++zbX u)++zbA u.path))=(zbA u.path,true,zeC (whoU u++zbX u)):=by
  show ((zaN (· ==47) ((whoU u++zbX u)++zbA u.path)).2,true,zeC (zaN (· ==47) ((whoU u++zbX u)++zbA u.path)).1)=_
  rw [zdP (· ==47) (zoV hA (by decide)) (.inr ⟨47,r,hr,by decide⟩)]
 have hn64: ∀c∈zbX u,(c==64)=false:=ziY (ztK (zpS h) (by decide))
 have e5:(zeC (whoU u++zbX u)).1= !(u.user++u.pass).isEmpty:=by
  rw [z7M]
  by_cases g:u.user=[]∧u.pass=[]
  ·rw [if_pos g,List.nil_append]
   unfold zeC
   rw [zkV hn64,g.1,g.2]
   rfl
  ·rw [if_neg g]
   have hn: ∀c∈upW u,(c==64)=false:=by
    unfold upW
    refine zmG (ziY (ztK (zkH he.user) (by decide))) fun c hc=> ?_
    split at hc
    ·cases hc
    ·rcases List.mem_cons.1 hc with rfl|hc
     ·rfl
     ·exact ziY (ztK (zkH he.pass) (by decide)) c hc
   have e6:upW u++[64]++zbX u=upW u++64::zbX u:=by simp
   unfold zeC
   rw [e6,zoN hn]
   have:(u.user++u.pass).isEmpty=false:=by
    rw [List.isEmpty_eq_false_iff]
    intro q
    exact g (List.append_eq_nil_iff.1 q)
   rw [this]
   rfl
 unfold zbF
 simp only [e1,e2,e3,e4,e5]
 refine ⟨?_,?_,?_,?_,?_,?_,?_,?_⟩<;>first|trivial|rfl
end
end Go.Proofs.YtppgdppmheiocaaGreatDoor
