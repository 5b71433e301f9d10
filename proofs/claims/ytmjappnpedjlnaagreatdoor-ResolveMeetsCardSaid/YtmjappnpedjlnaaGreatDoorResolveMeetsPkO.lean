/-
  What the law ResolveMeets leans on, and its walk (15 of 46).
-/
import Derived.Lib.Strings
import Derived.Test.YtmjappnpedjlnaaGreatDoorResolveMeetsPkM
import Derived.Test.YtmjappnpedjlnaaGreatDoorResolveMeetsPkA
namespace Go.Proofs.YtmjappnpedjlnaaGreatDoor
set_option maxRecDepth 100000
set_option maxHeartbeats 16000000
section
open Go.RowKit
theorem yhH (s:List UInt8) (h:(zdA s).2.1=true):(zdA s).1=[]∨(zdA s).1.head? =some 47:=by
 unfold zdA at*
 split at h
 ·rename_i r
  rcases zhG (· ==47) r with q|⟨c,t,q,hc⟩
  ·exact .inl q
  ·right
   have hc:c=47:=by simpa using hc
   simp only
   rw [q,hc];rfl
 ·cases h
theorem ynD (s:List UInt8) (h:(zdA s).2.1=false):(zdA s).1=s∧(s.take 2==[47,47])=false∧(zdA s).2.2=(false,[],[],false,[]):=by
 unfold zdA at*
 split at h
 ·cases h
 ·rename_i hn
  refine ⟨rfl,?_,rfl⟩
  rw [beq_eq_false_iff_ne]
  intro e
  match s,e,hn with
  |c::d::r,e,hn=>
   simp only [List.take_succ_cons,List.take_zero,List.cons.injEq,and_true] at e
   exact hn r (by rw [e.1,e.2])
def zjX (six:List UInt8→Bool) (p:PZ):Bool:=
 isA [58] p.user&&zgP six p.host&&p.port.all zdL&&isA [58,64,47] p.path&&isA [58,64,47,63] p.query&&isA [58,64,47,63] p.frag
theorem zzF (six:List UInt8→Bool) (s:List UInt8):zgJ six (zbM s)=zjX six (zbM s):=by
 obtain ⟨hs1,hs2⟩:=zlJ s
 obtain ⟨f1,f2,_⟩:=zhA 35 (zaK s).2.2
 obtain ⟨q1,q2,_⟩:=zhA 63 (cutA 35 (zaK s).2.2).1
 unfold zgJ zjX zpH zbM
 simp only
 cases ha:(zdA (cutA 63 (cutA 35 (zaK s).2.2).1).1).2.1 with
 |true=>
  rcases yhH _ ha with h|h
  ·simp [h]
  ·simp [h]
 |false=>
  obtain ⟨h1,h2,h3⟩:=ynD _ ha
  rw [h1,h3]
  have hk:((zaK s).1||(zaO (fun c=>c==58||c==47) (cutA 63 (cutA 35 (zaK s).2.2).1).1).2.head? !=some 58)=true:=by
   cases hb:(zaK s).1 with
   |true=>rfl
   |false=>
    rw [Bool.false_or,bne_iff_ne]
    intro e
    generalize hP:(cutA 63 (cutA 35 (zaK s).2.2).1).1=P at*
    have p1:=zcR (fun c=>c==58||c==47) P
    have p2:=zdW (fun c=>c==58||c==47) P
    obtain ⟨a,r,he⟩: ∃a r,zaO (fun c=>c==58||c==47) P=(a,58::r):=by
     generalize zaO (fun c=>c==58||c==47) P=x at*
     obtain ⟨a,t⟩:=x
     cases t with
     |nil=>cases e
     |cons c r=>
      simp only [List.head?_cons,Option.some.injEq] at e
      exact ⟨a,r,by rw [e]⟩
    rw [he] at p1 p2
    have hall: ∀c∈P,(c==35)=false∧(c==63)=false:=fun c hc=>⟨f2 c (by rw [q1];exact List.mem_append.2 (.inl hc)),q2 c hc⟩
    have hm: ∀c∈a,zfO c=false:=fun c hc=>by
     have h4:=p2 c hc
     have h5:=hall c (by rw [p1];exact List.mem_append.2 (.inl hc))
     simp only [Bool.or_eq_false_iff] at h4
     unfold zfO
     rw [h4.1,h4.2,h5.1,h5.2]
     rfl
    obtain ⟨rest,hr⟩: ∃rest,s=a++58::rest:=by
     rw [hb] at hs1
     simp only [Bool.false_eq_true,if_false,List.nil_append] at hs1
     refine ⟨r++((if (cutA 63 (cutA 35 (zaK s).2.2).1).2.1 then 63::(cutA 63 (cutA 35 (zaK s).2.2).1).2.2 else [])++(if (cutA 35 (zaK s).2.2).2.1 then 35::(cutA 35 (zaK s).2.2).2.2 else [])),?_⟩
     have:a++58::(r++((if (cutA 63 (cutA 35 (zaK s).2.2).1).2.1 then 63::(cutA 63 (cutA 35 (zaK s).2.2).1).2.2 else [])++(if (cutA 35 (zaK s).2.2).2.1 then 35::(cutA 35 (zaK s).2.2).2.2 else [])))=(a++58::r)++((if (cutA 63 (cutA 35 (zaK s).2.2).1).2.1 then 63::(cutA 63 (cutA 35 (zaK s).2.2).1).2.2 else [])++(if (cutA 35 (zaK s).2.2).2.1 then 35::(cutA 35 (zaK s).2.2).2.2 else [])):=by simp
     rw [this,←List.append_assoc]
     have p1':P=a++58::r:=p1
     rw [←p1',←q1,←f1]
     exact hs1
    have hu:zaO zfO s=(a,58::rest):=by
     rw [hr]
     exact zeA zfO hm (.inr ⟨58,rest,rfl,by decide⟩)
    unfold zaK at hb
    rw [hu] at hb
    cases hb
  rw [hk]
  have e1:isA [58] []=true:=rfl
  have e2:zgP six []=true:=rfl
  simp [e1,e2,h2,bne]
/-! ### hosts -/
theorem sufA (l:List UInt8):Lib.hasSuffix l [93]=(l.getLast? ==some 93)∧(l.getLast? =some 93→Lib.trimSuffix l [93]=l.dropLast):=by
 have key:Lib.hasSuffix l [93]=(l.getLast? ==some 93):=by
  unfold Lib.hasSuffix
  rcases List.eq_nil_or_concat l with rfl|⟨t,c,rfl⟩
  ·rfl
  ·rw [List.concat_eq_append,List.getLast?_concat,Bool.eq_iff_iff,List.isSuffixOf_iff_suffix]
   simp only [beq_iff_eq,Option.some.injEq]
   constructor
   ·rintro ⟨u,h⟩
    have:=(List.append_inj' h rfl).2
    simpa using this.symm
   ·rintro rfl
    exact ⟨t,rfl⟩
 refine ⟨key,fun h=> ?_⟩
 unfold Lib.trimSuffix
 rw [key,h]
 simp [List.dropLast_eq_take]
theorem z6E (six:List UInt8→Bool) (l:List UInt8):zgP six (91::l)=(Lib.hasSuffix l [93]&&(six (Lib.trimSuffix l [93])||ziA (Lib.trimSuffix l [93]))):=by
 obtain ⟨h1,h2⟩:=sufA l
 show (l.getLast? ==some 93&&(six l.dropLast||ziA l.dropLast))=_
 rw [h1]
 cases e:l.getLast? ==some 93 with
 |false=>rfl
 |true=>rw [h2 (by simpa using e)]
theorem zxJ (six:List UInt8→Bool) {s:List UInt8} (h:s.head? ≠some 91):zgP six s=isA [] s:=by
 unfold zgP
 split
 ·exact absurd rfl h
 ·rfl
def verA (c:UInt8):Bool:=zhN c||c==58
theorem ykF: ∀(l:List UInt8),(isA [58] l&& !l.contains 37)=l.all verA
 |[]=>rfl
 |c::l=>by
  have ih:=ykF l
  rw [zgA,List.all_cons,←ih]
  by_cases h:c=37
  ·subst h
   have:verA 37=false:=by decide
   rw [this]
   simp
  ·have hp:pctA (c::l)=false:=by
    match l with
    |[]=>rfl
    |[_]=>rfl
    |d::e::l=>simp [pctA,h]
   have hc:(c::l).contains 37=l.contains 37:=by
    rw [Bool.eq_iff_iff]
    simp [Ne.symm h]
   have h58:([58]:List UInt8).contains c=(c==58):=by rw [Bool.eq_iff_iff];simp
   rw [hp,hc,h58,Bool.or_false,Bool.and_assoc]
   rfl
theorem ykX: ∀d:Fin 256,hexA (lowC (UInt8.ofNat d.val))=hexA (UInt8.ofNat d.val)∧verA (lowC (UInt8.ofNat d.val))=verA (UInt8.ofNat d.val)∧(lowC (UInt8.ofNat d.val)==46)=(UInt8.ofNat d.val==46)∧(lowC (UInt8.ofNat d.val)==118)=(UInt8.ofNat d.val==118||UInt8.ofNat d.val==86):=by decide+kernel
theorem z1O (c:UInt8):hexA (lowC c)=hexA c∧verA (lowC c)=verA c∧(lowC c==46)=(c==46)∧(lowC c==118)=(c==118||c==86):=by
 have:=ykX ⟨c.toNat,c.toNat_lt⟩
 simp only [UInt8.ofNat_toNat] at this
 exact this
theorem zmU: ∀(l:List UInt8),zaO (· ==46) (zaI l)=(zaI (zaO (· ==46) l).1,zaI (zaO (· ==46) l).2)
 |[]=>rfl
 |c::l=>by
  have ih:=zmU l
  show zaO (· ==46) (lowC c::zaI l)=_
  unfold zaO
  simp only [(z1O c).2.2.1]
  split
  ·rfl
  ·rw [ih];rfl
theorem yeE (p:UInt8→Bool) (h: ∀c,p (lowC c)=p c) (l:List UInt8):(zaI l).all p=l.all p:=by
 unfold zaI
 rw [List.all_map]
 congr 1
 funext c
 exact h c
def futT:List UInt8×List UInt8→Bool
 |(d,_::r)=> !d.isEmpty&& !r.isEmpty&&d.all hexA&&isA [58] r&& !r.contains 37
 |_=>false
theorem ztR (c:UInt8) (l:List UInt8):ziA (c::l)=((c==118||c==86)&&futT (zaO (· ==46) l)):=rfl
theorem z8Y (l:List UInt8):ziA l=(Lib.hasPrefix (zaI l) [118]&& !(cutA 46 (Lib.trimPrefix (zaI l) [118])).1.isEmpty&& !(cutA 46 (Lib.trimPrefix (zaI l) [118])).2.2.isEmpty&&(cutA 46 (Lib.trimPrefix (zaI l) [118])).1.all hexA&&(cutA 46 (Lib.trimPrefix (zaI l) [118])).2.2.all verA):=by
 cases l with
 |nil=>rfl
 |cons c l=>
  have hp:Lib.hasPrefix (zaI (c::l)) [118]=(c==118||c==86):=by
   rw [←(z1O c).2.2.2]
   show ((118:UInt8)==lowC c&&true)=_
   rw [Bool.and_true,Bool.eq_iff_iff,beq_iff_eq,beq_iff_eq]
   exact eq_comm
  rw [ztR,hp]
  cases e:(c==118||c==86) with
  |false=>rfl
  |true=>
   have ht:Lib.trimPrefix (zaI (c::l)) [118]=zaI l:=by
    unfold Lib.trimPrefix
    rw [hp,e]
    rfl
   rw [ht]
   have hcut:cutA 46 (zaI l)=(match zaI (zaO (· ==46) l).2 with
    |[]=>(zaI l,false,[])
    |_::r=>(zaI (zaO (· ==46) l).1,true,r)):=by
    unfold cutA
    first|(rw [zmU];done)|(rw [zmU];rfl)
   rw [hcut]
   generalize zaO (· ==46) l=x
   obtain ⟨d,r⟩:=x
   cases r with
   |nil=>
    show (true&&false)=(true&& !(zaI l).isEmpty&& !true&&(zaI l).all hexA&&true)
    cases (zaI l).isEmpty<;>rfl
   |cons b r=>
    show (true&&(!d.isEmpty&& !r.isEmpty&&d.all hexA&&isA [58] r&& !r.contains 37))=(true&& !(zaI d).isEmpty&& !(zaI r).isEmpty&&(zaI d).all hexA&&(zaI r).all verA)
    rw [yeE hexA (fun c=>(z1O c).1),yeE verA (fun c=>(z1O c).2.1),←ykF r]
    have e1:(zaI d).isEmpty=d.isEmpty:=by cases d<;>rfl
    have e2:(zaI r).isEmpty=r.isEmpty:=by cases r<;>rfl
    rw [e1,e2]
    simp [Bool.and_assoc]
end
end Go.Proofs.YtmjappnpedjlnaaGreatDoor
