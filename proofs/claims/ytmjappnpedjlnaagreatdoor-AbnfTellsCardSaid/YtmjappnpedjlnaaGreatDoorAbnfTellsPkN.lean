/-
  What the law AbnfTells leans on, and its walk (14 of 27).
-/
import Derived.Lib.Strings
import Derived.Test.YtmjappnpedjlnaaGreatDoorAbnfTellsPkM
import Derived.Test.YtmjappnpedjlnaaGreatDoorAbnfTellsPkA
namespace Go.Proofs.YtmjappnpedjlnaaGreatDoor
set_option maxRecDepth 100000
set_option maxHeartbeats 16000000
section
open Go.RowKit
theorem zuB (s:List UInt8) (h:(zcY s).2.1=true):(zcY s).1=[]∨(zcY s).1.head? =some 47:=by
 unfold zcY at*
 split at h
 ·rename_i r
  rcases zfB (· ==47) r with q|⟨c,t,q,hc⟩
  ·exact .inl q
  ·right
   have hc:c=47:=by simpa using hc
   simp only
   rw [q,hc];rfl
 ·cases h
theorem zrE (s:List UInt8) (h:(zcY s).2.1=false):(zcY s).1=s∧(s.take 2==[47,47])=false∧(zcY s).2.2=(false,[],[],false,[]):=by
 unfold zcY at*
 split at h
 ·cases h
 ·rename_i hn
  refine ⟨rfl,?_,rfl⟩
  rw [beq_eq_false_iff_ne]
  intro e
  match s,e,hn with
  |c::d::r,e,hn=>
   simp only [List.take_succ_cons,List.take_zero,List.cons.injEq,and_true] at e
   exact hn r (by rw [e.1,e.2])
def zfD (six:List UInt8→Bool) (p:PZ):Bool:=
 isA [58] p.user&&zbR six p.host&&p.port.all zbC&&isA [58,64,47] p.path&&isA [58,64,47,63] p.query&&isA [58,64,47,63] p.frag
theorem zmL (six:List UInt8→Bool) (s:List UInt8):zlL six (zbG s)=zfD six (zbG s):=by
 obtain ⟨hs1,hs2⟩:=ziR s
 obtain ⟨f1,f2,_⟩:=zjF 35 (zaJ s).2.2
 obtain ⟨q1,q2,_⟩:=zjF 63 (cutA 35 (zaJ s).2.2).1
 unfold zlL zfD zgI zbG
 simp only
 cases ha:(zcY (cutA 63 (cutA 35 (zaJ s).2.2).1).1).2.1 with
 |true=>
  rcases zuB _ ha with h|h
  ·simp [h]
  ·simp [h]
 |false=>
  obtain ⟨h1,h2,h3⟩:=zrE _ ha
  rw [h1,h3]
  have hk:((zaJ s).1||(zaG (fun c=>c==58||c==47) (cutA 63 (cutA 35 (zaJ s).2.2).1).1).2.head? !=some 58)=true:=by
   cases hb:(zaJ s).1 with
   |true=>rfl
   |false=>
    rw [Bool.false_or,bne_iff_ne]
    intro e
    generalize hP:(cutA 63 (cutA 35 (zaJ s).2.2).1).1=P at*
    have p1:=zcT (fun c=>c==58||c==47) P
    have p2:=zeC (fun c=>c==58||c==47) P
    obtain ⟨a,r,he⟩: ∃a r,zaG (fun c=>c==58||c==47) P=(a,58::r):=by
     generalize zaG (fun c=>c==58||c==47) P=x at*
     obtain ⟨a,t⟩:=x
     cases t with
     |nil=>cases e
     |cons c r=>
      simp only [List.head?_cons,Option.some.injEq] at e
      exact ⟨a,r,by rw [e]⟩
    rw [he] at p1 p2
    have hall: ∀c∈P,(c==35)=false∧(c==63)=false:=fun c hc=>⟨f2 c (by rw [q1];exact List.mem_append.2 (.inl hc)),q2 c hc⟩
    have hm: ∀c∈a,zeY c=false:=fun c hc=>by
     have h4:=p2 c hc
     have h5:=hall c (by rw [p1];exact List.mem_append.2 (.inl hc))
     simp only [Bool.or_eq_false_iff] at h4
     unfold zeY
     rw [h4.1,h4.2,h5.1,h5.2]
     rfl
    obtain ⟨rest,hr⟩: ∃rest,s=a++58::rest:=by
     rw [hb] at hs1
     simp only [Bool.false_eq_true,if_false,List.nil_append] at hs1
     refine ⟨r++((if (cutA 63 (cutA 35 (zaJ s).2.2).1).2.1 then 63::(cutA 63 (cutA 35 (zaJ s).2.2).1).2.2 else [])++(if (cutA 35 (zaJ s).2.2).2.1 then 35::(cutA 35 (zaJ s).2.2).2.2 else [])),?_⟩
     have:a++58::(r++((if (cutA 63 (cutA 35 (zaJ s).2.2).1).2.1 then 63::(cutA 63 (cutA 35 (zaJ s).2.2).1).2.2 else [])++(if (cutA 35 (zaJ s).2.2).2.1 then 35::(cutA 35 (zaJ s).2.2).2.2 else [])))=(a++58::r)++((if (cutA 63 (cutA 35 (zaJ s).2.2).1).2.1 then 63::(cutA 63 (cutA 35 (zaJ s).2.2).1).2.2 else [])++(if (cutA 35 (zaJ s).2.2).2.1 then 35::(cutA 35 (zaJ s).2.2).2.2 else [])):=by simp
     rw [this,←List.append_assoc]
     have p1':P=a++58::r:=p1
     rw [←p1',←q1,←f1]
     exact hs1
    have hu:zaG zeY s=(a,58::rest):=by
     rw [hr]
     exact ziU zeY hm (.inr ⟨58,rest,rfl,by decide⟩)
    unfold zaJ at hb
    rw [hu] at hb
    cases hb
  rw [hk]
  have e1:isA [58] []=true:=rfl
  have e2:zbR six []=true:=rfl
  simp [e1,e2,h2,bne]
/-! ### hosts -/
theorem sufA (l:List UInt8):Lib.hasSuffix l [93]=(l.getLast? ==some 93)∧(l.getLast? =some 93→Lib.trimSuffix l [93]=l.dropLast):=by
 have key:Lib.hasSuffix l [93]=(l.getLast? ==some 93):=by
  unfold Lib.hasSuffix
  rcases List.eq_nil_or_concat l with rfl|⟨t,c,rfl⟩
  ·rfl
  ·rw [List.concat_eq_append,List.getLast?_concat,Bool.eq_iff_iff,List.isSuffixOf_iff_suffix]
   simp only [beq_iff_eq,Option.some.injEq]
   constructor
   ·rintro ⟨u,h⟩
    have:=(List.append_inj' h rfl).2
    simpa using this.symm
   ·rintro rfl
    exact ⟨t,rfl⟩
 refine ⟨key,fun h=> ?_⟩
 unfold Lib.trimSuffix
 rw [key,h]
 simp [List.dropLast_eq_take]
theorem zpM (six:List UInt8→Bool) (l:List UInt8):zbR six (91::l)=(Lib.hasSuffix l [93]&&(six (Lib.trimSuffix l [93])||zcM (Lib.trimSuffix l [93]))):=by
 obtain ⟨h1,h2⟩:=sufA l
 show (l.getLast? ==some 93&&(six l.dropLast||zcM l.dropLast))=_
 rw [h1]
 cases e:l.getLast? ==some 93 with
 |false=>rfl
 |true=>rw [h2 (by simpa using e)]
theorem zhG (six:List UInt8→Bool) {s:List UInt8} (h:s.head? ≠some 91):zbR six s=isA [] s:=by
 unfold zbR
 split
 ·exact absurd rfl h
 ·rfl
def verA (c:UInt8):Bool:=zeX c||c==58
theorem zvK: ∀(l:List UInt8),(isA [58] l&& !l.contains 37)=l.all verA
 |[]=>rfl
 |c::l=>by
  have ih:=zvK l
  rw [zjI,List.all_cons,←ih]
  by_cases h:c=37
  ·subst h
   have:verA 37=false:=by decide
   rw [this]
   simp
  ·have hp:pctA (c::l)=false:=by
    match l with
    |[]=>rfl
    |[_]=>rfl
    |d::e::l=>simp [pctA,h]
   have hc:(c::l).contains 37=l.contains 37:=by
    rw [Bool.eq_iff_iff]
    simp [Ne.symm h]
   have h58:([58]:List UInt8).contains c=(c==58):=by rw [Bool.eq_iff_iff];simp
   rw [hp,hc,h58,Bool.or_false,Bool.and_assoc]
   rfl
theorem zvL: ∀d:Fin 256,hexA (lowC (UInt8.ofNat d.val))=hexA (UInt8.ofNat d.val)∧verA (lowC (UInt8.ofNat d.val))=verA (UInt8.ofNat d.val)∧(lowC (UInt8.ofNat d.val)==46)=(UInt8.ofNat d.val==46)∧(lowC (UInt8.ofNat d.val)==118)=(UInt8.ofNat d.val==118||UInt8.ofNat d.val==86):=by decide+kernel
theorem zmY (c:UInt8):hexA (lowC c)=hexA c∧verA (lowC c)=verA c∧(lowC c==46)=(c==46)∧(lowC c==118)=(c==118||c==86):=by
 have:=zvL ⟨c.toNat,c.toNat_lt⟩
 simp only [UInt8.ofNat_toNat] at this
 exact this
theorem zhJ: ∀(l:List UInt8),zaG (· ==46) (zaS l)=(zaS (zaG (· ==46) l).1,zaS (zaG (· ==46) l).2)
 |[]=>rfl
 |c::l=>by
  have ih:=zhJ l
  show zaG (· ==46) (lowC c::zaS l)=_
  unfold zaG
  simp only [(zmY c).2.2.1]
  split
  ·rfl
  ·rw [ih];rfl
theorem zqZ (p:UInt8→Bool) (h: ∀c,p (lowC c)=p c) (l:List UInt8):(zaS l).all p=l.all p:=by
 unfold zaS
 rw [List.all_map]
 congr 1
 funext c
 exact h c
def futT:List UInt8×List UInt8→Bool
 |(d,_::r)=> !d.isEmpty&& !r.isEmpty&&d.all hexA&&isA [58] r&& !r.contains 37
 |_=>false
theorem zgJ (c:UInt8) (l:List UInt8):zcM (c::l)=((c==118||c==86)&&futT (zaG (· ==46) l)):=rfl
theorem zrH (l:List UInt8):zcM l=(Lib.hasPrefix (zaS l) [118]&& !(cutA 46 (Lib.trimPrefix (zaS l) [118])).1.isEmpty&& !(cutA 46 (Lib.trimPrefix (zaS l) [118])).2.2.isEmpty&&(cutA 46 (Lib.trimPrefix (zaS l) [118])).1.all hexA&&(cutA 46 (Lib.trimPrefix (zaS l) [118])).2.2.all verA):=by
 cases l with
 |nil=>rfl
 |cons c l=>
  have hp:Lib.hasPrefix (zaS (c::l)) [118]=(c==118||c==86):=by
   rw [←(zmY c).2.2.2]
   show ((118:UInt8)==lowC c&&true)=_
   rw [Bool.and_true,Bool.eq_iff_iff,beq_iff_eq,beq_iff_eq]
   exact eq_comm
  rw [zgJ,hp]
  cases e:(c==118||c==86) with
  |false=>rfl
  |true=>
   have ht:Lib.trimPrefix (zaS (c::l)) [118]=zaS l:=by
    unfold Lib.trimPrefix
    rw [hp,e]
    rfl
   rw [ht]
   have hcut:cutA 46 (zaS l)=(match zaS (zaG (· ==46) l).2 with
    |[]=>(zaS l,false,[])
    |_::r=>(zaS (zaG (· ==46) l).1,true,r)):=by
    unfold cutA
    first|(rw [zhJ];done)|(rw [zhJ];rfl)
   rw [hcut]
   generalize zaG (· ==46) l=x
   obtain ⟨d,r⟩:=x
   cases r with
   |nil=>
    show (true&&false)=(true&& !(zaS l).isEmpty&& !true&&(zaS l).all hexA&&true)
    cases (zaS l).isEmpty<;>rfl
   |cons b r=>
    show (true&&(!d.isEmpty&& !r.isEmpty&&d.all hexA&&isA [58] r&& !r.contains 37))=(true&& !(zaS d).isEmpty&& !(zaS r).isEmpty&&(zaS d).all hexA&&(zaS r).all verA)
    rw [zqZ hexA (fun c=>(zmY c).1),zqZ verA (fun c=>(zmY c).2.1),←zvK r]
    have e1:(zaS d).isEmpty=d.isEmpty:=by cases d<;>rfl
    have e2:(zaS r).isEmpty=r.isEmpty:=by cases r<;>rfl
    rw [e1,e2]
    simp [Bool.and_assoc]
end
end Go.Proofs.YtmjappnpedjlnaaGreatDoor
