/-
  What the law AuthorityAgrees leans on, and its walk (22 of 43).
-/
import Derived.Lib.Strings
import Derived.Test.YtegmcmgndllmaaaGreatDoorAuthorityAgreesPkM
import Derived.Test.YtegmcmgndllmaaaGreatDoorAuthorityAgreesPkA
namespace Go.Proofs.YtegmcmgndllmaaaGreatDoor
set_option maxRecDepth 100000
set_option maxHeartbeats 16000000
section
open Go.RowKit
theorem yhC (s:List UInt8) (h:(zfL s).2.1=true):(zfL s).1=[]∨(zfL s).1.head? =some 47:=by
 unfold zfL at*
 split at h
 ·rename_i r
  rcases ziY (· ==47) r with q|⟨c,t,q,d⟩
  ·exact .inl q
  ·right
   have d:c=47:=by simpa using d
   simp only
   rw [q,d];rfl
 ·cases h
theorem ylH (s:List UInt8) (h:(zfL s).2.1=false):(zfL s).1=s∧(s.take 2==[47,47])=false∧(zfL s).2.2=(false,[],[],false,[]):=by
 unfold zfL at*
 split at h
 ·cases h
 ·rename_i f
  refine ⟨rfl,?_,rfl⟩
  rw [beq_eq_false_iff_ne]
  intro e
  match s,e,f with
  |c::d::r,e,f=>
   simp only [List.take_succ_cons,List.take_zero,List.cons.injEq,and_true] at e
   exact f r (by rw [e.1,e.2])
def zjD (six:List UInt8→Bool) (p:PZ):Bool:=
 isA [58] p.user&&zhH six p.host&&p.port.all zdF&&isA [58,64,47] p.path&&isA [58,64,47,63] p.query&&isA [58,64,47,63] p.frag
theorem zxO (six:List UInt8→Bool) (s:List UInt8):z0S six (zcJ s)=zjD six (zcJ s):=by
 obtain ⟨f,G⟩:=zqC s
 obtain ⟨I,M,_⟩:=zqL 35 (zaO s).2.2
 obtain ⟨C,U,_⟩:=zqL 63 (cutA 35 (zaO s).2.2).1
 unfold z0S zjD yjD zcJ
 simp only
 cases B:(zfL (cutA 63 (cutA 35 (zaO s).2.2).1).1).2.1 with
 |true=>
  rcases yhC _ B with h|h
  ·simp [h]
  ·simp [h]
 |false=>
  obtain ⟨E,K,J⟩:=ylH _ B
  rw [E,J]
  have S:((zaO s).1||(zaR (fun c=>c==58||c==47) (cutA 63 (cutA 35 (zaO s).2.2).1).1).2.head? !=some 58)=true:=by
   cases j:(zaO s).1 with
   |true=>rfl
   |false=>
    rw [Bool.false_or,bne_iff_ne]
    intro e
    generalize hP:(cutA 63 (cutA 35 (zaO s).2.2).1).1=P at*
    have q:=zfQ (fun c=>c==58||c==47) P
    have A:=zgI (fun c=>c==58||c==47) P
    obtain ⟨a,r,N⟩: ∃a r,zaR (fun c=>c==58||c==47) P=(a,58::r):=by
     generalize zaR (fun c=>c==58||c==47) P=x at*
     obtain ⟨a,t⟩:=x
     cases t with
     |nil=>cases e
     |cons c r=>
      simp only [List.head?_cons,Option.some.injEq] at e
      exact ⟨a,r,by rw [e]⟩
    rw [N] at q A
    have g: ∀c∈P,(c==35)=false∧(c==63)=false:=fun c i=>⟨M c (by rw [C];exact List.mem_append.2 (.inl i)),U c i⟩
    have Q: ∀c∈a,zfJ c=false:=fun c i=>by
     have o:=A c i
     have D:=g c (by rw [q];exact List.mem_append.2 (.inl i))
     simp only [Bool.or_eq_false_iff] at o
     unfold zfJ
     rw [o.1,o.2,D.1,D.2]
     rfl
    obtain ⟨d,T⟩: ∃d,s=a++58::d:=by
     rw [j] at f
     simp only [Bool.false_eq_true,if_false,List.nil_append] at f
     refine ⟨r++((if (cutA 63 (cutA 35 (zaO s).2.2).1).2.1 then 63::(cutA 63 (cutA 35 (zaO s).2.2).1).2.2 else [])++(if (cutA 35 (zaO s).2.2).2.1 then 35::(cutA 35 (zaO s).2.2).2.2 else [])),?_⟩
     have:a++58::(r++((if (cutA 63 (cutA 35 (zaO s).2.2).1).2.1 then 63::(cutA 63 (cutA 35 (zaO s).2.2).1).2.2 else [])++(if (cutA 35 (zaO s).2.2).2.1 then 35::(cutA 35 (zaO s).2.2).2.2 else [])))=(a++58::r)++((if (cutA 63 (cutA 35 (zaO s).2.2).1).2.1 then 63::(cutA 63 (cutA 35 (zaO s).2.2).1).2.2 else [])++(if (cutA 35 (zaO s).2.2).2.1 then 35::(cutA 35 (zaO s).2.2).2.2 else [])):=by simp
     rw [this,←List.append_assoc]
     have m:P=a++58::r:=q
     rw [←m,←C,←I]
     exact f
    have L:zaR zfJ s=(a,58::d):=by
     rw [T]
     exact zdM zfJ Q (.inr ⟨58,d,rfl,by decide⟩)
    unfold zaO at j
    rw [L] at j
    cases j
  rw [S]
  have O:isA [58] []=true:=rfl
  have H:zhH six []=true:=rfl
  simp [O,H,K,bne]
/-! ### hosts -/
theorem sufA (l:List UInt8):Lib.hasSuffix l [93]=(l.getLast? ==some 93)∧(l.getLast? =some 93→Lib.trimSuffix l [93]=l.dropLast):=by
 have d:Lib.hasSuffix l [93]=(l.getLast? ==some 93):=by
  unfold Lib.hasSuffix
  rcases List.eq_nil_or_concat l with rfl|⟨t,c,rfl⟩
  ·rfl
  ·rw [List.concat_eq_append,List.getLast?_concat,Bool.eq_iff_iff,List.isSuffixOf_iff_suffix]
   simp only [beq_iff_eq,Option.some.injEq]
   constructor
   ·rintro ⟨u,h⟩
    have:=(List.append_inj' h rfl).2
    simpa using this.symm
   ·rintro rfl
    exact ⟨t,rfl⟩
 refine ⟨d,fun h=> ?_⟩
 unfold Lib.trimSuffix
 rw [d,h]
 simp [List.dropLast_eq_take]
theorem z4A (six:List UInt8→Bool) (l:List UInt8):zhH six (91::l)=(Lib.hasSuffix l [93]&&(six (Lib.trimSuffix l [93])||zhP (Lib.trimSuffix l [93]))):=by
 obtain ⟨d,f⟩:=sufA l
 show (l.getLast? ==some 93&&(six l.dropLast||zhP l.dropLast))=_
 rw [d]
 cases e:l.getLast? ==some 93 with
 |false=>rfl
 |true=>rw [f (by simpa using e)]
theorem zxC (six:List UInt8→Bool) {s:List UInt8} (h:s.head? ≠some 91):zhH six s=isA [] s:=by
 unfold zhH
 split
 ·exact absurd rfl h
 ·rfl
def verA (c:UInt8):Bool:=zjZ c||c==58
theorem yjJ: ∀(l:List UInt8),(isA [58] l&& !l.contains 37)=l.all verA
 |[]=>rfl
 |c::l=>by
  have i:=yjJ l
  rw [zrO,List.all_cons,←i]
  by_cases h:c=37
  ·subst h
   have:verA 37=false:=by decide
   rw [this]
   simp
  ·have j:pctA (c::l)=false:=by
    match l with
    |[]=>rfl
    |[_]=>rfl
    |d::e::l=>simp [pctA,h]
   have g:(c::l).contains 37=l.contains 37:=by
    rw [Bool.eq_iff_iff]
    simp [Ne.symm h]
   have f:([58]:List UInt8).contains c=(c==58):=by rw [Bool.eq_iff_iff];simp
   rw [j,g,f,Bool.or_false,Bool.and_assoc]
   rfl
theorem ymY: ∀d:Fin 256,hexA (lowC (UInt8.ofNat d.val))=hexA (UInt8.ofNat d.val)∧verA (lowC (UInt8.ofNat d.val))=verA (UInt8.ofNat d.val)∧(lowC (UInt8.ofNat d.val)==46)=(UInt8.ofNat d.val==46)∧(lowC (UInt8.ofNat d.val)==118)=(UInt8.ofNat d.val==118||UInt8.ofNat d.val==86):=by decide+kernel
theorem z0H (c:UInt8):hexA (lowC c)=hexA c∧verA (lowC c)=verA c∧(lowC c==46)=(c==46)∧(lowC c==118)=(c==118||c==86):=by
 have:=ymY ⟨c.toNat,c.toNat_lt⟩
 simp only [UInt8.ofNat_toNat] at this
 exact this
theorem zmW: ∀(l:List UInt8),zaR (· ==46) (zaI l)=(zaI (zaR (· ==46) l).1,zaI (zaR (· ==46) l).2)
 |[]=>rfl
 |c::l=>by
  have d:=zmW l
  show zaR (· ==46) (lowC c::zaI l)=_
  unfold zaR
  simp only [(z0H c).2.2.1]
  split
  ·rfl
  ·rw [d];rfl
theorem ydL (p:UInt8→Bool) (h: ∀c,p (lowC c)=p c) (l:List UInt8):(zaI l).all p=l.all p:=by
 unfold zaI
 rw [List.all_map]
 congr 1
 funext c
 exact h c
def futT:List UInt8×List UInt8→Bool
 |(d,_::r)=> !d.isEmpty&& !r.isEmpty&&d.all hexA&&isA [58] r&& !r.contains 37
 |_=>false
theorem zvG (c:UInt8) (l:List UInt8):zhP (c::l)=((c==118||c==86)&&futT (zaR (· ==46) l)):=rfl
theorem ybE (l:List UInt8):zhP l=(Lib.hasPrefix (zaI l) [118]&& !(cutA 46 (Lib.trimPrefix (zaI l) [118])).1.isEmpty&& !(cutA 46 (Lib.trimPrefix (zaI l) [118])).2.2.isEmpty&&(cutA 46 (Lib.trimPrefix (zaI l) [118])).1.all hexA&&(cutA 46 (Lib.trimPrefix (zaI l) [118])).2.2.all verA):=by
 cases l with
 |nil=>rfl
 |cons c l=>
  have f:Lib.hasPrefix (zaI (c::l)) [118]=(c==118||c==86):=by
   rw [←(z0H c).2.2.2]
   show ((118:UInt8)==lowC c&&true)=_
   rw [Bool.and_true,Bool.eq_iff_iff,beq_iff_eq,beq_iff_eq]
   exact eq_comm
  rw [zvG,f]
  cases e:(c==118||c==86) with
  |false=>rfl
  |true=>
   have j:Lib.trimPrefix (zaI (c::l)) [118]=zaI l:=by
    unfold Lib.trimPrefix
    rw [f,e]
    rfl
   rw [j]
   have hcut:cutA 46 (zaI l)=(match zaI (zaR (· ==46) l).2 with
    |[]=>(zaI l,false,[])
    |_::r=>(zaI (zaR (· ==46) l).1,true,r)):=by
    unfold cutA
    first|(rw [zmW];done)|(rw [zmW];rfl)
   rw [hcut]
   generalize zaR (· ==46) l=x
   obtain ⟨d,r⟩:=x
   cases r with
   |nil=>
    show (true&&false)=(true&& !(zaI l).isEmpty&& !true&&(zaI l).all hexA&&true)
    cases (zaI l).isEmpty<;>rfl
   |cons b r=>
    show (true&&(!d.isEmpty&& !r.isEmpty&&d.all hexA&&isA [58] r&& !r.contains 37))=(true&& !(zaI d).isEmpty&& !(zaI r).isEmpty&&(zaI d).all hexA&&(zaI r).all verA)
    rw [ydL hexA (fun c=>(z0H c).1),ydL verA (fun c=>(z0H c).2.1),←yjJ r]
    have g:(zaI d).isEmpty=d.isEmpty:=by cases d<;>rfl
    have i:(zaI r).isEmpty=r.isEmpty:=by cases r<;>rfl
    rw [g,i]
    simp [Bool.and_assoc]
end
end Go.Proofs.YtegmcmgndllmaaaGreatDoor
