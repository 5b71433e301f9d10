/-
  What the law AgreeNever leans on, and its walk (14 of 42).
-/
import Derived.Lib.Strings
import Derived.Test.YtegmcmgndllmaaaGreatDoorAgreeNeverPkM
import Derived.Test.YtegmcmgndllmaaaGreatDoorAgreeNeverPkA
namespace Go.Proofs.YtegmcmgndllmaaaGreatDoor
set_option maxRecDepth 100000
set_option maxHeartbeats 16000000
section
open Go.RowKit
theorem yeE (s:List UInt8) (h:(zdI s).2.1=true):(zdI s).1=[]∨(zdI s).1.head? =some 47:=by
 unfold zdI at*
 split at h
 ·rename_i r
  rcases zgK (· ==47) r with q|⟨c,t,q,d⟩
  ·exact .inl q
  ·right
   have d:c=47:=by simpa using d
   simp only
   rw [q,d];rfl
 ·cases h
theorem yjE (s:List UInt8) (h:(zdI s).2.1=false):(zdI s).1=s∧(s.take 2==[47,47])=false∧(zdI s).2.2=(false,[],[],false,[]):=by
 unfold zdI at*
 split at h
 ·cases h
 ·rename_i f
  refine ⟨rfl,?_,rfl⟩
  rw [beq_eq_false_iff_ne]
  intro e
  match s,e,f with
  |c::d::r,e,f=>
   simp only [List.take_succ_cons,List.take_zero,List.cons.injEq,and_true] at e
   exact f r (by rw [e.1,e.2])
def ziP (six:List UInt8→Bool) (p:PZ):Bool:=
 isA [58] p.user&&zfW six p.host&&p.port.all zdD&&isA [58,64,47] p.path&&isA [58,64,47,63] p.query&&isA [58,64,47,63] p.frag
theorem zvI (six:List UInt8→Bool) (s:List UInt8):zpK six (zbK s)=ziP six (zbK s):=by
 obtain ⟨f,U⟩:=zhY s
 obtain ⟨Y,K,_⟩:=zgW 35 (zaO s).2.2
 obtain ⟨D,X,_⟩:=zgW 63 (cutA 35 (zaO s).2.2).1
 unfold zpK ziP z8F zbK
 simp only
 cases G:(zdI (cutA 63 (cutA 35 (zaO s).2.2).1).1).2.1 with
 |true=>
  rcases yeE _ G with h|h
  ·simp [h]
  ·simp [h]
 |false=>
  obtain ⟨J,M,Z⟩:=yjE _ G
  rw [J,Z]
  have Q:((zaO s).1||(zaS (fun c=>c==58||c==47) (cutA 63 (cutA 35 (zaO s).2.2).1).1).2.head? !=some 58)=true:=by
   cases m:(zaO s).1 with
   |true=>rfl
   |false=>
    rw [Bool.false_or,bne_iff_ne]
    intro e
    generalize hP:(cutA 63 (cutA 35 (zaO s).2.2).1).1=P at*
    have B:=zdM (fun c=>c==58||c==47) P
    have C:=zeR (fun c=>c==58||c==47) P
    obtain ⟨a,r,I⟩: ∃a r,zaS (fun c=>c==58||c==47) P=(a,58::r):=by
     generalize zaS (fun c=>c==58||c==47) P=x at*
     obtain ⟨a,t⟩:=x
     cases t with
     |nil=>cases e
     |cons c r=>
      simp only [List.head?_cons,Option.some.injEq] at e
      exact ⟨a,r,by rw [e]⟩
    rw [I] at B C
    have i: ∀c∈P,(c==35)=false∧(c==63)=false:=fun c j=>⟨K c (by rw [D];exact List.mem_append.2 (.inl j)),X c j⟩
    have N: ∀c∈a,zhB c=false:=fun c j=>by
     have o:=C c j
     have E:=i c (by rw [B];exact List.mem_append.2 (.inl j))
     simp only [Bool.or_eq_false_iff] at o
     unfold zhB
     rw [o.1,o.2,E.1,E.2]
     rfl
    obtain ⟨d,V⟩: ∃d,s=a++58::d:=by
     rw [m] at f
     simp only [Bool.false_eq_true,if_false,List.nil_append] at f
     refine ⟨r++((if (cutA 63 (cutA 35 (zaO s).2.2).1).2.1 then 63::(cutA 63 (cutA 35 (zaO s).2.2).1).2.2 else [])++(if (cutA 35 (zaO s).2.2).2.1 then 35::(cutA 35 (zaO s).2.2).2.2 else [])),?_⟩
     have:a++58::(r++((if (cutA 63 (cutA 35 (zaO s).2.2).1).2.1 then 63::(cutA 63 (cutA 35 (zaO s).2.2).1).2.2 else [])++(if (cutA 35 (zaO s).2.2).2.1 then 35::(cutA 35 (zaO s).2.2).2.2 else [])))=(a++58::r)++((if (cutA 63 (cutA 35 (zaO s).2.2).1).2.1 then 63::(cutA 63 (cutA 35 (zaO s).2.2).1).2.2 else [])++(if (cutA 35 (zaO s).2.2).2.1 then 35::(cutA 35 (zaO s).2.2).2.2 else [])):=by simp
     rw [this,←List.append_assoc]
     have A:P=a++58::r:=B
     rw [←A,←D,←Y]
     exact f
    have O:zaS zhB s=(a,58::d):=by
     rw [V]
     exact zoT zhB N (.inr ⟨58,d,rfl,by decide⟩)
    unfold zaO at m
    rw [O] at m
    cases m
  rw [Q]
  have H:isA [58] []=true:=rfl
  have S:zfW six []=true:=rfl
  simp [H,S,M,bne]
/-! ### hosts -/
theorem sufA (l:List UInt8):Lib.hasSuffix l [93]=(l.getLast? ==some 93)∧(l.getLast? =some 93→Lib.trimSuffix l [93]=l.dropLast):=by
 have key:Lib.hasSuffix l [93]=(l.getLast? ==some 93):=by
  unfold Lib.hasSuffix
  rcases List.eq_nil_or_concat l with rfl|⟨t,c,rfl⟩
  ·rfl
  ·rw [List.concat_eq_append,List.getLast?_concat,Bool.eq_iff_iff,List.isSuffixOf_iff_suffix]
   simp only [beq_iff_eq,Option.some.injEq]
   constructor
   ·rintro ⟨u,h⟩
    have:=(List.append_inj' h rfl).2
    simpa using this.symm
   ·rintro rfl
    exact ⟨t,rfl⟩
 refine ⟨key,fun h=> ?_⟩
 unfold Lib.trimSuffix
 rw [key,h]
 simp [List.dropLast_eq_take]
theorem z1A (six:List UInt8→Bool) (l:List UInt8):zfW six (91::l)=(Lib.hasSuffix l [93]&&(six (Lib.trimSuffix l [93])||zfK (Lib.trimSuffix l [93]))):=by
 obtain ⟨d,f⟩:=sufA l
 show (l.getLast? ==some 93&&(six l.dropLast||zfK l.dropLast))=_
 rw [d]
 cases e:l.getLast? ==some 93 with
 |false=>rfl
 |true=>rw [f (by simpa using e)]
theorem zuW (six:List UInt8→Bool) {s:List UInt8} (h:s.head? ≠some 91):zfW six s=isA [] s:=by
 unfold zfW
 split
 ·exact absurd rfl h
 ·rfl
def verA (c:UInt8):Bool:=ziJ c||c==58
theorem ygO: ∀(l:List UInt8),(isA [58] l&& !l.contains 37)=l.all verA
 |[]=>rfl
 |c::l=>by
  have j:=ygO l
  rw [zlR,List.all_cons,←j]
  by_cases h:c=37
  ·subst h
   have:verA 37=false:=by decide
   rw [this]
   simp
  ·have i:pctA (c::l)=false:=by
    match l with
    |[]=>rfl
    |[_]=>rfl
    |d::e::l=>simp [pctA,h]
   have m:(c::l).contains 37=l.contains 37:=by
    rw [Bool.eq_iff_iff]
    simp [Ne.symm h]
   have f:([58]:List UInt8).contains c=(c==58):=by rw [Bool.eq_iff_iff];simp
   rw [i,m,f,Bool.or_false,Bool.and_assoc]
   rfl
theorem yjC: ∀d:Fin 256,hexA (lowC (UInt8.ofNat d.val))=hexA (UInt8.ofNat d.val)∧verA (lowC (UInt8.ofNat d.val))=verA (UInt8.ofNat d.val)∧(lowC (UInt8.ofNat d.val)==46)=(UInt8.ofNat d.val==46)∧(lowC (UInt8.ofNat d.val)==118)=(UInt8.ofNat d.val==118||UInt8.ofNat d.val==86):=by decide+kernel
theorem zzW (c:UInt8):hexA (lowC c)=hexA c∧verA (lowC c)=verA c∧(lowC c==46)=(c==46)∧(lowC c==118)=(c==118||c==86):=by
 have:=yjC ⟨c.toNat,c.toNat_lt⟩
 simp only [UInt8.ofNat_toNat] at this
 exact this
theorem znT: ∀(l:List UInt8),zaS (· ==46) (zaM l)=(zaM (zaS (· ==46) l).1,zaM (zaS (· ==46) l).2)
 |[]=>rfl
 |c::l=>by
  have d:=znT l
  show zaS (· ==46) (lowC c::zaM l)=_
  unfold zaS
  simp only [(zzW c).2.2.1]
  split
  ·rfl
  ·rw [d];rfl
theorem yaZ (p:UInt8→Bool) (h: ∀c,p (lowC c)=p c) (l:List UInt8):(zaM l).all p=l.all p:=by
 unfold zaM
 rw [List.all_map]
 congr 1
 funext c
 exact h c
def futT:List UInt8×List UInt8→Bool
 |(d,_::r)=> !d.isEmpty&& !r.isEmpty&&d.all hexA&&isA [58] r&& !r.contains 37
 |_=>false
theorem ztX (c:UInt8) (l:List UInt8):zfK (c::l)=((c==118||c==86)&&futT (zaS (· ==46) l)):=rfl
theorem z5R (l:List UInt8):zfK l=(Lib.hasPrefix (zaM l) [118]&& !(cutA 46 (Lib.trimPrefix (zaM l) [118])).1.isEmpty&& !(cutA 46 (Lib.trimPrefix (zaM l) [118])).2.2.isEmpty&&(cutA 46 (Lib.trimPrefix (zaM l) [118])).1.all hexA&&(cutA 46 (Lib.trimPrefix (zaM l) [118])).2.2.all verA):=by
 cases l with
 |nil=>rfl
 |cons c l=>
  have f:Lib.hasPrefix (zaM (c::l)) [118]=(c==118||c==86):=by
   rw [←(zzW c).2.2.2]
   show ((118:UInt8)==lowC c&&true)=_
   rw [Bool.and_true,Bool.eq_iff_iff,beq_iff_eq,beq_iff_eq]
   exact eq_comm
  rw [ztX,f]
  cases e:(c==118||c==86) with
  |false=>rfl
  |true=>
   have i:Lib.trimPrefix (zaM (c::l)) [118]=zaM l:=by
    unfold Lib.trimPrefix
    rw [f,e]
    rfl
   rw [i]
   have hcut:cutA 46 (zaM l)=(match zaM (zaS (· ==46) l).2 with
    |[]=>(zaM l,false,[])
    |_::r=>(zaM (zaS (· ==46) l).1,true,r)):=by
    unfold cutA
    first|(rw [znT];done)|(rw [znT];rfl)
   rw [hcut]
   generalize zaS (· ==46) l=x
   obtain ⟨d,r⟩:=x
   cases r with
   |nil=>
    show (true&&false)=(true&& !(zaM l).isEmpty&& !true&&(zaM l).all hexA&&true)
    cases (zaM l).isEmpty<;>rfl
   |cons b r=>
    show (true&&(!d.isEmpty&& !r.isEmpty&&d.all hexA&&isA [58] r&& !r.contains 37))=(true&& !(zaM d).isEmpty&& !(zaM r).isEmpty&&(zaM d).all hexA&&(zaM r).all verA)
    rw [yaZ hexA (fun c=>(zzW c).1),yaZ verA (fun c=>(zzW c).2.1),←ygO r]
    have j:(zaM d).isEmpty=d.isEmpty:=by cases d<;>rfl
    have m:(zaM r).isEmpty=r.isEmpty:=by cases r<;>rfl
    rw [j,m]
    simp [Bool.and_assoc]
end
end Go.Proofs.YtegmcmgndllmaaaGreatDoor
