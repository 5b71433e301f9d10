/-
  What the law AuthorityAgrees leans on, and its walk (27 of 43).
-/
import Derived.Lib.Replace
import Derived.Lib.CountLaws
import Derived.Test.YtegmcmgndllmaaaGreatDoorAuthorityAgreesPkT
namespace Go.Proofs.YtegmcmgndllmaaaGreatDoor
set_option maxRecDepth 100000
set_option maxHeartbeats 16000000
section
open Go.RowKit
def ziK:List UInt8:=[37,50,101]
def repP:List UInt8→List UInt8
 |37::50::101::r=>46::repP r
 |c::r=>c::repP r
 |[]=>[]
theorem zxS (r:List UInt8):repP (37::50::101::r)=46::repP r:=by rw [repP]
theorem zkQ {c:UInt8} {r:List UInt8} (h:ziK.isPrefixOf (c::r)=false):repP (c::r)=c::repP r:=by
 rw [repP]
 rintro d rfl rfl
 revert h
 simp [ziK,List.isPrefixOf]
theorem znF: ∀(i:Nat) (t:List UInt8),i≤t.length→(∀j,j<i→Lib.occAt t ziK j=false)→repP t=t.take i++repP (t.drop i)
 |0,t,_,_=>by simp
 |i+1,[],h,_=>by simp at h
 |i+1,c::r,h,d=>by
  have e:ziK.isPrefixOf (c::r)=false:=d 0 (by omega)
  rw [zkQ e,znF i r (by simp at h;omega) (fun j f=>by have:=d (j+1) (by omega);simpa [Lib.occAt] using this)]
  simp
theorem yaK: ∀(t:List UInt8),(∀j,j≤t.length→Lib.occAt t ziK j=false)→repP t=t:=fun t h=>by
 have:=znF t.length t (Nat.le_refl _) (fun j d=>h j (by omega))
 rw [this,List.take_of_length_le (Nat.le_refl _),List.drop_eq_nil_of_le (Nat.le_refl _)]
 simp [repP]
theorem zlH: ∀(k:Nat) (t:List UInt8),Lib.count t ziK=k→Lib.replaceK ziK [46] k t=repP t
 |k,t,d=>by
  rcases Lib.index_spec t ziK with ⟨f,g⟩|⟨i,f,g,A,C⟩
  ·rw [Lib.count_miss f] at d
   subst d
   rw [Lib.replaceK,yaK t g]
  ·rw [Lib.count_hit (by decide) f] at d
   match k,d with
   |0,d=>omega
   |k+1,d=>
    have q:=zlH k (t.drop (i+3)) (by have:ziK.length=3:=rfl;rw [this] at d;omega)
    rw [Lib.replaceK_hit _ _ _ _ i f,show ziK.length=3 from rfl,q,znF i t g (fun j B=>C j B)]
    obtain ⟨r,m⟩: ∃r,t.drop i=37::50::101::r:=by
     obtain ⟨r,e⟩:=List.isPrefixOf_iff_prefix.1 (show ziK.isPrefixOf (t.drop i)=true from A)
     exact ⟨r,e.symm⟩
    have o:t.drop (i+3)=r:=by rw [←List.drop_drop,m];rfl
    rw [m,zxS,o]
    simp
theorem zmT (t:List UInt8):Lib.replaceAll t [37,50,101] [46]=repP t:=by
 unfold Lib.replaceAll Lib.replace Lib.replaceNum
 rw [if_neg (by decide),if_pos (.inl (by omega))]
 exact zlH _ t rfl
theorem ylA: ∀d:Fin 256,(lowC (UInt8.ofNat d.val)=46↔UInt8.ofNat d.val=46)∧(lowC (UInt8.ofNat d.val)=37↔UInt8.ofNat d.val=37)∧(lowC (UInt8.ofNat d.val)=50↔UInt8.ofNat d.val=50)∧(lowC (UInt8.ofNat d.val)=101↔(UInt8.ofNat d.val=101∨UInt8.ofNat d.val=69)):=by decide+kernel
theorem zhD (c:UInt8):(lowC c=46↔c=46)∧(lowC c=37↔c=37)∧(lowC c=50↔c=50)∧(lowC c=101↔(c=101∨c=69)):=by
 have:=ylA ⟨c.toNat,c.toNat_lt⟩
 simpa using this
theorem zqS: ∀(q:List UInt8) (n:Nat),ptsN q=some n↔repP (zaI q)=List.replicate n 46
 |[],n=>by cases n<;>simp [zaI,repP,List.replicate_succ,ptsN]
 |[c],n=>by
  have f:repP (zaI [c])=[lowC c]:=by
   show repP [lowC c]=_
   rw [zkQ (by simp [ziK,List.isPrefixOf])];rfl
  rw [f,show ptsN [c]=if c=46 then some 1 else none from rfl]
  by_cases h:c=46
  ·subst h
   match n with
   |0=>simp
   |1=>simp [lowC]
   |n+2=>simp [List.replicate_succ]
  ·have m:lowC c≠46:=fun e=>h ((zhD c).1.1 e)
   match n with
   |0=>simp [h]
   |1=>simp [h,m]
   |n+2=>simp [h,List.replicate_succ]
 |[c,d],n=>by
  have f:repP (zaI [c,d])=[lowC c,lowC d]:=by
   show repP [lowC c,lowC d]=_
   rw [zkQ (by simp [ziK,List.isPrefixOf]),zkQ (by simp [ziK,List.isPrefixOf])];rfl
  rw [f,show ptsN [c,d]=if c=46∧d=46 then some 2 else none from rfl]
  have o:=(zhD c).1
  have B:=(zhD d).1
  match n with
  |0=>by_cases h:c=46∧d=46<;>simp [h]
  |1=>by_cases h:c=46∧d=46<;>simp [h,List.replicate_succ]
  |2=>simp [List.replicate_succ,o,B]
  |n+3=>by_cases h:c=46∧d=46<;>simp [h,List.replicate_succ]
 |c::d::e::r,n=>by
  rw [show ptsN (c::d::e::r)=if c=46 then (ptsN (d::e::r)).map (· +1) else if c=37∧d=50∧(e=101∨e=69) then (ptsN r).map (· +1) else none from by rw [ptsN]]
  by_cases h:c=46
  ·have j:=zqS (d::e::r)
   subst h
   have f:repP (zaI (46::d::e::r))=46::repP (zaI (d::e::r)):=zkQ (by simp [ziK,List.isPrefixOf,lowC])
   rw [f,if_pos rfl]
   match n with
   |0=>simp
   |n+1=>simp [List.replicate_succ,j n]
  ·rw [if_neg h]
   by_cases i:c=37∧d=50∧(e=101∨e=69)
   ·have j:=zqS r
    rw [if_pos i]
    obtain ⟨rfl,rfl,A⟩:=i
    have f:repP (zaI (37::50::e::r))=46::repP (zaI r):=by
     have:zaI (37::50::e::r)=37::50::101::zaI r:=by
      show lowC 37::lowC 50::lowC e::zaI r=_
      rw [(zhD e).2.2.2.2 A];rfl
     rw [this,zxS]
    rw [f]
    match n with
    |0=>simp
    |n+1=>simp [List.replicate_succ,j n]
   ·rw [if_neg i]
    have f:repP (zaI (c::d::e::r))=lowC c::repP (zaI (d::e::r)):=by
     refine zkQ (Bool.eq_false_iff.2 fun g=>i ?_)
     have:37=lowC c∧50=lowC d∧101=lowC e:=by simpa [ziK,List.isPrefixOf] using g
     exact ⟨(zhD c).2.1.1 this.1.symm,(zhD d).2.2.1.1 this.2.1.symm,(zhD e).2.2.2.1 this.2.2.symm⟩
    rw [f]
    have m:lowC c≠46:=fun g=>h ((zhD c).1.1 g)
    match n with
    |0=>simp
    |n+1=>simp [List.replicate_succ,m]
theorem ylZ (q:List UInt8):ptsW q=2↔Lib.replaceAll (zaI q) [37,50,101] [46]=[46,46]:=by
 rw [zmT]
 have:=zqS q 2
 rw [show List.replicate 2 (46:UInt8)=[46,46] from rfl] at this
 rw [←this]
 unfold ptsW
 cases h:ptsN q with
 |none=>simp
 |some n=>simp only [Option.some.injEq];split<;>omega
theorem ylX (q:List UInt8):ptsW q=1↔Lib.replaceAll (zaI q) [37,50,101] [46]=[46]:=by
 rw [zmT]
 have:=zqS q 1
 rw [show List.replicate 1 (46:UInt8)=[46] from rfl] at this
 rw [←this]
 unfold ptsW
 cases h:ptsN q with
 |none=>simp
 |some n=>simp only [Option.some.injEq];split<;>omega
theorem pts_le (q:List UInt8):ptsW q≤2:=by
 unfold ptsW
 split
 ·split<;>omega
 ·omega
end
end Go.Proofs.YtegmcmgndllmaaaGreatDoor
