/-
  What the law AgreeNever leans on, and its walk (28 of 42).
-/
import Derived.Lib.Replace
import Derived.Lib.CountLaws
import Derived.Test.YtegmcmgndllmaaaGreatDoorAgreeNeverPkU
namespace Go.Proofs.YtegmcmgndllmaaaGreatDoor
set_option maxRecDepth 100000
set_option maxHeartbeats 16000000
section
open Go.RowKit
def ziK:List UInt8:=[37,50,101]
def repP:List UInt8→List UInt8
 |37::50::101::r=>46::repP r
 |c::r=>c::repP r
 |[]=>[]
theorem zyT (r:List UInt8):repP (37::50::101::r)=46::repP r:=by rw [repP]
theorem zkQ {c:UInt8} {r:List UInt8} (h:ziK.isPrefixOf (c::r)=false):repP (c::r)=c::repP r:=by
 rw [repP]
 rintro d rfl rfl
 revert h
 simp [ziK,List.isPrefixOf]
theorem zmQ: ∀(i:Nat) (t:List UInt8),i≤t.length→(∀j,j<i→Lib.occAt t ziK j=false)→repP t=t.take i++repP (t.drop i)
 |0,t,_,_=>by simp
 |i+1,[],h,_=>by simp at h
 |i+1,c::r,h,d=>by
  have f:ziK.isPrefixOf (c::r)=false:=d 0 (by omega)
  rw [zkQ f,zmQ i r (by simp at h;omega) (fun j m=>by have:=d (j+1) (by omega);simpa [Lib.occAt] using this)]
  simp
theorem z5J: ∀(t:List UInt8),(∀j,j≤t.length→Lib.occAt t ziK j=false)→repP t=t:=fun t h=>by
 have:=zmQ t.length t (Nat.le_refl _) (fun j d=>h j (by omega))
 rw [this,List.take_of_length_le (Nat.le_refl _),List.drop_eq_nil_of_le (Nat.le_refl _)]
 simp [repP]
theorem zlE: ∀(k:Nat) (t:List UInt8),Lib.count t ziK=k→Lib.replaceK ziK [46] k t=repP t
 |k,t,d=>by
  rcases Lib.index_spec t ziK with ⟨f,m⟩|⟨i,f,m,D,A⟩
  ·rw [Lib.count_miss f] at d
   subst d
   rw [Lib.replaceK,z5J t m]
  ·rw [Lib.count_hit (by decide) f] at d
   match k,d with
   |0,d=>omega
   |k+1,d=>
    have E:=zlE k (t.drop (i+3)) (by have:ziK.length=3:=rfl;rw [this] at d;omega)
    rw [Lib.replaceK_hit _ _ _ _ i f,show ziK.length=3 from rfl,E,zmQ i t m (fun j C=>A j C)]
    obtain ⟨r,o⟩: ∃r,t.drop i=37::50::101::r:=by
     obtain ⟨r,e⟩:=List.isPrefixOf_iff_prefix.1 (show ziK.isPrefixOf (t.drop i)=true from D)
     exact ⟨r,e.symm⟩
    have B:t.drop (i+3)=r:=by rw [←List.drop_drop,o];rfl
    rw [o,zyT,B]
    simp
theorem znZ (t:List UInt8):Lib.replaceAll t [37,50,101] [46]=repP t:=by
 unfold Lib.replaceAll Lib.replace Lib.replaceNum
 rw [if_neg (by decide),if_pos (.inl (by omega))]
 exact zlE _ t rfl
theorem yjL: ∀d:Fin 256,(lowC (UInt8.ofNat d.val)=46↔UInt8.ofNat d.val=46)∧(lowC (UInt8.ofNat d.val)=37↔UInt8.ofNat d.val=37)∧(lowC (UInt8.ofNat d.val)=50↔UInt8.ofNat d.val=50)∧(lowC (UInt8.ofNat d.val)=101↔(UInt8.ofNat d.val=101∨UInt8.ofNat d.val=69)):=by decide+kernel
theorem zhI (c:UInt8):(lowC c=46↔c=46)∧(lowC c=37↔c=37)∧(lowC c=50↔c=50)∧(lowC c=101↔(c=101∨c=69)):=by
 have:=yjL ⟨c.toNat,c.toNat_lt⟩
 simpa using this
theorem zqO: ∀(q:List UInt8) (n:Nat),ptsN q=some n↔repP (zaM q)=List.replicate n 46
 |[],n=>by cases n<;>simp [zaM,repP,List.replicate_succ,ptsN]
 |[c],n=>by
  have f:repP (zaM [c])=[lowC c]:=by
   show repP [lowC c]=_
   rw [zkQ (by simp [ziK,List.isPrefixOf])];rfl
  rw [f,show ptsN [c]=if c=46 then some 1 else none from rfl]
  by_cases h:c=46
  ·subst h
   match n with
   |0=>simp
   |1=>simp [lowC]
   |n+2=>simp [List.replicate_succ]
  ·have j:lowC c≠46:=fun e=>h ((zhI c).1.1 e)
   match n with
   |0=>simp [h]
   |1=>simp [h,j]
   |n+2=>simp [h,List.replicate_succ]
 |[c,d],n=>by
  have f:repP (zaM [c,d])=[lowC c,lowC d]:=by
   show repP [lowC c,lowC d]=_
   rw [zkQ (by simp [ziK,List.isPrefixOf]),zkQ (by simp [ziK,List.isPrefixOf])];rfl
  rw [f,show ptsN [c,d]=if c=46∧d=46 then some 2 else none from rfl]
  have B:=(zhI c).1
  have A:=(zhI d).1
  match n with
  |0=>by_cases h:c=46∧d=46<;>simp [h]
  |1=>by_cases h:c=46∧d=46<;>simp [h,List.replicate_succ]
  |2=>simp [List.replicate_succ,B,A]
  |n+3=>by_cases h:c=46∧d=46<;>simp [h,List.replicate_succ]
 |c::d::e::r,n=>by
  rw [show ptsN (c::d::e::r)=if c=46 then (ptsN (d::e::r)).map (· +1) else if c=37∧d=50∧(e=101∨e=69) then (ptsN r).map (· +1) else none from by rw [ptsN]]
  by_cases h:c=46
  ·have m:=zqO (d::e::r)
   subst h
   have f:repP (zaM (46::d::e::r))=46::repP (zaM (d::e::r)):=zkQ (by simp [ziK,List.isPrefixOf,lowC])
   rw [f,if_pos rfl]
   match n with
   |0=>simp
   |n+1=>simp [List.replicate_succ,m n]
  ·rw [if_neg h]
   by_cases i:c=37∧d=50∧(e=101∨e=69)
   ·have m:=zqO r
    rw [if_pos i]
    obtain ⟨rfl,rfl,o⟩:=i
    have f:repP (zaM (37::50::e::r))=46::repP (zaM r):=by
     have:zaM (37::50::e::r)=37::50::101::zaM r:=by
      show lowC 37::lowC 50::lowC e::zaM r=_
      rw [(zhI e).2.2.2.2 o];rfl
     rw [this,zyT]
    rw [f]
    match n with
    |0=>simp
    |n+1=>simp [List.replicate_succ,m n]
   ·rw [if_neg i]
    have f:repP (zaM (c::d::e::r))=lowC c::repP (zaM (d::e::r)):=by
     refine zkQ (Bool.eq_false_iff.2 fun g=>i ?_)
     have:37=lowC c∧50=lowC d∧101=lowC e:=by simpa [ziK,List.isPrefixOf] using g
     exact ⟨(zhI c).2.1.1 this.1.symm,(zhI d).2.2.1.1 this.2.1.symm,(zhI e).2.2.2.1 this.2.2.symm⟩
    rw [f]
    have j:lowC c≠46:=fun g=>h ((zhI c).1.1 g)
    match n with
    |0=>simp
    |n+1=>simp [List.replicate_succ,j]
theorem yhP (q:List UInt8):ptsW q=2↔Lib.replaceAll (zaM q) [37,50,101] [46]=[46,46]:=by
 rw [znZ]
 have:=zqO q 2
 rw [show List.replicate 2 (46:UInt8)=[46,46] from rfl] at this
 rw [←this]
 unfold ptsW
 cases h:ptsN q with
 |none=>simp
 |some n=>simp only [Option.some.injEq];split<;>omega
theorem yiD (q:List UInt8):ptsW q=1↔Lib.replaceAll (zaM q) [37,50,101] [46]=[46]:=by
 rw [znZ]
 have:=zqO q 1
 rw [show List.replicate 1 (46:UInt8)=[46] from rfl] at this
 rw [←this]
 unfold ptsW
 cases h:ptsN q with
 |none=>simp
 |some n=>simp only [Option.some.injEq];split<;>omega
theorem pts_le (q:List UInt8):ptsW q≤2:=by
 unfold ptsW
 split
 ·split<;>omega
 ·omega
end
end Go.Proofs.YtegmcmgndllmaaaGreatDoor
