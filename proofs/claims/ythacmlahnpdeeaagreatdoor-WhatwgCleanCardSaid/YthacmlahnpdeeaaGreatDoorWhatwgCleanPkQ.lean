/-
  What the law WhatwgClean leans on, and its walk (17 of 31).
-/
import Derived.Lib.Replace
import Derived.Lib.CountLaws
import Derived.Test.YthacmlahnpdeeaaGreatDoorWhatwgCleanPkN
namespace Go.Proofs.YthacmlahnpdeeaaGreatDoor
set_option maxRecDepth 100000
set_option maxHeartbeats 16000000
section
open Go.RowKit
def zjA:List UInt8:=[37,50,101]
/-- each %2e replaced by a point -/
def repP:List UInt8→List UInt8
 |37::50::101::r=>46::repP r
 |c::r=>c::repP r
 |[]=>[]
theorem z1B (r:List UInt8):repP (37::50::101::r)=46::repP r:=by rw [repP]
theorem zlJ {c:UInt8} {r:List UInt8} (h:zjA.isPrefixOf (c::r)=false):repP (c::r)=c::repP r:=by
 rw [repP]
 rintro r' rfl rfl
 revert h
 simp [zjA,List.isPrefixOf]
theorem znU: ∀(i:Nat) (t:List UInt8),i≤t.length→(∀j,j<i→Lib.occAt t zjA j=false)→repP t=t.take i++repP (t.drop i)
 |0,t,_,_=>by simp
 |i+1,[],h,_=>by simp at h
 |i+1,c::r,h,hn=>by
  have h0:zjA.isPrefixOf (c::r)=false:=hn 0 (by omega)
  rw [zlJ h0,znU i r (by simp at h;omega) (fun j hj=>by have:=hn (j+1) (by omega);simpa [Lib.occAt] using this)]
  simp
theorem ycD: ∀(t:List UInt8),(∀j,j≤t.length→Lib.occAt t zjA j=false)→repP t=t:=fun t h=>by
 have:=znU t.length t (Nat.le_refl _) (fun j hj=>h j (by omega))
 rw [this,List.take_of_length_le (Nat.le_refl _),List.drop_eq_nil_of_le (Nat.le_refl _)]
 simp [repP]
theorem zmK: ∀(k:Nat) (t:List UInt8),Lib.count t zjA=k→Lib.replaceK zjA [46] k t=repP t
 |k,t,hk=>by
  rcases Lib.index_spec t zjA with ⟨h1,h2⟩|⟨i,h1,h2,h3,h4⟩
  ·rw [Lib.count_miss h1] at hk
   subst hk
   rw [Lib.replaceK,ycD t h2]
  ·rw [Lib.count_hit (by decide) h1] at hk
   match k,hk with
   |0,hk=>omega
   |k+1,hk=>
    have ih:=zmK k (t.drop (i+3)) (by have:zjA.length=3:=rfl;rw [this] at hk;omega)
    rw [Lib.replaceK_hit _ _ _ _ i h1,show zjA.length=3 from rfl,ih,znU i t h2 (fun j hj=>h4 j hj)]
    obtain ⟨r,hr⟩: ∃r,t.drop i=37::50::101::r:=by
     obtain ⟨r,e⟩:=List.isPrefixOf_iff_prefix.1 (show zjA.isPrefixOf (t.drop i)=true from h3)
     exact ⟨r,e.symm⟩
    have hd:t.drop (i+3)=r:=by rw [←List.drop_drop,hr];rfl
    rw [hr,z1B,hd]
    simp
theorem zoY (t:List UInt8):Lib.replaceAll t [37,50,101] [46]=repP t:=by
 unfold Lib.replaceAll Lib.replace Lib.replaceNum
 rw [if_neg (by decide),if_pos (.inl (by omega))]
 exact zmK _ t rfl
theorem yjB: ∀d:Fin 256,(lowC (UInt8.ofNat d.val)=46↔UInt8.ofNat d.val=46)∧(lowC (UInt8.ofNat d.val)=37↔UInt8.ofNat d.val=37)∧(lowC (UInt8.ofNat d.val)=50↔UInt8.ofNat d.val=50)∧(lowC (UInt8.ofNat d.val)=101↔(UInt8.ofNat d.val=101∨UInt8.ofNat d.val=69)):=by decide+kernel
theorem ziF (c:UInt8):(lowC c=46↔c=46)∧(lowC c=37↔c=37)∧(lowC c=50↔c=50)∧(lowC c=101↔(c=101∨c=69)):=by
 have:=yjB ⟨c.toNat,c.toNat_lt⟩
 simpa using this
theorem ztQ: ∀(q:List UInt8) (n:Nat),ptsN q=some n↔repP (zbF q)=List.replicate n 46
 |[],n=>by cases n<;>simp [zbF,repP,List.replicate_succ,ptsN]
 |[c],n=>by
  have h0:repP (zbF [c])=[lowC c]:=by
   show repP [lowC c]=_
   rw [zlJ (by simp [zjA,List.isPrefixOf])];rfl
  rw [h0,show ptsN [c]=if c=46 then some 1 else none from rfl]
  by_cases h:c=46
  ·subst h
   match n with
   |0=>simp
   |1=>simp [lowC]
   |n+2=>simp [List.replicate_succ]
  ·have h2:lowC c≠46:=fun e=>h ((ziF c).1.1 e)
   match n with
   |0=>simp [h]
   |1=>simp [h,h2]
   |n+2=>simp [h,List.replicate_succ]
 |[c,d],n=>by
  have h0:repP (zbF [c,d])=[lowC c,lowC d]:=by
   show repP [lowC c,lowC d]=_
   rw [zlJ (by simp [zjA,List.isPrefixOf]),zlJ (by simp [zjA,List.isPrefixOf])];rfl
  rw [h0,show ptsN [c,d]=if c=46∧d=46 then some 2 else none from rfl]
  have hc:=(ziF c).1
  have hd:=(ziF d).1
  match n with
  |0=>by_cases h:c=46∧d=46<;>simp [h]
  |1=>by_cases h:c=46∧d=46<;>simp [h,List.replicate_succ]
  |2=>simp [List.replicate_succ,hc,hd]
  |n+3=>by_cases h:c=46∧d=46<;>simp [h,List.replicate_succ]
 |c::d::e::r,n=>by
  rw [show ptsN (c::d::e::r)=if c=46 then (ptsN (d::e::r)).map (· +1) else if c=37∧d=50∧(e=101∨e=69) then (ptsN r).map (· +1) else none from by rw [ptsN]]
  by_cases h:c=46
  ·have ih:=ztQ (d::e::r)
   subst h
   have h0:repP (zbF (46::d::e::r))=46::repP (zbF (d::e::r)):=zlJ (by simp [zjA,List.isPrefixOf,lowC])
   rw [h0,if_pos rfl]
   match n with
   |0=>simp
   |n+1=>simp [List.replicate_succ,ih n]
  ·rw [if_neg h]
   by_cases h1:c=37∧d=50∧(e=101∨e=69)
   ·have ih:=ztQ r
    rw [if_pos h1]
    obtain ⟨rfl,rfl,he⟩:=h1
    have h0:repP (zbF (37::50::e::r))=46::repP (zbF r):=by
     have:zbF (37::50::e::r)=37::50::101::zbF r:=by
      show lowC 37::lowC 50::lowC e::zbF r=_
      rw [(ziF e).2.2.2.2 he];rfl
     rw [this,z1B]
    rw [h0]
    match n with
    |0=>simp
    |n+1=>simp [List.replicate_succ,ih n]
   ·rw [if_neg h1]
    have h0:repP (zbF (c::d::e::r))=lowC c::repP (zbF (d::e::r)):=by
     refine zlJ (Bool.eq_false_iff.2 fun g=>h1 ?_)
     have:37=lowC c∧50=lowC d∧101=lowC e:=by simpa [zjA,List.isPrefixOf] using g
     exact ⟨(ziF c).2.1.1 this.1.symm,(ziF d).2.2.1.1 this.2.1.symm,(ziF e).2.2.2.1 this.2.2.symm⟩
    rw [h0]
    have h2:lowC c≠46:=fun g=>h ((ziF c).1.1 g)
    match n with
    |0=>simp
    |n+1=>simp [List.replicate_succ,h2]
theorem ykC (q:List UInt8):ptsW q=2↔Lib.replaceAll (zbF q) [37,50,101] [46]=[46,46]:=by
 rw [zoY]
 have:=ztQ q 2
 rw [show List.replicate 2 (46:UInt8)=[46,46] from rfl] at this
 rw [←this]
 unfold ptsW
 cases h:ptsN q with
 |none=>simp
 |some n=>simp only [Option.some.injEq];split<;>omega
theorem ylQ (q:List UInt8):ptsW q=1↔Lib.replaceAll (zbF q) [37,50,101] [46]=[46]:=by
 rw [zoY]
 have:=ztQ q 1
 rw [show List.replicate 1 (46:UInt8)=[46] from rfl] at this
 rw [←this]
 unfold ptsW
 cases h:ptsN q with
 |none=>simp
 |some n=>simp only [Option.some.injEq];split<;>omega
theorem pts_le (q:List UInt8):ptsW q≤2:=by
 unfold ptsW
 split
 ·split<;>omega
 ·omega
end

end Go.Proofs.YthacmlahnpdeeaaGreatDoor
