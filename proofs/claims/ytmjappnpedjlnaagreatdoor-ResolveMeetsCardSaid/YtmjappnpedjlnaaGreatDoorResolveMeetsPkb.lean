/-
  What the law ResolveMeets leans on, and its walk (27 of 46).
-/
import Derived.Lib.Replace
import Derived.Lib.CountLaws
import Derived.Test.YtmjappnpedjlnaaGreatDoorResolveMeetsPkV
namespace Go.Proofs.YtmjappnpedjlnaaGreatDoor
set_option maxRecDepth 100000
set_option maxHeartbeats 16000000
section
open Go.RowKit
def ziZ:List UInt8:=[37,50,101]
def repP:List UInt8→List UInt8
 |37::50::101::r=>46::repP r
 |c::r=>c::repP r
 |[]=>[]
theorem z2F (r:List UInt8):repP (37::50::101::r)=46::repP r:=by rw [repP]
theorem zlF {c:UInt8} {r:List UInt8} (h:ziZ.isPrefixOf (c::r)=false):repP (c::r)=c::repP r:=by
 rw [repP]
 rintro r' rfl rfl
 revert h
 simp [ziZ,List.isPrefixOf]
theorem znD: ∀(i:Nat) (t:List UInt8),i≤t.length→(∀j,j<i→Lib.occAt t ziZ j=false)→repP t=t.take i++repP (t.drop i)
 |0,t,_,_=>by simp
 |i+1,[],h,_=>by simp at h
 |i+1,c::r,h,hn=>by
  have h0:ziZ.isPrefixOf (c::r)=false:=hn 0 (by omega)
  rw [zlF h0,znD i r (by simp at h;omega) (fun j hj=>by have:=hn (j+1) (by omega);simpa [Lib.occAt] using this)]
  simp
theorem ybR: ∀(t:List UInt8),(∀j,j≤t.length→Lib.occAt t ziZ j=false)→repP t=t:=fun t h=>by
 have:=znD t.length t (Nat.le_refl _) (fun j hj=>h j (by omega))
 rw [this,List.take_of_length_le (Nat.le_refl _),List.drop_eq_nil_of_le (Nat.le_refl _)]
 simp [repP]
theorem zlX: ∀(k:Nat) (t:List UInt8),Lib.count t ziZ=k→Lib.replaceK ziZ [46] k t=repP t
 |k,t,hk=>by
  rcases Lib.index_spec t ziZ with ⟨h1,h2⟩|⟨i,h1,h2,h3,h4⟩
  ·rw [Lib.count_miss h1] at hk
   subst hk
   rw [Lib.replaceK,ybR t h2]
  ·rw [Lib.count_hit (by decide) h1] at hk
   match k,hk with
   |0,hk=>omega
   |k+1,hk=>
    have ih:=zlX k (t.drop (i+3)) (by have:ziZ.length=3:=rfl;rw [this] at hk;omega)
    rw [Lib.replaceK_hit _ _ _ _ i h1,show ziZ.length=3 from rfl,ih,znD i t h2 (fun j hj=>h4 j hj)]
    obtain ⟨r,hr⟩: ∃r,t.drop i=37::50::101::r:=by
     obtain ⟨r,e⟩:=List.isPrefixOf_iff_prefix.1 (show ziZ.isPrefixOf (t.drop i)=true from h3)
     exact ⟨r,e.symm⟩
    have hd:t.drop (i+3)=r:=by rw [←List.drop_drop,hr];rfl
    rw [hr,z2F,hd]
    simp
theorem zmS (t:List UInt8):Lib.replaceAll t [37,50,101] [46]=repP t:=by
 unfold Lib.replaceAll Lib.replace Lib.replaceNum
 rw [if_neg (by decide),if_pos (.inl (by omega))]
 exact zlX _ t rfl
theorem ymV: ∀d:Fin 256,(lowC (UInt8.ofNat d.val)=46↔UInt8.ofNat d.val=46)∧(lowC (UInt8.ofNat d.val)=37↔UInt8.ofNat d.val=37)∧(lowC (UInt8.ofNat d.val)=50↔UInt8.ofNat d.val=50)∧(lowC (UInt8.ofNat d.val)=101↔(UInt8.ofNat d.val=101∨UInt8.ofNat d.val=69)):=by decide+kernel
theorem ziJ (c:UInt8):(lowC c=46↔c=46)∧(lowC c=37↔c=37)∧(lowC c=50↔c=50)∧(lowC c=101↔(c=101∨c=69)):=by
 have:=ymV ⟨c.toNat,c.toNat_lt⟩
 simpa using this
theorem zrL: ∀(q:List UInt8) (n:Nat),ptsN q=some n↔repP (zaI q)=List.replicate n 46
 |[],n=>by cases n<;>simp [zaI,repP,List.replicate_succ,ptsN]
 |[c],n=>by
  have h0:repP (zaI [c])=[lowC c]:=by
   show repP [lowC c]=_
   rw [zlF (by simp [ziZ,List.isPrefixOf])];rfl
  rw [h0,show ptsN [c]=if c=46 then some 1 else none from rfl]
  by_cases h:c=46
  ·subst h
   match n with
   |0=>simp
   |1=>simp [lowC]
   |n+2=>simp [List.replicate_succ]
  ·have h2:lowC c≠46:=fun e=>h ((ziJ c).1.1 e)
   match n with
   |0=>simp [h]
   |1=>simp [h,h2]
   |n+2=>simp [h,List.replicate_succ]
 |[c,d],n=>by
  have h0:repP (zaI [c,d])=[lowC c,lowC d]:=by
   show repP [lowC c,lowC d]=_
   rw [zlF (by simp [ziZ,List.isPrefixOf]),zlF (by simp [ziZ,List.isPrefixOf])];rfl
  rw [h0,show ptsN [c,d]=if c=46∧d=46 then some 2 else none from rfl]
  have hc:=(ziJ c).1
  have hd:=(ziJ d).1
  match n with
  |0=>by_cases h:c=46∧d=46<;>simp [h]
  |1=>by_cases h:c=46∧d=46<;>simp [h,List.replicate_succ]
  |2=>simp [List.replicate_succ,hc,hd]
  |n+3=>by_cases h:c=46∧d=46<;>simp [h,List.replicate_succ]
 |c::d::e::r,n=>by
  rw [show ptsN (c::d::e::r)=if c=46 then (ptsN (d::e::r)).map (· +1) else if c=37∧d=50∧(e=101∨e=69) then (ptsN r).map (· +1) else none from by rw [ptsN]]
  by_cases h:c=46
  ·have ih:=zrL (d::e::r)
   subst h
   have h0:repP (zaI (46::d::e::r))=46::repP (zaI (d::e::r)):=zlF (by simp [ziZ,List.isPrefixOf,lowC])
   rw [h0,if_pos rfl]
   match n with
   |0=>simp
   |n+1=>simp [List.replicate_succ,ih n]
  ·rw [if_neg h]
   by_cases h1:c=37∧d=50∧(e=101∨e=69)
   ·have ih:=zrL r
    rw [if_pos h1]
    obtain ⟨rfl,rfl,he⟩:=h1
    have h0:repP (zaI (37::50::e::r))=46::repP (zaI r):=by
     have:zaI (37::50::e::r)=37::50::101::zaI r:=by
      show lowC 37::lowC 50::lowC e::zaI r=_
      rw [(ziJ e).2.2.2.2 he];rfl
     rw [this,z2F]
    rw [h0]
    match n with
    |0=>simp
    |n+1=>simp [List.replicate_succ,ih n]
   ·rw [if_neg h1]
    have h0:repP (zaI (c::d::e::r))=lowC c::repP (zaI (d::e::r)):=by
     refine zlF (Bool.eq_false_iff.2 fun g=>h1 ?_)
     have:37=lowC c∧50=lowC d∧101=lowC e:=by simpa [ziZ,List.isPrefixOf] using g
     exact ⟨(ziJ c).2.1.1 this.1.symm,(ziJ d).2.2.1.1 this.2.1.symm,(ziJ e).2.2.2.1 this.2.2.symm⟩
    rw [h0]
    have h2:lowC c≠46:=fun g=>h ((ziJ c).1.1 g)
    match n with
    |0=>simp
    |n+1=>simp [List.replicate_succ,h2]
theorem ylH (q:List UInt8):ptsW q=2↔Lib.replaceAll (zaI q) [37,50,101] [46]=[46,46]:=by
 rw [zmS]
 have:=zrL q 2
 rw [show List.replicate 2 (46:UInt8)=[46,46] from rfl] at this
 rw [←this]
 unfold ptsW
 cases h:ptsN q with
 |none=>simp
 |some n=>simp only [Option.some.injEq];split<;>omega
theorem ynW (q:List UInt8):ptsW q=1↔Lib.replaceAll (zaI q) [37,50,101] [46]=[46]:=by
 rw [zmS]
 have:=zrL q 1
 rw [show List.replicate 1 (46:UInt8)=[46] from rfl] at this
 rw [←this]
 unfold ptsW
 cases h:ptsN q with
 |none=>simp
 |some n=>simp only [Option.some.injEq];split<;>omega
theorem pts_le (q:List UInt8):ptsW q≤2:=by
 unfold ptsW
 split
 ·split<;>omega
 ·omega
end
end Go.Proofs.YtmjappnpedjlnaaGreatDoor
