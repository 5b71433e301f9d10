/-
  What the law AgreeNever leans on, and its walk (16 of 42).
-/
import Derived.Test.YtegmcmgndllmaaaGreatDoorAgreeNeverPkO
import Derived.Test.YtegmcmgndllmaaaGreatDoorAgreeNeverPkE
namespace Go.Proofs.YtegmcmgndllmaaaGreatDoor
set_option maxRecDepth 100000
set_option maxHeartbeats 16000000
section
open Go.RowKit
inductive HZ where
 |none
 |name (l:List UInt8)
 |addr (a:AZ)
def HZ.Ok:HZ→Prop
 | .none=>False
 | .name l=>zpG l∧ziZ l=false
 | .addr a=>a.Ok
def zkI (r:List UInt8):HZ×Int:=if r.getLast? =some 93∧(sixZ r.dropLast).2=true then (.addr (.six (sixZ r.dropLast).1.1 (sixZ r.dropLast).1.2),0) else (.none,6)
def ziI (c:List UInt8×Int):HZ×Int:=if c.2≠0 then (.none,c.2) else if ziZ c.1=true then (if (zkX c.1).2=true then (.addr (.four (zkX c.1).1),0) else (.none,6)) else (.name c.1,0)
def zdR:List UInt8→HZ×Int
 |[]=>ziI (zcR (decB []))
 |c::r=>if c=91 then zkI r else ziI (zcR (decB (c::r)))
def z8C (n i:Nat):Int:=if i=n then 1 else 256^(4 - i)
theorem z1M (n:Nat) (C:1≤n) (o:n≤4): ∀(ps:List (List UInt8)) (i:Nat) (A:Int),i+ps.length≤n→0≤A→A+z8C n i≤4294967296→0≤(goF n i A ps).1∧(goF n i A ps).1≤4294967295:=by
 intro ps
 induction ps with
 |nil=>
  intro i A _ f m
  have:1≤z8C n i:=by
   unfold z8C
   split
   ·omega
   ·exact Int.pow_pos (by decide)
  exact ⟨f,by show A≤_;omega⟩
 |cons p ps d=>
  intro i A hi f m
  rw [show goF n i A (p::ps)=if (zcV p).2=true∧(zcV p).1<limZ n i then goF n (i+1) (A+(zcV p).1*wtZ n i) ps else (0,false) from rfl]
  split
  ·rename_i h
   have j:=zjG p
   have B:=h.2
   generalize (zcV p).1=x at*
   simp only [List.length_cons] at hi
   refine d (i+1) _ (by omega) ?_ ?_
   ·have:0≤wtZ n i:=by unfold wtZ;split<;>first|decide|exact Int.le_of_lt (Int.pow_pos (by decide))
    have:=Int.mul_nonneg j.1 this
    omega
   ·clear d h
    rcases (show n=1∨n=2∨n=3∨n=4 from by omega) with rfl|rfl|rfl|rfl<;>
     rcases (show i=0∨i=1∨i=2∨i=3 from by omega) with rfl|rfl|rfl|rfl<;>
     first
     |omega
     |(simp [limZ,wtZ,z8C] at*;omega)
  ·exact ⟨Int.le_refl _,by decide⟩
theorem zsQ (l:List UInt8):0≤(zkX l).1∧(zkX l).1≤4294967295:=by
 unfold zkX yeY
 split
 ·exact ⟨Int.le_refl _,by decide⟩
 ·rename_i h
  have d:=z4R (z9V l)
  refine z1M _ d (by omega) _ 0 0 ?_ (Int.le_refl _) ?_
  ·rw [List.length_take];omega
  ·unfold z8C
   rw [if_neg (by omega)]
   decide
theorem zhV (c:UInt8) (r:List UInt8):zdR (c::r)=if c=91 then zkI r else ziI (zcR (decB (c::r))):=rfl
theorem z6L {l:List UInt8} (h:Lib.hasPrefix l [91]=true):zdR l=zkI (l.drop 1):=by
 cases l with
 |nil=>cases h
 |cons c r=>
  rw [zhV,if_pos]
  ·rfl
  ·have:(91==c)=true:=by simpa [Lib.hasPrefix] using h
   exact (eq_of_beq this).symm
theorem yaG {l:List UInt8} (h:Lib.hasPrefix l [91]=false):zdR l=ziI (zcR (decB l)):=by
 cases l with
 |nil=>rfl
 |cons c r=>
  rw [zhV,if_neg]
  rintro rfl
  simp [Lib.hasPrefix] at h
theorem yeL (l:List UInt8):(decB l).length≤l.length:=by
 have key: ∀(f:Nat) (l:List UInt8),(decL f l).length≤l.length:=by
  intro f
  induction f with
  |zero=>intro l;exact Nat.zero_le _
  |succ f d=>
   intro l
   cases l with
   |nil=>exact Nat.le_refl _
   |cons c r=>
    simp only [decL]
    split
    ·have:=d (r.drop 2)
     rw [List.length_drop] at this
     simp only [List.length_cons]
     omega
    ·have:=d r
     simp only [List.length_cons]
     omega
 exact key _ l
theorem zyS {c:List UInt8×Int} (j:c.2=0→zpG c.1) (h:(ziI c).2=0):(ziI c).1.Ok:=by
 unfold ziI at*
 split at h
 ·rename_i f;exact absurd h f
 ·rename_i f
  rw [if_neg f]
  split at h
  ·rename_i d
   rw [if_pos d]
   split at h
   ·rename_i i;rw [if_pos i];exact zsQ _
   ·cases h
  ·rename_i d
   rw [if_neg d]
   exact ⟨j (by simpa using f),by simpa using d⟩
theorem ycP {r:List UInt8} (h:(zkI r).2=0):(zkI r).1.Ok:=by
 unfold zkI at*
 split at h
 ·rename_i d;rw [if_pos d];exact z9R _
 ·cases h
theorem zlQ {l:List UInt8} (h:(zdR l).2=0):(zdR l).1.Ok:=by
 cases l with
 |nil=>exact zyS zoW h
 |cons c r=>
  rw [zhV] at*
  split at h
  ·rename_i d;rw [if_pos d];exact ycP h
  ·rename_i d;rw [if_neg d];exact zyS zoW h
theorem zxU {c:List UInt8×Int} (h:(ziI c).2≠0):(ziI c).1= .none:=by
 unfold ziI at*
 repeat' split at h
 all_goals simp_all
theorem ygE {l:List UInt8} (h:(zdR l).2≠0):(zdR l).1= .none:=by
 cases l with
 |nil=>exact zxU h
 |cons c r=>
  rw [zhV] at*
  split at h
  ·rename_i d
   rw [if_pos d]
   unfold zkI at*
   split at h
   ·exact absurd rfl h
   ·rename_i f;rw [if_neg f]
  ·rename_i d;rw [if_neg d];exact zxU h
end
end Go.Proofs.YtegmcmgndllmaaaGreatDoor
