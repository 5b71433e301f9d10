/-
  What the law WhatwgClean leans on, and its walk (7 of 31).
-/
import Derived.Test.YthacmlahnpdeeaaGreatDoorWhatwgCleanPkD
import Derived.Test.YthacmlahnpdeeaaGreatDoorWhatwgCleanPkF
namespace Go.Proofs.YthacmlahnpdeeaaGreatDoor
set_option maxRecDepth 100000
set_option maxHeartbeats 16000000
section
open Go.RowKit
/-- none,a name,an address -/
inductive HZ where
 |none
 |name (l:List UInt8)
 |addr (a:AZ)
def HZ.Ok:HZ→Prop
 | .none=>False
 | .name l=>zdP l∧zhD l=false
 | .addr a=>a.Ok
def zkM (r:List UInt8):HZ×Int:=if r.getLast? =some 93∧(sixZ r.dropLast).2=true then (.addr (.six (sixZ r.dropLast).1.1 (sixZ r.dropLast).1.2),0) else (.none,6)
def zfO (c:List UInt8×Int):HZ×Int:=if c.2≠0 then (.none,c.2) else if zhD c.1=true then (if (zhP c.1).2=true then (.addr (.four (zhP c.1).1),0) else (.none,6)) else (.name c.1,0)
def zcR:List UInt8→HZ×Int
 |[]=>zfO (zbR (decB []))
 |c::r=>if c=91 then zkM r else zfO (zbR (decB (c::r)))
def zfG:HZ→List UInt8
 | .none=>[]
 | .name l=>l
 | .addr (.four n)=>txtZ n
 | .addr (.six hi lo)=>[91]++zfE hi lo++[93]
def ycB (n i:Nat):Int:=if i=n then 1 else 256^(4 - i)
theorem z5M (n:Nat) (h1:1≤n) (h4:n≤4): ∀(ps:List (List UInt8)) (i:Nat) (A:Int),i+ps.length≤n→0≤A→A+ycB n i≤4294967296→0≤(goF n i A ps).1∧(goF n i A ps).1≤4294967295:=by
 intro ps
 induction ps with
 |nil=>
  intro i A _ h0 hA
  have:1≤ycB n i:=by
   unfold ycB
   split
   ·omega
   ·exact Int.pow_pos (by decide)
  exact ⟨h0,by show A≤_;omega⟩
 |cons p ps ih=>
  intro i A hi h0 hA
  rw [show goF n i A (p::ps)=if (zcP p).2=true∧(zcP p).1<limZ n i then goF n (i+1) (A+(zcP p).1*wtZ n i) ps else (0,false) from rfl]
  split
  ·rename_i h
   have hb:=zkT p
   have hx:=h.2
   generalize (zcP p).1=x at*
   simp only [List.length_cons] at hi
   refine ih (i+1) _ (by omega) ?_ ?_
   ·have:0≤wtZ n i:=by unfold wtZ;split<;>first|decide|exact Int.le_of_lt (Int.pow_pos (by decide))
    have:=Int.mul_nonneg hb.1 this
    omega
   ·clear ih h
    rcases (show n=1∨n=2∨n=3∨n=4 from by omega) with rfl|rfl|rfl|rfl<;>
     rcases (show i=0∨i=1∨i=2∨i=3 from by omega) with rfl|rfl|rfl|rfl<;>
     first
     |omega
     |(simp [limZ,wtZ,ycB] at*;omega)
  ·exact ⟨Int.le_refl _,by decide⟩
theorem zuQ (l:List UInt8):0≤(zhP l).1∧(zhP l).1≤4294967295:=by
 unfold zhP yhQ
 split
 ·exact ⟨Int.le_refl _,by decide⟩
 ·rename_i h
  have hp:=zwJ (zkQ l)
  refine z5M _ hp (by omega) _ 0 0 ?_ (Int.le_refl _) ?_
  ·rw [List.length_take];omega
  ·unfold ycB
   rw [if_neg (by omega)]
   decide
theorem ziS (c:UInt8) (r:List UInt8):zcR (c::r)=if c=91 then zkM r else zfO (zbR (decB (c::r))):=rfl
theorem z6Q {l:List UInt8} (h:Lib.hasPrefix l [91]=true):zcR l=zkM (l.drop 1):=by
 cases l with
 |nil=>cases h
 |cons c r=>
  rw [ziS,if_pos]
  ·rfl
  ·have:(91==c)=true:=by simpa [Lib.hasPrefix] using h
   exact (eq_of_beq this).symm
theorem z8R {l:List UInt8} (h:Lib.hasPrefix l [91]=false):zcR l=zfO (zbR (decB l)):=by
 cases l with
 |nil=>rfl
 |cons c r=>
  rw [ziS,if_neg]
  rintro rfl
  simp [Lib.hasPrefix] at h
theorem yhC (l:List UInt8):(decB l).length≤l.length:=by
 have key: ∀(f:Nat) (l:List UInt8),(decL f l).length≤l.length:=by
  intro f
  induction f with
  |zero=>intro l;exact Nat.zero_le _
  |succ f ih=>
   intro l
   cases l with
   |nil=>exact Nat.le_refl _
   |cons c r=>
    simp only [decL]
    split
    ·have:=ih (r.drop 2)
     rw [List.length_drop] at this
     simp only [List.length_cons]
     omega
    ·have:=ih r
     simp only [List.length_cons]
     omega
 exact key _ l
theorem z2N {c:List UInt8×Int} (hc:c.2=0→zdP c.1) (h:(zfO c).2=0):(zfO c).1.Ok:=by
 unfold zfO at*
 split at h
 ·rename_i h0;exact absurd h h0
 ·rename_i h0
  rw [if_neg h0]
  split at h
  ·rename_i h1
   rw [if_pos h1]
   split at h
   ·rename_i h2;rw [if_pos h2];exact zuQ _
   ·cases h
  ·rename_i h1
   rw [if_neg h1]
   exact ⟨hc (by simpa using h0),by simpa using h1⟩
theorem yeD {r:List UInt8} (h:(zkM r).2=0):(zkM r).1.Ok:=by
 unfold zkM at*
 split at h
 ·rename_i h0;rw [if_pos h0];exact z6N _
 ·cases h
theorem znA {l:List UInt8} (h:(zcR l).2=0):(zcR l).1.Ok:=by
 cases l with
 |nil=>exact z2N zqE h
 |cons c r=>
  rw [ziS] at*
  split at h
  ·rename_i h0;rw [if_pos h0];exact yeD h
  ·rename_i h0;rw [if_neg h0];exact z2N zqE h
theorem z1F {c:List UInt8×Int} (h:(zfO c).2≠0):(zfO c).1= .none:=by
 unfold zfO at*
 repeat' split at h
 all_goals simp_all
theorem z1H {l:List UInt8} (h:(zcR l).2≠0):(zcR l).1= .none:=by
 cases l with
 |nil=>exact z1F h
 |cons c r=>
  rw [ziS] at*
  split at h
  ·rename_i h0
   rw [if_pos h0]
   unfold zkM at*
   split at h
   ·exact absurd rfl h
   ·rename_i h1;rw [if_neg h1]
  ·rename_i h0;rw [if_neg h0];exact z1F h
end

end Go.Proofs.YthacmlahnpdeeaaGreatDoor
