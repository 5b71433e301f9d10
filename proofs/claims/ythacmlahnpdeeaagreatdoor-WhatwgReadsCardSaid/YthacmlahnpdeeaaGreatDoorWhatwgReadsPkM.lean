/-
  What the law WhatwgReads leans on, and its walk (13 of 29).
-/
import Derived.Test.YthacmlahnpdeeaaGreatDoorWhatwgReadsPkL
import Derived.Test.YthacmlahnpdeeaaGreatDoorWhatwgReadsPkE
namespace Go.Proofs.YthacmlahnpdeeaaGreatDoor
set_option maxRecDepth 100000
set_option maxHeartbeats 16000000
section
open Go.RowKit
inductive HZ where
 |none
 |name (l:List UInt8)
 |addr (a:AZ)
def HZ.Ok:HZ→Prop
 | .none=>False
 | .name l=>znT l∧zeB l=false
 | .addr a=>a.Ok
def zgW (r:List UInt8):HZ×Int:=if r.getLast? =some 93∧(sixZ r.dropLast).2=true then (.addr (.six (sixZ r.dropLast).1.1 (sixZ r.dropLast).1.2),0) else (.none,6)
def zgJ (c:List UInt8×Int):HZ×Int:=if c.2≠0 then (.none,c.2) else if zeB c.1=true then (if (zgU c.1).2=true then (.addr (.four (zgU c.1).1),0) else (.none,6)) else (.name c.1,0)
def zdC:List UInt8→HZ×Int
 |[]=>zgJ (zcH (decB []))
 |c::r=>if c=91 then zgW r else zgJ (zcH (decB (c::r)))
def z3D (n i:Nat):Int:=if i=n then 1 else 256^(4 - i)
theorem zyI (n:Nat) (h1:1≤n) (h4:n≤4): ∀(ps:List (List UInt8)) (i:Nat) (A:Int),i+ps.length≤n→0≤A→A+z3D n i≤4294967296→0≤(goF n i A ps).1∧(goF n i A ps).1≤4294967295:=by
 intro ps
 induction ps with
 |nil=>
  intro i A _ h0 hA
  have:1≤z3D n i:=by
   unfold z3D
   split
   ·omega
   ·exact Int.pow_pos (by decide)
  exact ⟨h0,by show A≤_;omega⟩
 |cons p ps ih=>
  intro i A hi h0 hA
  rw [show goF n i A (p::ps)=if (zbR p).2=true∧(zbR p).1<limZ n i then goF n (i+1) (A+(zbR p).1*wtZ n i) ps else (0,false) from rfl]
  split
  ·rename_i h
   have hb:=zgK p
   have hx:=h.2
   generalize (zbR p).1=x at*
   simp only [List.length_cons] at hi
   refine ih (i+1) _ (by omega) ?_ ?_
   ·have:0≤wtZ n i:=by unfold wtZ;split<;>first|decide|exact Int.le_of_lt (Int.pow_pos (by decide))
    have:=Int.mul_nonneg hb.1 this
    omega
   ·clear ih h
    rcases (show n=1∨n=2∨n=3∨n=4 from by omega) with rfl|rfl|rfl|rfl<;>
     rcases (show i=0∨i=1∨i=2∨i=3 from by omega) with rfl|rfl|rfl|rfl<;>
     first
     |omega
     |(simp [limZ,wtZ,z3D] at*;omega)
  ·exact ⟨Int.le_refl _,by decide⟩
theorem zkO (l:List UInt8):0≤(zgU l).1∧(zgU l).1≤4294967295:=by
 unfold zgU z8J
 split
 ·exact ⟨Int.le_refl _,by decide⟩
 ·rename_i h
  have hp:=z2A (z1W l)
  refine zyI _ hp (by omega) _ 0 0 ?_ (Int.le_refl _) ?_
  ·rw [List.length_take];omega
  ·unfold z3D
   rw [if_neg (by omega)]
   decide
theorem zfV (c:UInt8) (r:List UInt8):zdC (c::r)=if c=91 then zgW r else zgJ (zcH (decB (c::r))):=rfl
theorem z1L {l:List UInt8} (h:Lib.hasPrefix l [91]=true):zdC l=zgW (l.drop 1):=by
 cases l with
 |nil=>cases h
 |cons c r=>
  rw [zfV,if_pos]
  ·rfl
  ·have:(91==c)=true:=by simpa [Lib.hasPrefix] using h
   exact (eq_of_beq this).symm
theorem z4H {l:List UInt8} (h:Lib.hasPrefix l [91]=false):zdC l=zgJ (zcH (decB l)):=by
 cases l with
 |nil=>rfl
 |cons c r=>
  rw [zfV,if_neg]
  rintro rfl
  simp [Lib.hasPrefix] at h
theorem zwA (l:List UInt8):(decB l).length≤l.length:=by
 have key: ∀(f:Nat) (l:List UInt8),(decL f l).length≤l.length:=by
  intro f
  induction f with
  |zero=>intro l;exact Nat.zero_le _
  |succ f ih=>
   intro l
   cases l with
   |nil=>exact Nat.le_refl _
   |cons c r=>
    simp only [decL]
    split
    ·have:=ih (r.drop 2)
     rw [List.length_drop] at this
     simp only [List.length_cons]
     omega
    ·have:=ih r
     simp only [List.length_cons]
     omega
 exact key _ l
theorem zwW {c:List UInt8×Int} (hc:c.2=0→znT c.1) (h:(zgJ c).2=0):(zgJ c).1.Ok:=by
 unfold zgJ at*
 split at h
 ·rename_i h0;exact absurd h h0
 ·rename_i h0
  rw [if_neg h0]
  split at h
  ·rename_i h1
   rw [if_pos h1]
   split at h
   ·rename_i h2;rw [if_pos h2];exact zkO _
   ·cases h
  ·rename_i h1
   rw [if_neg h1]
   exact ⟨hc (by simpa using h0),by simpa using h1⟩
theorem z8V {r:List UInt8} (h:(zgW r).2=0):(zgW r).1.Ok:=by
 unfold zgW at*
 split at h
 ·rename_i h0;rw [if_pos h0];exact yaB _
 ·cases h
theorem zpK {l:List UInt8} (h:(zdC l).2=0):(zdC l).1.Ok:=by
 cases l with
 |nil=>exact zwW zoL h
 |cons c r=>
  rw [zfV] at*
  split at h
  ·rename_i h0;rw [if_pos h0];exact z8V h
  ·rename_i h0;rw [if_neg h0];exact zwW zoL h
theorem zvH {c:List UInt8×Int} (h:(zgJ c).2≠0):(zgJ c).1= .none:=by
 unfold zgJ at*
 repeat' split at h
 all_goals simp_all
theorem zxG {l:List UInt8} (h:(zdC l).2≠0):(zdC l).1= .none:=by
 cases l with
 |nil=>exact zvH h
 |cons c r=>
  rw [zfV] at*
  split at h
  ·rename_i h0
   rw [if_pos h0]
   unfold zgW at*
   split at h
   ·exact absurd rfl h
   ·rename_i h1;rw [if_neg h1]
  ·rename_i h0;rw [if_neg h0];exact zvH h
end
end Go.Proofs.YthacmlahnpdeeaaGreatDoor
