/-
  What the law AuthorityStrict leans on, and its walk (15 of 35).
-/
import Derived.Test.YtmjappnpedjlnaaGreatDoorAuthorityStrictPkN
import Derived.Test.YtmjappnpedjlnaaGreatDoorAuthorityStrictPkE
namespace Go.Proofs.YtmjappnpedjlnaaGreatDoor
set_option maxRecDepth 100000
set_option maxHeartbeats 16000000
section
open Go.RowKit
inductive HZ where
 |none
 |name (l:List UInt8)
 |addr (a:AZ)
def HZ.Ok:HZ→Prop
 | .none=>False
 | .name l=>zjQ l∧zdE l=false
 | .addr a=>a.Ok
def zfJ (r:List UInt8):HZ×Int:=if r.getLast? =some 93∧(sixZ r.dropLast).2=true then (.addr (.six (sixZ r.dropLast).1.1 (sixZ r.dropLast).1.2),0) else (.none,6)
def zfW (c:List UInt8×Int):HZ×Int:=if c.2≠0 then (.none,c.2) else if zdE c.1=true then (if (zeV c.1).2=true then (.addr (.four (zeV c.1).1),0) else (.none,6)) else (.name c.1,0)
def zeT:List UInt8→HZ×Int
 |[]=>zfW (zbV (decB []))
 |c::r=>if c=91 then zfJ r else zfW (zbV (decB (c::r)))
def zuT (n i:Nat):Int:=if i=n then 1 else 256^(4 - i)
theorem zqA (n:Nat) (h1:1≤n) (h4:n≤4): ∀(ps:List (List UInt8)) (i:Nat) (A:Int),i+ps.length≤n→0≤A→A+zuT n i≤4294967296→0≤(goF n i A ps).1∧(goF n i A ps).1≤4294967295:=by
 intro ps
 induction ps with
 |nil=>
  intro i A _ h0 hA
  have:1≤zuT n i:=by
   unfold zuT
   split
   ·omega
   ·exact Int.pow_pos (by decide)
  exact ⟨h0,by show A≤_;omega⟩
 |cons p ps ih=>
  intro i A hi h0 hA
  rw [show goF n i A (p::ps)=if (zbG p).2=true∧(zbG p).1<limZ n i then goF n (i+1) (A+(zbG p).1*wtZ n i) ps else (0,false) from rfl]
  split
  ·rename_i h
   have hb:=zeK p
   have hx:=h.2
   generalize (zbG p).1=x at*
   simp only [List.length_cons] at hi
   refine ih (i+1) _ (by omega) ?_ ?_
   ·have:0≤wtZ n i:=by unfold wtZ;split<;>first|decide|exact Int.le_of_lt (Int.pow_pos (by decide))
    have:=Int.mul_nonneg hb.1 this
    omega
   ·clear ih h
    rcases (show n=1∨n=2∨n=3∨n=4 from by omega) with rfl|rfl|rfl|rfl<;>
     rcases (show i=0∨i=1∨i=2∨i=3 from by omega) with rfl|rfl|rfl|rfl<;>
     first
     |omega
     |(simp [limZ,wtZ,zuT] at*;omega)
  ·exact ⟨Int.le_refl _,by decide⟩
theorem zhD (l:List UInt8):0≤(zeV l).1∧(zeV l).1≤4294967295:=by
 unfold zeV zxA
 split
 ·exact ⟨Int.le_refl _,by decide⟩
 ·rename_i h
  have hp:=ztJ (zsG l)
  refine zqA _ hp (by omega) _ 0 0 ?_ (Int.le_refl _) ?_
  ·rw [List.length_take];omega
  ·unfold zuT
   rw [if_neg (by omega)]
   decide
theorem zfA (c:UInt8) (r:List UInt8):zeT (c::r)=if c=91 then zfJ r else zfW (zbV (decB (c::r))):=rfl
theorem zsV {l:List UInt8} (h:Lib.hasPrefix l [91]=true):zeT l=zfJ (l.drop 1):=by
 cases l with
 |nil=>cases h
 |cons c r=>
  rw [zfA,if_pos]
  ·rfl
  ·have:(91==c)=true:=by simpa [Lib.hasPrefix] using h
   exact (eq_of_beq this).symm
theorem ztC {l:List UInt8} (h:Lib.hasPrefix l [91]=false):zeT l=zfW (zbV (decB l)):=by
 cases l with
 |nil=>rfl
 |cons c r=>
  rw [zfA,if_neg]
  rintro rfl
  simp [Lib.hasPrefix] at h
theorem zpO (l:List UInt8):(decB l).length≤l.length:=by
 have key: ∀(f:Nat) (l:List UInt8),(decL f l).length≤l.length:=by
  intro f
  induction f with
  |zero=>intro l;exact Nat.zero_le _
  |succ f ih=>
   intro l
   cases l with
   |nil=>exact Nat.le_refl _
   |cons c r=>
    simp only [decL]
    split
    ·have:=ih (r.drop 2)
     rw [List.length_drop] at this
     simp only [List.length_cons]
     omega
    ·have:=ih r
     simp only [List.length_cons]
     omega
 exact key _ l
theorem zpM {c:List UInt8×Int} (hc:c.2=0→zjQ c.1) (h:(zfW c).2=0):(zfW c).1.Ok:=by
 unfold zfW at*
 split at h
 ·rename_i h0;exact absurd h h0
 ·rename_i h0
  rw [if_neg h0]
  split at h
  ·rename_i h1
   rw [if_pos h1]
   split at h
   ·rename_i h2;rw [if_pos h2];exact zhD _
   ·cases h
  ·rename_i h1
   rw [if_neg h1]
   exact ⟨hc (by simpa using h0),by simpa using h1⟩
theorem zxM {r:List UInt8} (h:(zfJ r).2=0):(zfJ r).1.Ok:=by
 unfold zfJ at*
 split at h
 ·rename_i h0;rw [if_pos h0];exact zyM _
 ·cases h
theorem zwR {l:List UInt8} (h:(zeT l).2=0):(zeT l).1.Ok:=by
 cases l with
 |nil=>exact zpM zjO h
 |cons c r=>
  rw [zfA] at*
  split at h
  ·rename_i h0;rw [if_pos h0];exact zxM h
  ·rename_i h0;rw [if_neg h0];exact zpM zjO h
end
end Go.Proofs.YtmjappnpedjlnaaGreatDoor
