/-
  What the law WhatwgChains leans on, and its walk (13 of 33).
-/
import Derived.Test.YtcagcjdhbijknaaGreatDoorWhatwgChainsPkL
import Derived.Test.YtcagcjdhbijknaaGreatDoorWhatwgChainsPkE
namespace Go.Proofs.YtcagcjdhbijknaaGreatDoor
set_option maxRecDepth 100000
set_option maxHeartbeats 16000000
section
open Go.RowKit
inductive HZ where
 |none
 |name (l:List UInt8)
 |addr (a:AZ)
def HZ.Ok:HZ→Prop
 | .none=>False
 | .name l=>zpM l∧zfG l=false
 | .addr a=>a.Ok
def ziJ (r:List UInt8):HZ×Int:=if r.getLast? =some 93∧(sixZ r.dropLast).2=true then (.addr (.six (sixZ r.dropLast).1.1 (sixZ r.dropLast).1.2),0) else (.none,6)
def zhU (c:List UInt8×Int):HZ×Int:=if c.2≠0 then (.none,c.2) else if zfG c.1=true then (if (ziA c.1).2=true then (.addr (.four (ziA c.1).1),0) else (.none,6)) else (.name c.1,0)
def zeM:List UInt8→HZ×Int
 |[]=>zhU (zdK (decB []))
 |c::r=>if c=91 then ziJ r else zhU (zdK (decB (c::r)))
def z9D (n i:Nat):Int:=if i=n then 1 else 256^(4 - i)
theorem z1P (n:Nat) (h1:1≤n) (h4:n≤4): ∀(ps:List (List UInt8)) (i:Nat) (A:Int),i+ps.length≤n→0≤A→A+z9D n i≤4294967296→0≤(goF n i A ps).1∧(goF n i A ps).1≤4294967295:=by
 intro ps
 induction ps with
 |nil=>
  intro i A _ h0 hA
  have:1≤z9D n i:=by
   unfold z9D
   split
   ·omega
   ·exact Int.pow_pos (by decide)
  exact ⟨h0,by show A≤_;omega⟩
 |cons p ps ih=>
  intro i A hi h0 hA
  rw [show goF n i A (p::ps)=if (zcR p).2=true∧(zcR p).1<limZ n i then goF n (i+1) (A+(zcR p).1*wtZ n i) ps else (0,false) from rfl]
  split
  ·rename_i h
   have hb:=zhN p
   have hx:=h.2
   generalize (zcR p).1=x at*
   simp only [List.length_cons] at hi
   refine ih (i+1) _ (by omega) ?_ ?_
   ·have:0≤wtZ n i:=by unfold wtZ;split<;>first|decide|exact Int.le_of_lt (Int.pow_pos (by decide))
    have:=Int.mul_nonneg hb.1 this
    omega
   ·clear ih h
    rcases (show n=1∨n=2∨n=3∨n=4 from by omega) with rfl|rfl|rfl|rfl<;>
     rcases (show i=0∨i=1∨i=2∨i=3 from by omega) with rfl|rfl|rfl|rfl<;>
     first
     |omega
     |(simp [limZ,wtZ,z9D] at*;omega)
  ·exact ⟨Int.le_refl _,by decide⟩
theorem zlV (l:List UInt8):0≤(ziA l).1∧(ziA l).1≤4294967295:=by
 unfold ziA ycA
 split
 ·exact ⟨Int.le_refl _,by decide⟩
 ·rename_i h
  have hp:=z3T (z7S l)
  refine z1P _ hp (by omega) _ 0 0 ?_ (Int.le_refl _) ?_
  ·rw [List.length_take];omega
  ·unfold z9D
   rw [if_neg (by omega)]
   decide
theorem zgR (c:UInt8) (r:List UInt8):zeM (c::r)=if c=91 then ziJ r else zhU (zdK (decB (c::r))):=rfl
theorem z9K {l:List UInt8} (h:Lib.hasPrefix l [91]=true):zeM l=ziJ (l.drop 1):=by
 cases l with
 |nil=>cases h
 |cons c r=>
  rw [zgR,if_pos]
  ·rfl
  ·have:(91==c)=true:=by simpa [Lib.hasPrefix] using h
   exact (eq_of_beq this).symm
theorem z9T {l:List UInt8} (h:Lib.hasPrefix l [91]=false):zeM l=zhU (zdK (decB l)):=by
 cases l with
 |nil=>rfl
 |cons c r=>
  rw [zgR,if_neg]
  rintro rfl
  simp [Lib.hasPrefix] at h
theorem zyC (l:List UInt8):(decB l).length≤l.length:=by
 have key: ∀(f:Nat) (l:List UInt8),(decL f l).length≤l.length:=by
  intro f
  induction f with
  |zero=>intro l;exact Nat.zero_le _
  |succ f ih=>
   intro l
   cases l with
   |nil=>exact Nat.le_refl _
   |cons c r=>
    simp only [decL]
    split
    ·have:=ih (r.drop 2)
     rw [List.length_drop] at this
     simp only [List.length_cons]
     omega
    ·have:=ih r
     simp only [List.length_cons]
     omega
 exact key _ l
theorem zyH {c:List UInt8×Int} (hc:c.2=0→zpM c.1) (h:(zhU c).2=0):(zhU c).1.Ok:=by
 unfold zhU at*
 split at h
 ·rename_i h0;exact absurd h h0
 ·rename_i h0
  rw [if_neg h0]
  split at h
  ·rename_i h1
   rw [if_pos h1]
   split at h
   ·rename_i h2;rw [if_pos h2];exact zlV _
   ·cases h
  ·rename_i h1
   rw [if_neg h1]
   exact ⟨hc (by simpa using h0),by simpa using h1⟩
theorem yaG {r:List UInt8} (h:(ziJ r).2=0):(ziJ r).1.Ok:=by
 unfold ziJ at*
 split at h
 ·rename_i h0;rw [if_pos h0];exact yeH _
 ·cases h
theorem znB {l:List UInt8} (h:(zeM l).2=0):(zeM l).1.Ok:=by
 cases l with
 |nil=>exact zyH zpT h
 |cons c r=>
  rw [zgR] at*
  split at h
  ·rename_i h0;rw [if_pos h0];exact yaG h
  ·rename_i h0;rw [if_neg h0];exact zyH zpT h
theorem zzY {c:List UInt8×Int} (h:(zhU c).2≠0):(zhU c).1= .none:=by
 unfold zhU at*
 repeat' split at h
 all_goals simp_all
theorem z0A {l:List UInt8} (h:(zeM l).2≠0):(zeM l).1= .none:=by
 cases l with
 |nil=>exact zzY h
 |cons c r=>
  rw [zgR] at*
  split at h
  ·rename_i h0
   rw [if_pos h0]
   unfold ziJ at*
   split at h
   ·exact absurd rfl h
   ·rename_i h1;rw [if_neg h1]
  ·rename_i h0;rw [if_neg h0];exact zzY h
end
end Go.Proofs.YtcagcjdhbijknaaGreatDoor
