/-
  What the law ResolveMeets leans on, and its walk (39 of 46).
-/
import Derived.Test.YtmjappnpedjlnaaGreatDoorResolveMeetsPkX
import Derived.Test.YtmjappnpedjlnaaGreatDoorResolveMeetsPkf
import Derived.Test.YtmjappnpedjlnaaGreatDoorResolveMeetsPkm
namespace Go.Proofs.YtmjappnpedjlnaaGreatDoor
set_option maxRecDepth 100000
set_option maxHeartbeats 16000000
section
open Go.RowKit
theorem zoH (a b:List (List UInt8)):zbK (a++b)=zbK a++zbK b:=by
 induction a with
 |nil=>rfl
 |cons s r ih=>simp [zbK,ih]
theorem z5B (a:List (List UInt8)):(zbK a.dropLast).length≤(zbK a).length:=by
 rcases List.eq_nil_or_concat a with rfl|⟨t,x,rfl⟩
 ·exact Nat.le_refl _
 ·rw [List.concat_eq_append,List.dropLast_concat,zoH,List.length_append];omega
theorem z6C (b:Bool) (out:List (List UInt8)) (q:List UInt8):(zbK (zeD b out q)).length≤(zbK out).length+q.length+1:=by
 have hd:=z5B out
 have e: ∀(o:List (List UInt8)) (x:List UInt8),(zbK (o++[x])).length=(zbK o).length+x.length+1:=fun o x=>by rw [zoH];simp [zbK];omega
 unfold zeD
 split
 ·rw [e];omega
 ·split
  ·split
   ·rw [e];simp only [List.length_nil];omega
   ·rw [e];simp only [List.length_nil];omega
  ·split<;>omega
theorem ylZ (u:Nat) (h:u≤65535):(Lib.decDigits u).length≤5:=by
 have key: ∀k:Nat,∀u,u<10^(k+1)→(Lib.decDigits u).length≤k+1:=by
  intro k
  induction k with
  |zero=>intro u hu;rw [Lib.decDigits,dif_pos (by omega)];simp
  |succ k ih=>
   intro u hu
   rw [Lib.decDigits]
   split
   ·simp
   ·have:=ih (u/10) (by rw [Nat.div_lt_iff_lt_mul (by decide)];rw [Nat.pow_succ] at hu;exact hu)
    rw [List.length_append]
    simp
    omega
 exact key 4 u (by omega)
theorem ygL {n:Int} (h0:0≤n) (h1:n≤65535):(Lib.itoa n).length≤30:=by
 unfold Lib.itoa
 rw [if_neg (by omega)]
 have:=ylZ n.toNat (by omega)
 omega
end
end Go.Proofs.YtmjappnpedjlnaaGreatDoor
