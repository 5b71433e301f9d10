/-
  What the law ResolveMeets leans on, and its walk (14 of 46).
-/
import Derived.Lib.Strings
import Derived.Lib.Bytealg
import Derived.Lib.LastIndexByte
import Derived.Test.YtmjappnpedjlnaaGreatDoorResolveMeetsPkL
namespace Go.Proofs.YtmjappnpedjlnaaGreatDoor
set_option maxRecDepth 100000
set_option maxHeartbeats 16000000
section
open Go.RowKit
theorem z1V {s p:List UInt8}:Lib.hasPrefix s p=true↔ ∃r,s=p++r:=by
 unfold Lib.hasPrefix
 rw [List.isPrefixOf_iff_prefix]
 exact ⟨fun ⟨r,h⟩=>⟨r,h.symm⟩,fun ⟨r,h⟩=>⟨r,h.symm⟩⟩
theorem zrG {s p:List UInt8} (h: ∀r,s=p++r→False):Lib.hasPrefix s p=false:=by
 cases e:Lib.hasPrefix s p with
 |false=>rfl
 |true=>obtain ⟨r,hr⟩:=z1V.1 e;exact (h r hr).elim
def stpN (p:List UInt8):Nat:=1+(segD p.tail).length
theorem ztQ: ∀(l:List UInt8),l.take (segD l).length=segD l
 |[]=>rfl
 |c::l=>by
  unfold segD
  split
  ·rfl
  ·simp [ztQ l]
theorem z9T {p:List UInt8} (h:p≠[]):stpN p≤p.length:=by
 cases p with
 |nil=>exact absurd rfl h
 |cons c l=>have:=z2I l;simp [stpN];omega
theorem z7V {p:List UInt8} (out:List (List UInt8)) (h:p≠[]):zjS p out=
  if Lib.hasPrefix p [46,46,47] then (p.drop 3,out)
  else if Lib.hasPrefix p [46,47]||Lib.hasPrefix p [47,46,47] then (p.drop 2,out)
  else if p==[47,46] then ([47],out)
  else if Lib.hasPrefix p [47,46,46,47] then (p.drop 3,out.dropLast)
  else if p==[47,46,46] then ([47],out.dropLast)
  else if p==[46]||p==[46,46] then ([],out)
  else (p.drop (stpN p),out++[p.take (stpN p)]):=by
 unfold zjS
 split
 ·rfl
 ·rfl
 ·rfl
 ·rfl
 ·rfl
 ·rfl
 ·rfl
 ·rfl
 ·rename_i c l h1 h2 h3 h4 h5 h6 h7 h8
  rw [zrG (p:=[46,46,47]) (fun r e=>by simp only [List.cons_append,List.nil_append,List.cons.injEq] at e;exact h3 r e.1 e.2),
   zrG (p:=[46,47]) (fun r e=>by simp only [List.cons_append,List.nil_append,List.cons.injEq] at e;exact h4 r e.1 e.2),
   zrG (p:=[47,46,47]) (fun r e=>by simp only [List.cons_append,List.nil_append,List.cons.injEq] at e;exact h7 r e.1 e.2),
   zrG (p:=[47,46,46,47]) (fun r e=>by simp only [List.cons_append,List.nil_append,List.cons.injEq] at e;exact h8 r e.1 e.2)]
  have n1:(c::l==[47,46])=false:=beq_eq_false_iff_ne.2 fun e=>by simp only [List.cons.injEq] at e;exact h5 e.1 (by simpa using e.2)
  have n2:(c::l==[47,46,46])=false:=beq_eq_false_iff_ne.2 fun e=>by simp only [List.cons.injEq] at e;exact h6 e.1 (by simpa using e.2)
  have n3:(c::l==[46])=false:=beq_eq_false_iff_ne.2 fun e=>by simp only [List.cons.injEq] at e;exact h1 e.1 (by simpa using e.2)
  have n4:(c::l==[46,46])=false:=beq_eq_false_iff_ne.2 fun e=>by simp only [List.cons.injEq] at e;exact h2 e.1 (by simpa using e.2)
  rw [n1,n2,n3,n4]
  simp only [Bool.false_eq_true,if_false,Bool.or_self]
  have e:stpN (c::l)=(segD l).length+1:=by simp [stpN];omega
  rw [e,List.drop_succ_cons,List.take_succ_cons,ztQ]
 ·exact absurd rfl h
theorem zqB: ∀(l:List UInt8),((47:UInt8)∈l→Lib.indexByte l 47=(segD l).length)∧((47:UInt8)∉l→Lib.indexByte l 47= -1∧segD l=l)
 |[]=>⟨fun h=>(by cases h),fun _=>⟨rfl,rfl⟩⟩
 |c::l=>by
  obtain ⟨h1,h2⟩:=zqB l
  by_cases hc:c=47
  ·subst hc
   refine ⟨fun _=> ?_,fun h=>absurd (by simp) h⟩
   simp [Lib.indexByte,segD]
  ·have e:(c==47)=false:=by simpa using hc
   have hs:segD (c::l)=c::segD l:=by rw [segD,if_neg hc]
   refine ⟨fun h=> ?_,fun h=> ?_⟩
   ·have h:(47:UInt8)∈l:=by
     rcases List.mem_cons.1 h with q|q
     ·exact absurd q.symm hc
     ·exact q
    simp only [Lib.indexByte,e,Bool.false_eq_true,if_false,hs,h1 h]
    simp
   ·have h:(47:UInt8)∉l:=fun q=>h (List.mem_cons_of_mem _ q)
    obtain ⟨h3,h4⟩:=h2 h
    refine ⟨?_,by rw [hs,h4]⟩
    simp only [Lib.indexByte,e,Bool.false_eq_true,if_false,h3]
    simp
def zyC (l:List UInt8) (k:Nat):Int:=Lib.lastIdx ⟨l.toArray⟩ 47 k+1
def ziV (l:List UInt8):Nat:=(zyC l l.length).toNat
theorem z2J (l:List UInt8) (k:Nat):0≤zyC l k∧zyC l k≤k:=by
 unfold zyC
 rcases Lib.lastIdx_spec ⟨l.toArray⟩ 47 k with ⟨e,_⟩|⟨i,hi,e,_⟩<;>rw [e]<;>omega
theorem yjC (l:List UInt8):ziV l≤l.length:=by
 have:=z2J l l.length
 unfold ziV
 omega
def zeG (base:List UInt8) (rootless:Bool) (path:List UInt8):List UInt8:=
 if base.isEmpty&&rootless then 47::path else base.take (ziV base)++path
end
end Go.Proofs.YtmjappnpedjlnaaGreatDoor
