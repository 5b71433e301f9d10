/-
  What the law ResolveParts leans on, and its walk (14 of 42).
-/
import Derived.Lib.Strings
import Derived.Lib.Bytealg
import Derived.Lib.LastIndexByte
import Derived.Test.YtmjappnpedjlnaaGreatDoorResolvePartsPkL
namespace Go.Proofs.YtmjappnpedjlnaaGreatDoor
set_option maxRecDepth 100000
set_option maxHeartbeats 16000000
section
open Go.RowKit
theorem zcD {s p:List UInt8}:Lib.hasPrefix s p=true↔ ∃r,s=p++r:=by
 unfold Lib.hasPrefix
 rw [List.isPrefixOf_iff_prefix]
 exact ⟨fun ⟨r,h⟩=>⟨r,h.symm⟩,fun ⟨r,h⟩=>⟨r,h.symm⟩⟩
theorem zdG {s p:List UInt8} (h: ∀r,s=p++r→False):Lib.hasPrefix s p=false:=by
 cases e:Lib.hasPrefix s p with
 |false=>rfl
 |true=>obtain ⟨r,hr⟩:=zcD.1 e;exact (h r hr).elim
def stpN (p:List UInt8):Nat:=1+(segD p.tail).length
theorem zeK: ∀(l:List UInt8),l.take (segD l).length=segD l
 |[]=>rfl
 |c::l=>by
  unfold segD
  split
  ·rfl
  ·simp [zeK l]
theorem zeU {p:List UInt8} (h:p≠[]):stpN p≤p.length:=by
 cases p with
 |nil=>exact absurd rfl h
 |cons c l=>have:=zfX l;simp [stpN];omega
theorem zeI {p:List UInt8} (out:List (List UInt8)) (h:p≠[]):zcG p out=
  if Lib.hasPrefix p [46,46,47] then (p.drop 3,out)
  else if Lib.hasPrefix p [46,47]||Lib.hasPrefix p [47,46,47] then (p.drop 2,out)
  else if p==[47,46] then ([47],out)
  else if Lib.hasPrefix p [47,46,46,47] then (p.drop 3,out.dropLast)
  else if p==[47,46,46] then ([47],out.dropLast)
  else if p==[46]||p==[46,46] then ([],out)
  else (p.drop (stpN p),out++[p.take (stpN p)]):=by
 unfold zcG
 split
 ·rfl
 ·rfl
 ·rfl
 ·rfl
 ·rfl
 ·rfl
 ·rfl
 ·rfl
 ·rename_i c l h1 h2 h3 h4 h5 h6 h7 h8
  rw [zdG (p:=[46,46,47]) (fun r e=>by simp only [List.cons_append,List.nil_append,List.cons.injEq] at e;exact h3 r e.1 e.2),
   zdG (p:=[46,47]) (fun r e=>by simp only [List.cons_append,List.nil_append,List.cons.injEq] at e;exact h4 r e.1 e.2),
   zdG (p:=[47,46,47]) (fun r e=>by simp only [List.cons_append,List.nil_append,List.cons.injEq] at e;exact h7 r e.1 e.2),
   zdG (p:=[47,46,46,47]) (fun r e=>by simp only [List.cons_append,List.nil_append,List.cons.injEq] at e;exact h8 r e.1 e.2)]
  have n1:(c::l==[47,46])=false:=beq_eq_false_iff_ne.2 fun e=>by simp only [List.cons.injEq] at e;exact h5 e.1 (by simpa using e.2)
  have n2:(c::l==[47,46,46])=false:=beq_eq_false_iff_ne.2 fun e=>by simp only [List.cons.injEq] at e;exact h6 e.1 (by simpa using e.2)
  have n3:(c::l==[46])=false:=beq_eq_false_iff_ne.2 fun e=>by simp only [List.cons.injEq] at e;exact h1 e.1 (by simpa using e.2)
  have n4:(c::l==[46,46])=false:=beq_eq_false_iff_ne.2 fun e=>by simp only [List.cons.injEq] at e;exact h2 e.1 (by simpa using e.2)
  rw [n1,n2,n3,n4]
  simp only [Bool.false_eq_true,if_false,Bool.or_self]
  have e:stpN (c::l)=(segD l).length+1:=by simp [stpN];omega
  rw [e,List.drop_succ_cons,List.take_succ_cons,zeK]
 ·exact absurd rfl h
theorem zcW: ∀(l:List UInt8),((47:UInt8)∈l→Lib.indexByte l 47=(segD l).length)∧((47:UInt8)∉l→Lib.indexByte l 47= -1∧segD l=l)
 |[]=>⟨fun h=>(by cases h),fun _=>⟨rfl,rfl⟩⟩
 |c::l=>by
  obtain ⟨h1,h2⟩:=zcW l
  by_cases hc:c=47
  ·subst hc
   refine ⟨fun _=> ?_,fun h=>absurd (by simp) h⟩
   simp [Lib.indexByte,segD]
  ·have e:(c==47)=false:=by simpa using hc
   have hs:segD (c::l)=c::segD l:=by rw [segD,if_neg hc]
   refine ⟨fun h=> ?_,fun h=> ?_⟩
   ·have h:(47:UInt8)∈l:=by
     rcases List.mem_cons.1 h with q|q
     ·exact absurd q.symm hc
     ·exact q
    simp only [Lib.indexByte,e,Bool.false_eq_true,if_false,hs,h1 h]
    simp
   ·have h:(47:UInt8)∉l:=fun q=>h (List.mem_cons_of_mem _ q)
    obtain ⟨h3,h4⟩:=h2 h
    refine ⟨?_,by rw [hs,h4]⟩
    simp only [Lib.indexByte,e,Bool.false_eq_true,if_false,h3]
    simp
def zbE (l:List UInt8) (k:Nat):Int:=Lib.lastIdx ⟨l.toArray⟩ 47 k+1
def zbD (l:List UInt8):Nat:=(zbE l l.length).toNat
theorem zcK (l:List UInt8) (k:Nat):0≤zbE l k∧zbE l k≤k:=by
 unfold zbE
 rcases Lib.lastIdx_spec ⟨l.toArray⟩ 47 k with ⟨e,_⟩|⟨i,hi,e,_⟩<;>rw [e]<;>omega
theorem zfK (l:List UInt8):zbD l≤l.length:=by
 have:=zcK l l.length
 unfold zbD
 omega
def zaM (base:List UInt8) (rootless:Bool) (path:List UInt8):List UInt8:=
 if base.isEmpty&&rootless then 47::path else base.take (zbD base)++path
end
end Go.Proofs.YtmjappnpedjlnaaGreatDoor
