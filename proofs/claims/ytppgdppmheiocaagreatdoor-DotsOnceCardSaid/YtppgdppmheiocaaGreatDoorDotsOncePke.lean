/-
  What the law DotsOnce leans on, and its walk (30 of 33).
-/
import Derived.Test.YtppgdppmheiocaaGreatDoorDotsOncePkc
import Derived.Test.YtppgdppmheiocaaGreatDoorDotsOncePkJ
import Derived.Test.YtppgdppmheiocaaGreatDoorDotsOncePkd
namespace Go.Proofs.YtppgdppmheiocaaGreatDoor
set_option maxRecDepth 100000
set_option maxHeartbeats 16000000
section
open Go.RowKit
/-! lines -/
theorem zdY {c:UInt8}: ∀{l:List UInt8},c∉l→Lib.index l [c]= -1
 |[],_=>rfl
 |x::l,h=>by
  have hc: ¬x=c:=fun e=>h (e▸List.mem_cons_self ..)
  have ih:=zdY (l:=l) (fun g=>h (List.mem_cons_of_mem _ g))
  have hc': ¬c=x:=fun e=>hc e.symm
  unfold Lib.index
  rw [ih]
  simp [List.isPrefixOf,hc']
theorem zdT {c:UInt8}: ∀{a:List UInt8} (d:List UInt8),c∉a→Lib.index (a++c::d) [c]=a.length
 |[],d,_=>by
  show Lib.index (c::d) [c]=_
  unfold Lib.index;simp [List.isPrefixOf]
 |x::a,d,h=>by
  have hc: ¬x=c:=fun e=>h (e▸List.mem_cons_self ..)
  have ih:=zdT (a:=a) d (fun g=>h (List.mem_cons_of_mem _ g))
  show Lib.index (x::(a++c::d)) [c]=_
  unfold Lib.index
  rw [ih]
  have h1:(([c]:List UInt8).isPrefixOf (x::(a++c::d)))=false:=by
   have hc': ¬c=x:=fun e=>hc e.symm
   simp [List.isPrefixOf,hc']
  have h2:((a.length:Int)== -1)=false:=by rw [beq_eq_false_iff_ne];omega
  rw [h1,h2]
  simp
theorem ziW (c:UInt8) (l:List UInt8):c∉l∨ ∃a d,l=a++c::d∧c∉a:=by
 induction l with
 |nil=>exact .inl (by simp)
 |cons x l ih=>
  by_cases hc:x=c
  ·exact .inr ⟨[],l,by rw [hc];rfl,by simp⟩
  ·rcases ih with h|⟨a,d,e,h⟩
   ·exact .inl (fun g=>by rcases List.mem_cons.1 g with q|q;exact hc q.symm;exact h q)
   ·exact .inr ⟨x::a,d,by rw [e];rfl,fun g=>by rcases List.mem_cons.1 g with q|q;exact hc q.symm;exact h q⟩
theorem zcN (c x:UInt8):hasB [c] x=decide (x=c):=by
 unfold hasB
 rw [Bool.eq_iff_iff,decide_eq_true_iff];simp only [List.any_cons,List.any_nil,Bool.or_false,beq_iff_eq]
 exact ⟨fun e=>e.symm,fun e=>e.symm⟩
theorem ziD {c:UInt8} {l:List UInt8} (h:c∉l):splitB (hasB [c]) l=[l]:=by
 unfold splitB spl
 rw [zbS _ l [] (fun x hx=>by rw [zcN,decide_eq_false_iff_not];exact fun e=>h (e▸hx))]
 simp
theorem zjU {c:UInt8} {a:List UInt8} (d:List UInt8) (h:c∉a):splitB (hasB [c]) (a++c::d)=a::splitB (hasB [c]) d:=by
 unfold splitB spl
 rw [List.foldl_append,zbS _ a [] (fun x hx=>by rw [zcN,decide_eq_false_iff_not];exact fun e=>h (e▸hx)),List.foldl_cons]
 have:zaJ (hasB [c]) ([],[]++a) c=([a]++[],[]):=by unfold zaJ;simp [zcN]
 rw [this,zcH]
 simp
theorem ziL (c:UInt8): ∀(n:Nat) (l:List UInt8),l.length≤n→Lib.splitK [c] 0 (Lib.count l [c]) l=splitB (hasB [c]) l:=fun n=>by
 induction n with
 |zero=>
  intro l hl
  have:l=[]:=List.eq_nil_of_length_eq_zero (by omega)
  subst this
  rw [Lib.count_miss (zdY (by simp)),ziD (by simp)];rfl
 |succ n ih=>
  intro l hl
  rcases ziW c l with h|⟨a,d,rfl,h⟩
  ·rw [Lib.count_miss (zdY h),ziD h];rfl
  ·have hd:(a++c::d).drop (a.length+[c].length)=d:=by
    rw [show a++c::d=(a++[c])++d from by simp,List.drop_left' (by simp)]
   rw [Lib.count_hit (by simp) (zdT d h),hd,zjU d h,Nat.add_comm 1,Lib.splitK,zdT d h]
   have h2:((a.length:Int)== -1)=false:=by rw [beq_eq_false_iff_ne];omega
   rw [h2]
   simp only [Int.toNat_natCast,Nat.add_zero]
   rw [hd,ih d (by simp at hl;omega)]
   simp
theorem zhC: ∀{l:List ByteArray} {m:List (List UInt8)},l.map (·.data.toList)=m→l.map Value.string=zbB m
 |[],[],_=>rfl
 |[],_::_,h=>by cases h
 |_::_,[],h=>by cases h
 |x::l,y::m,h=>by
  rw [List.map_cons] at h
  obtain ⟨h1,h2⟩:=List.cons.inj h
  rw [List.map_cons,zhC h2]
  show _=strC y::zbB m
  congr 1
  show Value.string x= .string ⟨y.toArray⟩
  congr 1
  apply ByteArray.ext
  apply Array.ext'
  rw [h1]
end
end Go.Proofs.YtppgdppmheiocaaGreatDoor
