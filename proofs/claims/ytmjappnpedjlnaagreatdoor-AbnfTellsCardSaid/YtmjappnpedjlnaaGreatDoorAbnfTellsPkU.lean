/-
  What the law AbnfTells leans on, and its walk (20 of 27).
-/
import Derived.Test.YtmjappnpedjlnaaGreatDoorAbnfTellsPkP
import Derived.Test.YtmjappnpedjlnaaGreatDoorAbnfTellsPkT
import Derived.Test.YtmjappnpedjlnaaGreatDoorAbnfTellsPkH
namespace Go.Proofs.YtmjappnpedjlnaaGreatDoor
set_option maxRecDepth 100000
set_option maxHeartbeats 16000000
section
open Go.RowKit
theorem zrD {b:UInt8}: ∀{l:List UInt8},b∉l→Lib.index l [b]= -1
 |[],_=>rfl
 |c::l,h=>by
  have hc: ¬b=c:=fun e=>h (e▸List.mem_cons_self ..)
  have ih:=zrD (l:=l) (fun g=>h (List.mem_cons_of_mem _ g))
  unfold Lib.index
  rw [ih]
  simp [List.isPrefixOf,hc]
theorem zsH {b:UInt8}: ∀{a:List UInt8} (d:List UInt8),b∉a→Lib.index (a++b::d) [b]=a.length
 |[],d,_=>by
  show Lib.index (b::d) [b]=_
  unfold Lib.index;simp [List.isPrefixOf]
 |c::a,d,h=>by
  have hc: ¬b=c:=fun e=>h (e▸List.mem_cons_self ..)
  have ih:=zsH (a:=a) d (fun g=>h (List.mem_cons_of_mem _ g))
  show Lib.index (c::(a++b::d)) [b]=_
  unfold Lib.index
  rw [ih]
  have h1:(([b]:List UInt8).isPrefixOf (c::(a++b::d)))=false:=by simp [List.isPrefixOf,hc]
  have h2:((a.length:Int)== -1)=false:=by rw [beq_eq_false_iff_ne];omega
  rw [h1,h2]
  simp
theorem ztB {b:UInt8} {l:List UInt8} (h:b∉l):Lib.cut l [b]=(l,[],false):=by
 unfold Lib.cut;rw [zrD h];rfl
theorem ztM {b:UInt8} {a:List UInt8} (d:List UInt8) (h:b∉a):Lib.cut (a++b::d) [b]=(a,d,true):=by
 unfold Lib.cut;rw [zsH d h,if_pos (by omega)]
 simp
section
variable {σ:Type}
theorem zwJ {s:ByteArray} {i:Nat} (h:i<s.size) (hc:128≤zaO s i): ∃c,s.data.toList[i]? =some c∧128≤c.toNat:=⟨s[i],zdA s i h,by rw [←znH s i h];exact hc⟩
theorem zkW (s:ByteArray) (p:Nat) (h:p<s.size) (hc:128≤s[p].toNat): ∀j,j<(Utf8.decode s p).2→ ∃c,s.data.toList[p+j]? =some c∧128≤c.toNat:=by
 have h0:=znH s p h
 intro j hj
 rw [zlO] at hj
 have key: ∀n,j<n→(∀i,i<n→p+i<s.size∧128≤zaO s (p+i))→ ∃c,s.data.toList[p+j]? =some c∧128≤c.toNat:=fun n hn H=>zwJ (H j hn).1 (H j hn).2
 have k1: ∀i,i<1→p+i<s.size∧128≤zaO s (p+i):=fun i hi=>by
  obtain rfl:i=0:=by omega
  exact ⟨h,by rw [Nat.add_zero];omega⟩
 split at hj
 ·omega
 ·split at hj
  ·rename_i a
   split at hj
   ·refine key 2 hj (fun i hi=> ?_)
    match i,hi with
    |0,_=>exact k1 0 (by omega)
    |1,_=>exact ⟨a.2.1,by omega⟩
   ·exact key 1 hj k1
  ·split at hj
   ·rename_i a
    split at hj
    ·refine key 3 hj (fun i hi=> ?_)
     match i,hi with
     |0,_=>exact k1 0 (by omega)
     |1,_=>exact ⟨a.1.2.1,by omega⟩
     |2,_=>exact ⟨a.2.1,by omega⟩
    ·exact key 1 hj k1
   ·split at hj
    ·rename_i a
     split at hj
     ·refine key 4 hj (fun i hi=> ?_)
      match i,hi with
      |0,_=>exact k1 0 (by omega)
      |1,_=>exact ⟨a.1.1.2.1,by omega⟩
      |2,_=>exact ⟨a.1.2.1,by omega⟩
      |3,_=>exact ⟨a.2.1,by omega⟩
     ·exact key 1 hj k1
    ·exact key 1 hj k1
end
end
end Go.Proofs.YtmjappnpedjlnaaGreatDoor
