/-
  What the law AuthorityAgrees leans on, and its walk (8 of 43).
-/
import Derived.Test.YtegmcmgndllmaaaGreatDoorAuthorityAgreesPkE
import Derived.Test.YtegmcmgndllmaaaGreatDoorAuthorityAgreesPkG
import Derived.Test.YtegmcmgndllmaaaGreatDoorAuthorityAgreesPkF
namespace Go.Proofs.YtegmcmgndllmaaaGreatDoor
set_option maxRecDepth 100000
set_option maxHeartbeats 16000000
section
open Go.RowKit
theorem ofW_lt {A n:Nat} (h:A<2^128):ofW A n<2^128:=Nat.lt_of_le_of_lt (ofW_le A n) h
theorem row3 {W:World} {b:Nat} {x y z:Value} {t:TypeId} (h:W.heap[b]? =some (.cells #[x,y,z] t)):
  (W.cell? ⟨b,0,none⟩=some x∧W.cell? ⟨b,1,none⟩=some y∧W.cell? ⟨b,2,none⟩=some z)∧W.frozen? ⟨b,0,none⟩=false∧W.frozen? ⟨b,1,none⟩=false∧W.frozen? ⟨b,2,none⟩=false:=
 ⟨⟨zaA h 0,zaA h 1,zaA h 2⟩,zaT h 0,zaT h 1,zaT h 2⟩
theorem zqI (p:UInt8→Bool): ∀(l:List UInt8) (x s:List (List UInt8)) (y:List UInt8),l.foldl (zaP p) (x++s,y)=(x++(l.foldl (zaP p) (s,y)).1,(l.foldl (zaP p) (s,y)).2)
 |[],_,_,_=>rfl
 |c::l,x,s,y=>by
  rw [List.foldl_cons,List.foldl_cons]
  unfold zaP
  by_cases h:p c=true
  ·simp only [h,if_true]
   rw [List.append_assoc];exact zqI p l x _ _
  ·simp only [h];exact zqI p l x s _
theorem zmP (p:UInt8→Bool): ∀(l:List UInt8) (y:List UInt8),(∀c∈l,p c=false)→l.foldl (zaP p) (([]:List (List UInt8)),y)=([],y++l)
 |[],y,_=>by simp
 |c::l,y,h=>by
  rw [List.foldl_cons]
  have d:=h c (List.mem_cons_self ..)
  have:zaP p ([],y) c=([],y++[c]):=by unfold zaP;simp [d]
  rw [this,zmP p l _ (fun x e=>h x (List.mem_cons_of_mem _ e))]
  simp
structure R9 where
 W:Nat
 n:Nat
 s:List UInt8
 deriving DecidableEq
end
end Go.Proofs.YtegmcmgndllmaaaGreatDoor
