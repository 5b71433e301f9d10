/-
  What the law DotsOnce leans on, and its walk (8 of 33).
-/
import Derived.Test.YtppgdppmheiocaaGreatDoorDotsOncePkE
import Derived.Test.YtppgdppmheiocaaGreatDoorDotsOncePkG
import Derived.Test.YtppgdppmheiocaaGreatDoorDotsOncePkF
namespace Go.Proofs.YtppgdppmheiocaaGreatDoor
set_option maxRecDepth 100000
set_option maxHeartbeats 16000000
section
open Go.RowKit
theorem ofW_lt {A n:Nat} (h:A<2^128):ofW A n<2^128:=Nat.lt_of_le_of_lt (ofW_le A n) h
theorem row3 {W:World} {b:Nat} {x y z:Value} {t:TypeId} (h:W.heap[b]? =some (.cells #[x,y,z] t)):
  (W.cell? ⟨b,0,none⟩=some x∧W.cell? ⟨b,1,none⟩=some y∧W.cell? ⟨b,2,none⟩=some z)∧W.frozen? ⟨b,0,none⟩=false∧W.frozen? ⟨b,1,none⟩=false∧W.frozen? ⟨b,2,none⟩=false:=
 ⟨⟨zcP h 0,zcP h 1,zcP h 2⟩,zbM h 0,zbM h 1,zbM h 2⟩
theorem zcH (p:UInt8→Bool): ∀(l:List UInt8) (x s:List (List UInt8)) (y:List UInt8),l.foldl (zaJ p) (x++s,y)=(x++(l.foldl (zaJ p) (s,y)).1,(l.foldl (zaJ p) (s,y)).2)
 |[],_,_,_=>rfl
 |c::l,x,s,y=>by
  rw [List.foldl_cons,List.foldl_cons]
  unfold zaJ
  by_cases h:p c=true
  ·simp only [h,if_true]
   rw [List.append_assoc];exact zcH p l x _ _
  ·simp only [h];exact zcH p l x s _
theorem zbS (p:UInt8→Bool): ∀(l:List UInt8) (y:List UInt8),(∀c∈l,p c=false)→l.foldl (zaJ p) (([]:List (List UInt8)),y)=([],y++l)
 |[],y,_=>by simp
 |c::l,y,h=>by
  rw [List.foldl_cons]
  have hc:=h c (List.mem_cons_self ..)
  have:zaJ p ([],y) c=([],y++[c]):=by unfold zaJ;simp [hc]
  rw [this,zbS p l _ (fun x hx=>h x (List.mem_cons_of_mem _ hx))]
  simp
end
end Go.Proofs.YtppgdppmheiocaaGreatDoor
