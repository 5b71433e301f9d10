/-
  What the law DotsClimb leans on, and its walk (20 of 33).
-/
import Derived.IntWalk
import Derived.Test.YtppgdppmheiocaaGreatDoorDotsClimbPkA
namespace Go.Proofs.YtppgdppmheiocaaGreatDoor
set_option maxRecDepth 100000
set_option maxHeartbeats 16000000
section
open Go.RowKit
theorem zfH {P:Program} (w:World) (t:TypeId) (s:ByteArray) (i:Int) (a:Nat) (hi:i=a) (ha:a≤s.size) (h:P.underlying t=some .string):
  (Instr.slice t (.string s) (some (.int .i64 i)) none none).run P w= .ok (.string (s.extract a s.size)) w:=by
 subst hi
 simp [go_sem,Instr.slice,run_underlying h,Instr.sliceBounds,run_sliceBound,ha]
/-! ### how many parts,and how long -/
def zaN (ps:List (List UInt8)):Nat:=(ps.map List.length).sum
theorem zbV (ps:List (List UInt8)) (l:List UInt8):zaN (ps++[l])=zaN ps+l.length:=by simp [zaN]
theorem zjW (p:UInt8→Bool) (l:List UInt8): ∀(st:List (List UInt8)×List UInt8),(∀q∈st.1,∀c∈q,p c=false)→(∀c∈st.2,p c=false)→
  (l.foldl (zaE p) st).1.length=st.1.length+l.countP p∧zaN (l.foldl (zaE p) st).1+(l.foldl (zaE p) st).2.length+l.countP p=zaN st.1+st.2.length+l.length∧
   (∀q∈(l.foldl (zaE p) st).1,∀c∈q,p c=false)∧ ∀c∈(l.foldl (zaE p) st).2,p c=false:=by
 induction l with
 |nil=>intro st h1 h2;exact ⟨by simp,by simp,h1,h2⟩
 |cons c l ih=>
  intro st h1 h2
  rw [List.foldl_cons]
  by_cases hp:p c=true
  ·have e:zaE p st c=(st.1++[st.2],[]):=if_pos hp
   rw [e]
   obtain ⟨a1,a2,a3,a4⟩:=ih (st.1++[st.2],[]) (by
    intro q hq
    rcases List.mem_append.1 hq with hq|hq
    ·exact h1 q hq
    ·simp at hq;subst hq;exact h2) (by intro c hc;simp at hc)
   refine ⟨?_,?_,a3,a4⟩
   ·rw [a1,List.countP_cons_of_pos hp];simp;omega
   ·rw [List.countP_cons_of_pos hp];simp only [zbV,List.length_nil] at a2;simp;omega
  ·have e:zaE p st c=(st.1,st.2++[c]):=if_neg hp
   rw [e]
   obtain ⟨a1,a2,a3,a4⟩:=ih (st.1,st.2++[c]) h1 (by
    intro x hx
    rcases List.mem_append.1 hx with hx|hx
    ·exact h2 x hx
    ·simp at hx;subst hx;simpa using hp)
   refine ⟨?_,?_,a3,a4⟩
   ·rw [a1,List.countP_cons_of_neg hp]
   ·rw [List.countP_cons_of_neg hp];simp at a2;simp;omega
theorem zdT (p:UInt8→Bool) (l:List UInt8):(splitB p l).length=l.countP p+1∧zaN (splitB p l)+l.countP p=l.length∧ ∀q∈splitB p l,∀c∈q,p c=false:=by
 obtain ⟨a1,a2,a3,a4⟩:=zjW p l ([],[]) (by intro q hq;simp at hq) (by intro c hc;simp at hc)
 unfold splitB spl
 refine ⟨by rw [List.length_append,a1];simp,by rw [zbV];simp [zaN] at a2 ⊢;omega,?_⟩
 intro q hq
 rcases List.mem_append.1 hq with hq|hq
 ·exact a3 q hq
 ·simp at hq;subst hq;exact a4
end
end Go.Proofs.YtppgdppmheiocaaGreatDoor
