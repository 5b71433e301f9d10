/-
  What the law AgreeNever leans on, and its walk (38 of 42).
-/
import Derived.Test.YtegmcmgndllmaaaGreatDoorAgreeNeverPkf
import Derived.Test.YtegmcmgndllmaaaGreatDoorAgreeNeverPkI
namespace Go.Proofs.YtegmcmgndllmaaaGreatDoor
set_option maxRecDepth 100000
set_option maxHeartbeats 16000000
section
open Go.RowKit
section
variable {X:Type} {t:TypeId} {s:Nat} {cl:X→List Value}
def OwnX (t:TypeId) (s:Nat) (cl:X→List Value) (w:World) (base:Nat) (v:Value) (l:List X):Prop:=w.ownsRow base t s v l.length (l.flatMap cl)
theorem OwnX.same {w w':World} {base:Nat} {v:Value} {l:List X} (h:OwnX t s cl w base v l) (i: ∀b,v.ownBlock=some b→w'.heap[b]? =w.heap[b]?):OwnX t s cl w' base v l:=by
 refine ⟨h.1,?_⟩
 rcases h.2 with q|⟨g,f,d,e,j,m,r⟩
 ·exact .inl q
 ·exact .inr ⟨g,f,d,e,j,(i g (by rw [e];rfl)).trans m,r⟩
theorem OwnX.keep {w w':World} {base:Nat} {v:Value} {l:List X} (h:OwnX t s cl w base v l) (f:Below w.heap.size w w'):OwnX t s cl w' base v l:=
 h.same fun b d=>f.block b (World.ownsRow.lt h b d).2
theorem OwnX.snoc {w:World} {base:Nat} {v:Value} {l:List X} {x:X} (h:w.ownsRow base t s v (l.length+1) (l.flatMap cl++cl x)):OwnX t s cl w base v (l++[x]):=by
 unfold OwnX
 rw [List.flatMap_append,List.length_append]
 simpa using h
theorem OwnX.nil (w:World) (base:Nat):OwnX t s cl w base (.slice none 0 0) []:=World.ownsRow_nil _ _ _ _
theorem OwnX.form {w:World} {base:Nat} {v:Value} {l:List X} (h:OwnX t s cl w base v l): ∃a c,v= .slice a l.length c:=by
 rcases h.2 with ⟨e,f⟩|⟨g,i,d,e,_⟩
 ·exact ⟨_,_,by rw [e,f]⟩
 ·exact ⟨_,_,e⟩
def RowX (s:Nat) (cl:X→List Value) (w:World) (f:Option Addr) (l:List X):Prop:= ∀(j:Nat) (x:X),l[j]? =some x→ ∃d,f=some d∧ ∀i,i<s→w.cell? (d.add (j*s+i))=(cl x)[i]?
theorem RowX.keep (B: ∀x,(cl x).length=s) {w w':World} {f:Option Addr} {l:List X} (h:RowX s cl w f l) (o:Below w.heap.size w w'):RowX s cl w' f l:=fun j x m=>by
 obtain ⟨C,A,D⟩:=h j x m
 refine ⟨C,A,fun i hi=> ?_⟩
 have q:(cl x)[i]? =some ((cl x)[i]'(by rw [B];exact hi)):=List.getElem?_eq_getElem _
 have d:=D i hi
 rw [q] at d ⊢
 exact (o.cell (World.block_lt_of_cell? w _ d)).trans d
theorem OwnX.other {w:World} {base:Nat} {v:Value} {l:List X} (h:OwnX t s cl w base v l) {b:Nat} {c:Array Value} {f:TypeId} (j:w.heap[b]? =some (.cells c f)) (i:f≠t):v.ownBlock≠some b:=fun e=>by
 rcases h.2 with ⟨q,_⟩|⟨g,o,m,q,_,d,_⟩
 ·rw [q] at e;cases e
 ·rw [q] at e
  simp only [Value.ownBlock,Option.some.injEq] at e
  rw [e,j] at d
  injection d with d
  injection d with _ d
  exact i d
end
end
end Go.Proofs.YtegmcmgndllmaaaGreatDoor
