/-
  What the law CachePlays leans on, and its walk (21 of 21).
-/
import Derived.Handed
import Derived.HandedShaped
namespace Go.Proofs.YteajemblhlbfpaaGreatDoor
set_option maxRecDepth 100000
set_option maxHeartbeats 16000000
section
theorem handed_and_shaped {H:Type} {enc:TypeId×Value→H} {a:Assume} {C:Checked} {os:Os} {f:FuncId} {D:Func} {s:ChangeSpec} {A:List PathCond} {o E y I:Bool} {X:World→Array Value→Prop}
  (hX: ∀(w w':World) (g:Array Value),w.heap=w'.heap→X w g→X w' g)
  (qb:ownKnob C.prog.godebug=none) (G:os.Started) (O:C.prog.inits.idxOf? f=none) (qc:C.prog.funcs[f]? =some D)
  (J: ∃(w:World) (tape:Tape) (i:Input),w.os=os∧(w.forCall tape i).Shaped C.prog∧i.vars=[]∧Input.okWide C.prog (w.forCall tape i) .any w.heap.size f i∧
   ((s.pre enc C.prog D A o (w.forCall tape i).memory i.args∧X (w.forCall tape i).memory i.args)∧sizedMet enc C.prog D (OpenSpec.ofChange s) o (w.forCall tape i).memory i.args)∧a.holds C.prog (lone (Frame.enter C.prog f i.args .normal) [] (w.forCall tape i)))
  (V: ∀(W:World) (base:Nat) (g:Array Value) (ds gs:List (DataW H)) (p:List MemPlace),
   (∀(j:Nat) t v,D.params[j]? =some t→g[j]? =some v→Value.okWide C.prog W .any base t v)→
   DataW.Whole enc C.prog D.params.toList s.vars o W g.toList ds gs p→
   A.all (PathCond.test C.prog ⟨D.params.toList,ds,s.plain.varTypes C.prog,gs⟩)=true→
   (DataW.weightsEach C.prog (D.params.toList++s.plain.varTypes C.prog) (ds++gs)).all (· ≤reachBytes)=true→X W g→W.ShapedOpen C.prog→
   a.holds C.prog (lone (Frame.enter C.prog f g .normal) [] W)→
   Calls C.prog f g W fun e W'=> ∃v,e= .returned v∧s.post enc C.prog D o E y I W g v W'):
  ReturnsInHanded a C os f .any (fun w g=>(s.pre enc C.prog D A o w g∧X w g)∧sizedMet enc C.prog D (OpenSpec.ofChange s) o w g) (s.post enc C.prog D o E y I):=by
 refine returnsInHanded_of_calls qb G O J fun w tape i _ K _ qd Z R=> ?_
 obtain ⟨_,_,_,qa,Y,_,_,_,_,T⟩:=qd
 obtain rfl:qa=D:=Option.some.inj (Y.symm.trans qc)
 obtain ⟨⟨⟨ds,gs,p,B,N⟩,S⟩,P⟩:=Z
 refine (V (w.forCall tape i) w.heap.size i.args ds gs p T (DataW.Whole.of_heap (w':=w.forCall tape i) (by rfl) B) N (P.weights B) (hX _ _ _ (by rfl) S) K R).mono ?_
 rintro e W' ⟨v,rfl,U⟩
 exact ChangeSpec.post_blind U
end
end Go.Proofs.YteajemblhlbfpaaGreatDoor
