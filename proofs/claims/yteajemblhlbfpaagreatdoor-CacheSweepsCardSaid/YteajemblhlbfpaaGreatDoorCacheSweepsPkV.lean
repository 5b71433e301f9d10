/-
  What the law CacheSweeps leans on, and its walk (21 of 21).
-/
import Derived.Handed
import Derived.HandedShaped
namespace Go.Proofs.YteajemblhlbfpaaGreatDoor
set_option maxRecDepth 100000
set_option maxHeartbeats 16000000
section
theorem handed_and_shaped {H:Type} {enc:TypeId×Value→H} {a:Assume} {C:Checked} {os:Os} {f:FuncId} {A:Func} {s:ChangeSpec} {y:List PathCond} {o D q B:Bool} {X:World→Array Value→Prop}
  (hX: ∀(w w':World) (g:Array Value),w.heap=w'.heap→X w g→X w' g)
  (qc:ownKnob C.prog.godebug=none) (G:os.Started) (N:C.prog.inits.idxOf? f=none) (Z:C.prog.funcs[f]? =some A)
  (E: ∃(w:World) (tape:Tape) (i:Input),w.os=os∧(w.forCall tape i).Shaped C.prog∧i.vars=[]∧Input.okWide C.prog (w.forCall tape i) .any w.heap.size f i∧
   ((s.pre enc C.prog A y o (w.forCall tape i).memory i.args∧X (w.forCall tape i).memory i.args)∧sizedMet enc C.prog A (OpenSpec.ofChange s) o (w.forCall tape i).memory i.args)∧a.holds C.prog (lone (Frame.enter C.prog f i.args .normal) [] (w.forCall tape i)))
  (T: ∀(W:World) (base:Nat) (g:Array Value) (V U:List (DataW H)) (p:List MemPlace),
   (∀(j:Nat) t v,A.params[j]? =some t→g[j]? =some v→Value.okWide C.prog W .any base t v)→
   DataW.Whole enc C.prog A.params.toList s.vars o W g.toList V U p→
   y.all (PathCond.test C.prog ⟨A.params.toList,V,s.plain.varTypes C.prog,U⟩)=true→
   (DataW.weightsEach C.prog (A.params.toList++s.plain.varTypes C.prog) (V++U)).all (· ≤reachBytes)=true→X W g→W.ShapedOpen C.prog→
   a.holds C.prog (lone (Frame.enter C.prog f g .normal) [] W)→
   Calls C.prog f g W fun e W'=> ∃v,e= .returned v∧s.post enc C.prog A o D q B W g v W'):
  ReturnsInHanded a C os f .any (fun w g=>(s.pre enc C.prog A y o w g∧X w g)∧sizedMet enc C.prog A (OpenSpec.ofChange s) o w g) (s.post enc C.prog A o D q B):=by
 refine returnsInHanded_of_calls qc G N E fun w tape i _ I _ qb Y O=> ?_
 obtain ⟨_,_,_,qa,S,_,_,_,_,Q⟩:=qb
 obtain rfl:qa=A:=Option.some.inj (S.symm.trans Z)
 obtain ⟨⟨⟨V,U,p,z,J⟩,P⟩,K⟩:=Y
 refine (T (w.forCall tape i) w.heap.size i.args V U p Q (DataW.Whole.of_heap (w':=w.forCall tape i) (by rfl) z) J (K.weights z) (hX _ _ _ (by rfl) P) I O).mono ?_
 rintro e W' ⟨v,rfl,R⟩
 exact ChangeSpec.post_blind R
end
end Go.Proofs.YteajemblhlbfpaaGreatDoor
