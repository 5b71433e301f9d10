/-
  What the law CacheLast leans on, and its walk (21 of 21).
-/
import Derived.Handed
import Derived.HandedShaped
namespace Go.Proofs.YtkiehdigpchebaaGreatDoor
set_option maxRecDepth 100000
set_option maxHeartbeats 16000000
section
theorem handed_and_shaped {H:Type} {enc:TypeId×Value→H} {a:Assume} {C:Checked} {os:Os} {f:FuncId} {D:Func} {s:ChangeSpec} {y:List PathCond} {o E q J:Bool} {X:World→Array Value→Prop}
  (hX: ∀(w w':World) (g:Array Value),w.heap=w'.heap→X w g→X w' g)
  (qc:ownKnob C.prog.godebug=none) (I:os.Started) (N:C.prog.inits.idxOf? f=none) (qd:C.prog.funcs[f]? =some D)
  (G: ∃(w:World) (tape:Tape) (i:Input),w.os=os∧(w.forCall tape i).Shaped C.prog∧i.vars=[]∧Input.okWide C.prog (w.forCall tape i) .any w.heap.size f i∧
   ((s.pre enc C.prog D y o (w.forCall tape i).memory i.args∧X (w.forCall tape i).memory i.args)∧sizedMet enc C.prog D (OpenSpec.ofChange s) o (w.forCall tape i).memory i.args)∧a.holds C.prog (lone (Frame.enter C.prog f i.args .normal) [] (w.forCall tape i)))
  (V: ∀(W:World) (base:Nat) (g:Array Value) (Z gs:List (DataW H)) (p:List MemPlace),
   (∀(j:Nat) t v,D.params[j]? =some t→g[j]? =some v→Value.okWide C.prog W .any base t v)→
   DataW.Whole enc C.prog D.params.toList s.vars o W g.toList Z gs p→
   y.all (PathCond.test C.prog ⟨D.params.toList,Z,s.plain.varTypes C.prog,gs⟩)=true→
   (DataW.weightsEach C.prog (D.params.toList++s.plain.varTypes C.prog) (Z++gs)).all (· ≤reachBytes)=true→X W g→W.ShapedOpen C.prog→
   a.holds C.prog (lone (Frame.enter C.prog f g .normal) [] W)→
   Calls C.prog f g W fun e W'=> ∃v,e= .returned v∧s.post enc C.prog D o E q J W g v W'):
  ReturnsInHanded a C os f .any (fun w g=>(s.pre enc C.prog D y o w g∧X w g)∧sizedMet enc C.prog D (OpenSpec.ofChange s) o w g) (s.post enc C.prog D o E q J):=by
 refine returnsInHanded_of_calls qc I N G fun w tape i _ P _ qe qa S=> ?_
 obtain ⟨_,_,_,qb,Y,_,_,_,_,Q⟩:=qe
 obtain rfl:qb=D:=Option.some.inj (Y.symm.trans qd)
 obtain ⟨⟨⟨Z,gs,p,z,K⟩,U⟩,O⟩:=qa
 refine (V (w.forCall tape i) w.heap.size i.args Z gs p Q (DataW.Whole.of_heap (w':=w.forCall tape i) (by rfl) z) K (O.weights z) (hX _ _ _ (by rfl) U) P S).mono ?_
 rintro e W' ⟨v,rfl,R⟩
 exact ChangeSpec.post_blind R
end
end Go.Proofs.YtkiehdigpchebaaGreatDoor
