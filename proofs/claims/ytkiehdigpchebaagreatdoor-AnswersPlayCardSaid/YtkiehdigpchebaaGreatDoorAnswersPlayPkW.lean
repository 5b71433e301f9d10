/-
  What the law AnswersPlay leans on, and its walk (22 of 22).
-/
import Derived.Handed
import Derived.HandedShaped
namespace Go.Proofs.YtkiehdigpchebaaGreatDoor
set_option maxRecDepth 100000
set_option maxHeartbeats 16000000
section
theorem handed_and_shaped {H:Type} {enc:TypeId×Value→H} {a:Assume} {C:Checked} {os:Os} {f:FuncId} {I:Func} {s:ChangeSpec} {E:List PathCond} {o K y J:Bool} {X:World→Array Value→Prop}
  (hX: ∀(w w':World) (d:Array Value),w.heap=w'.heap→X w d→X w' d)
  (own:ownKnob C.prog.godebug=none) (N:os.Started) (V:C.prog.inits.idxOf? f=none) (qf:C.prog.funcs[f]? =some I)
  (O: ∃(w:World) (tape:Tape) (i:Input),w.os=os∧(w.forCall tape i).Shaped C.prog∧i.vars=[]∧Input.okWide C.prog (w.forCall tape i) .any w.heap.size f i∧
   ((s.pre enc C.prog I E o (w.forCall tape i).memory i.args∧X (w.forCall tape i).memory i.args)∧sizedMet enc C.prog I (OpenSpec.ofChange s) o (w.forCall tape i).memory i.args)∧a.holds C.prog (lone (Frame.enter C.prog f i.args .normal) [] (w.forCall tape i)))
  (qc: ∀(W:World) (base:Nat) (d:Array Value) (ds gs:List (DataW H)) (p:List MemPlace),
   (∀(j:Nat) t v,I.params[j]? =some t→d[j]? =some v→Value.okWide C.prog W .any base t v)→
   DataW.Whole enc C.prog I.params.toList s.vars o W d.toList ds gs p→
   E.all (PathCond.test C.prog ⟨I.params.toList,ds,s.plain.varTypes C.prog,gs⟩)=true→
   (DataW.weightsEach C.prog (I.params.toList++s.plain.varTypes C.prog) (ds++gs)).all (· ≤reachBytes)=true→X W d→W.ShapedOpen C.prog→
   a.holds C.prog (lone (Frame.enter C.prog f d .normal) [] W)→
   Calls C.prog f d W fun e W'=> ∃v,e= .returned v∧s.post enc C.prog I o K y J W d v W'):
  ReturnsInHanded a C os f .any (fun w d=>(s.pre enc C.prog I E o w d∧X w d)∧sizedMet enc C.prog I (OpenSpec.ofChange s) o w d) (s.post enc C.prog I o K y J):=by
 refine returnsInHanded_of_calls own N V O fun w tape i _ R _ qg qe qb=> ?_
 obtain ⟨_,_,_,qh,qd,_,_,_,_,Z⟩:=qg
 obtain rfl:qh=I:=Option.some.inj (qd.symm.trans qf)
 obtain ⟨⟨⟨ds,gs,p,G,U⟩,qa⟩,S⟩:=qe
 refine (qc (w.forCall tape i) w.heap.size i.args ds gs p Z (DataW.Whole.of_heap (w':=w.forCall tape i) (by rfl) G) U (S.weights G) (hX _ _ _ (by rfl) qa) R qb).mono ?_
 rintro e W' ⟨v,rfl,Y⟩
 exact ChangeSpec.post_blind Y
end
end Go.Proofs.YtkiehdigpchebaaGreatDoor
