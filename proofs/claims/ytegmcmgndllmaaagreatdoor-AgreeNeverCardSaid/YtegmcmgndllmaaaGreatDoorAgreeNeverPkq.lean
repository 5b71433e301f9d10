/-
  What the law AgreeNever leans on, and its walk (42 of 42).
-/
import Derived.Handed
import Derived.HandedShaped
namespace Go.Proofs.YtegmcmgndllmaaaGreatDoor
set_option maxRecDepth 100000
set_option maxHeartbeats 16000000
section
theorem handed_and_shaped {H:Type} {enc:TypeId×Value→H} {a:Assume} {C:Checked} {os:Os} {f:FuncId} {A:Func} {s:ChangeSpec} {m:List PathCond} {apart G d E:Bool} {X:World→Array Value→Prop}
  (hX: ∀(w w':World) (args:Array Value),w.heap=w'.heap→X w args→X w' args)
  (own:ownKnob C.prog.godebug=none) (D:os.Started) (K:C.prog.inits.idxOf? f=none) (qb:C.prog.funcs[f]? =some A)
  (B: ∃(w:World) (tape:Tape) (i:Input),w.os=os∧(w.forCall tape i).Shaped C.prog∧i.vars=[]∧Input.okWide C.prog (w.forCall tape i) .any w.heap.size f i∧
   ((s.pre enc C.prog A m apart (w.forCall tape i).memory i.args∧X (w.forCall tape i).memory i.args)∧sizedMet enc C.prog A (OpenSpec.ofChange s) apart (w.forCall tape i).memory i.args)∧a.holds C.prog (lone (Frame.enter C.prog f i.args .normal) [] (w.forCall tape i)))
  (Z: ∀(W:World) (base:Nat) (args:Array Value) (ds V:List (DataW H)) (before:List MemPlace),
   (∀(j:Nat) t v,A.params[j]? =some t→args[j]? =some v→Value.okWide C.prog W .any base t v)→
   DataW.Whole enc C.prog A.params.toList s.vars apart W args.toList ds V before→
   m.all (PathCond.test C.prog ⟨A.params.toList,ds,s.plain.varTypes C.prog,V⟩)=true→
   (DataW.weightsEach C.prog (A.params.toList++s.plain.varTypes C.prog) (ds++V)).all (· ≤reachBytes)=true→X W args→W.ShapedOpen C.prog→
   a.holds C.prog (lone (Frame.enter C.prog f args .normal) [] W)→
   Calls C.prog f args W fun e W'=> ∃v,e= .returned v∧s.post enc C.prog A apart G d E W args v W'):
  ReturnsInHanded a C os f .any (fun w args=>(s.pre enc C.prog A m apart w args∧X w args)∧sizedMet enc C.prog A (OpenSpec.ofChange s) apart w args) (s.post enc C.prog A apart G d E):=by
 refine returnsInHanded_of_calls own D K B fun w tape i _ I _ qa Y O=> ?_
 obtain ⟨_,_,_,qc,U,_,_,_,_,N⟩:=qa
 obtain rfl:qc=A:=Option.some.inj (U.symm.trans qb)
 obtain ⟨⟨⟨ds,V,before,o,M⟩,Q⟩,J⟩:=Y
 refine (Z (w.forCall tape i) w.heap.size i.args ds V before N (DataW.Whole.of_heap (w':=w.forCall tape i) (by rfl) o) M (J.weights o) (hX _ _ _ (by rfl) Q) I O).mono ?_
 rintro e W' ⟨v,rfl,S⟩
 exact ChangeSpec.post_blind S
end
end Go.Proofs.YtegmcmgndllmaaaGreatDoor
