/-
  What the law AuthorityAgrees leans on, and its walk (43 of 43).
-/
import Derived.Handed
import Derived.HandedShaped
namespace Go.Proofs.YtegmcmgndllmaaaGreatDoor
set_option maxRecDepth 100000
set_option maxHeartbeats 16000000
section
theorem handed_and_shaped {H:Type} {enc:TypeId×Value→H} {a:Assume} {C:Checked} {os:Os} {f:FuncId} {A:Func} {s:ChangeSpec} {o:List PathCond} {d B m E:Bool} {X:World→Array Value→Prop}
  (hX: ∀(w w':World) (args:Array Value),w.heap=w'.heap→X w args→X w' args)
  (own:ownKnob C.prog.godebug=none) (D:os.Started) (L:C.prog.inits.idxOf? f=none) (qa:C.prog.funcs[f]? =some A)
  (G: ∃(w:World) (tape:Tape) (i:Input),w.os=os∧(w.forCall tape i).Shaped C.prog∧i.vars=[]∧Input.okWide C.prog (w.forCall tape i) .any w.heap.size f i∧
   ((s.pre enc C.prog A o d (w.forCall tape i).memory i.args∧X (w.forCall tape i).memory i.args)∧sizedMet enc C.prog A (OpenSpec.ofChange s) d (w.forCall tape i).memory i.args)∧a.holds C.prog (lone (Frame.enter C.prog f i.args .normal) [] (w.forCall tape i)))
  (T: ∀(W:World) (base:Nat) (args:Array Value) (Y U:List (DataW H)) (g:List MemPlace),
   (∀(j:Nat) t v,A.params[j]? =some t→args[j]? =some v→Value.okWide C.prog W .any base t v)→
   DataW.Whole enc C.prog A.params.toList s.vars d W args.toList Y U g→
   o.all (PathCond.test C.prog ⟨A.params.toList,Y,s.plain.varTypes C.prog,U⟩)=true→
   (DataW.weightsEach C.prog (A.params.toList++s.plain.varTypes C.prog) (Y++U)).all (· ≤reachBytes)=true→X W args→W.ShapedOpen C.prog→
   a.holds C.prog (lone (Frame.enter C.prog f args .normal) [] W)→
   Calls C.prog f args W fun e W'=> ∃v,e= .returned v∧s.post enc C.prog A d B m E W args v W'):
  ReturnsInHanded a C os f .any (fun w args=>(s.pre enc C.prog A o d w args∧X w args)∧sizedMet enc C.prog A (OpenSpec.ofChange s) d w args) (s.post enc C.prog A d B m E):=by
 refine returnsInHanded_of_calls own D L G fun w tape i _ I _ qb V N=> ?_
 obtain ⟨_,_,_,Z,S,_,_,_,_,O⟩:=qb
 obtain rfl:Z=A:=Option.some.inj (S.symm.trans qa)
 obtain ⟨⟨⟨Y,U,g,q,J⟩,M⟩,K⟩:=V
 refine (T (w.forCall tape i) w.heap.size i.args Y U g O (DataW.Whole.of_heap (w':=w.forCall tape i) (by rfl) q) J (K.weights q) (hX _ _ _ (by rfl) M) I N).mono ?_
 rintro e W' ⟨v,rfl,Q⟩
 exact ChangeSpec.post_blind Q
end
end Go.Proofs.YtegmcmgndllmaaaGreatDoor
