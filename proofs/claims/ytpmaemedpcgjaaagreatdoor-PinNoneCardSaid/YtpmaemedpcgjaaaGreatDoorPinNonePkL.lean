/-
  What the law PinNone leans on, and its walk (12 of 12).
-/
import Derived.Handed
import Derived.HandedShaped
namespace Go.Proofs.YtpmaemedpcgjaaaGreatDoor
set_option maxRecDepth 100000
set_option maxHeartbeats 16000000
section
theorem handed_and_shaped {H:Type} {enc:TypeId×Value→H} {a:Assume} {C:Checked} {os:Os} {f:FuncId} {m:Func} {s:ChangeSpec} {k:List PathCond} {c n h p:Bool} {X:World→Array Value→Prop}
  (Q: ∀(w w':World) (b:Array Value),w.heap=w'.heap→X w b→X w' b)
  (O:ownKnob C.prog.godebug=none) (q:os.Started) (x:C.prog.inits.idxOf? f=none) (N:C.prog.funcs[f]? =some m)
  (o: ∃(w:World) (d:Tape) (i:Input),w.os=os∧(w.forCall d i).Shaped C.prog∧i.vars=[]∧Input.okWide C.prog (w.forCall d i) .any w.heap.size f i∧
   ((s.pre enc C.prog m k c (w.forCall d i).memory i.args∧X (w.forCall d i).memory i.args)∧sizedMet enc C.prog m (OpenSpec.ofChange s) c (w.forCall d i).memory i.args)∧a.holds C.prog (lone (Frame.enter C.prog f i.args .normal) [] (w.forCall d i)))
  (F: ∀(W:World) (base:Nat) (b:Array Value) (I J:List (DataW H)) (g:List MemPlace),
   (∀(j:Nat) t v,m.params[j]? =some t→b[j]? =some v→Value.okWide C.prog W .any base t v)→
   DataW.Whole enc C.prog m.params.toList s.vars c W b.toList I J g→
   k.all (PathCond.test C.prog ⟨m.params.toList,I,s.plain.varTypes C.prog,J⟩)=true→
   (DataW.weightsEach C.prog (m.params.toList++s.plain.varTypes C.prog) (I++J)).all (· ≤reachBytes)=true→X W b→W.ShapedOpen C.prog→
   a.holds C.prog (lone (Frame.enter C.prog f b .normal) [] W)→
   Calls C.prog f b W fun e P=> ∃v,e= .returned v∧s.post enc C.prog m c n h p W b v P):
  ReturnsInHanded a C os f .any (fun w b=>(s.pre enc C.prog m k c w b∧X w b)∧sizedMet enc C.prog m (OpenSpec.ofChange s) c w b) (s.post enc C.prog m c n h p):=by
 refine returnsInHanded_of_calls O q x o fun w d i _ z _ L G D=> ?_
 obtain ⟨_,_,_,M,K,_,_,_,_,A⟩:=L
 obtain rfl:M=m:=Option.some.inj (K.symm.trans N)
 obtain ⟨⟨⟨I,J,g,l,r⟩,B⟩,y⟩:=G
 refine (F (w.forCall d i) w.heap.size i.args I J g A (DataW.Whole.of_heap (w':=w.forCall d i) (by rfl) l) r (y.weights l) (Q _ _ _ (by rfl) B) z D).mono ?_
 rintro e P ⟨v,rfl,E⟩
 exact ChangeSpec.post_blind E
end
end Go.Proofs.YtpmaemedpcgjaaaGreatDoor
