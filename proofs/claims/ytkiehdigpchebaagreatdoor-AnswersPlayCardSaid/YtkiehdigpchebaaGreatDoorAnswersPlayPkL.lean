/-
  What the law AnswersPlay leans on, and its walk (12 of 22).
-/
import Derived.Lib.SmallJoins
import Derived.OpenShut
import Derived.Test.YtkiehdigpchebaaGreatDoorAnswersPlayPkD
import Derived.Test.YtkiehdigpchebaaGreatDoorAnswersPlayPkK
namespace Go.Proofs.YtkiehdigpchebaaGreatDoor
set_option maxRecDepth 100000
set_option maxHeartbeats 16000000
section
open Go.RowKit
section
variable {X:Type} {t:TypeId} {s:Nat} {cl:X→List Value}
theorem zdB (h: ∀x,(cl x).length=s): ∀l:List X,(l.flatMap cl).length=l.length*s
 |[]=>by simp
 |x::l=>by rw [List.flatMap_cons,List.length_append,h,zdB h l,List.length_cons,Nat.add_mul];omega
theorem zeE (h: ∀x,(cl x).length=s): ∀(l:List X) (j:Nat) (x:X),l[j]? =some x→ ∀i,i<s→(l.flatMap cl)[j*s+i]? =(cl x)[i]?
 |[],j,x,d,i,hi=>by simp at d
 |y::l,0,x,d,i,hi=>by
  simp only [List.getElem?_cons_zero,Option.some.injEq] at d
  subst d
  rw [List.flatMap_cons,List.getElem?_append_left (by rw [h];omega)]
  simp
 |y::l,j+1,x,d,i,hi=>by
  have e:(j+1)*s+i=s+(j*s+i):=by rw [Nat.add_mul];omega
  rw [List.flatMap_cons,List.getElem?_append_right (by rw [h,e];omega),h,e,Nat.add_sub_cancel_left]
  exact zeE h l j x (by simpa using d) i hi
def OwnX (t:TypeId) (s:Nat) (cl:X→List Value) (w:World) (base:Nat) (v:Value) (l:List X):Prop:=w.ownsRow base t s v l.length (l.flatMap cl)
theorem OwnX.same {w w':World} {base:Nat} {v:Value} {l:List X} (h:OwnX t s cl w base v l) (f: ∀b,v.ownBlock=some b→w'.heap[b]? =w.heap[b]?):OwnX t s cl w' base v l:=by
 refine ⟨h.1,?_⟩
 rcases h.2 with q|⟨g,d,cur,e,o,p,r⟩
 ·exact .inl q
 ·exact .inr ⟨g,d,cur,e,o,(f g (by rw [e];rfl)).trans p,r⟩
theorem OwnX.keep {w w':World} {base:Nat} {v:Value} {l:List X} (h:OwnX t s cl w base v l) (f:Below w.heap.size w w'):OwnX t s cl w' base v l:=
 h.same fun b d=>f.block b (World.ownsRow.lt h b d).2
theorem OwnX.lower {w:World} {base d:Nat} {v:Value} {l:List X} (h:OwnX t s cl w base v l) (o:d≤base):OwnX t s cl w d v l:=by
 refine ⟨h.1,?_⟩
 rcases h.2 with q|⟨g,f,cur,e,p,r⟩
 ·exact .inl q
 ·exact .inr ⟨g,f,cur,e,Nat.le_trans o p,r⟩
theorem OwnX.snoc {w:World} {base:Nat} {v:Value} {l:List X} {x:X} (h:w.ownsRow base t s v (l.length+1) (l.flatMap cl++cl x)):OwnX t s cl w base v (l++[x]):=by
 unfold OwnX
 rw [List.flatMap_append,List.length_append]
 simpa using h
theorem OwnX.nil (w:World) (base:Nat):OwnX t s cl w base (.slice none 0 0) []:=World.ownsRow_nil _ _ _ _
theorem OwnX.form {w:World} {base:Nat} {v:Value} {l:List X} (h:OwnX t s cl w base v l): ∃a c,v= .slice a l.length c:=by
 rcases h.2 with ⟨e,d⟩|⟨g,f,cur,e,_⟩
 ·exact ⟨_,_,by rw [e,d]⟩
 ·exact ⟨_,_,e⟩
def RowX (s:Nat) (cl:X→List Value) (w:World) (ao:Option Addr) (l:List X):Prop:= ∀(j:Nat) (x:X),l[j]? =some x→ ∃ad,ao=some ad∧ ∀i,i<s→w.cell? (ad.add (j*s+i))=(cl x)[i]?
theorem OwnX.row (d: ∀x,(cl x).length=s) {w:World} {base:Nat} {ao:Option Addr} {n c:Nat} {l:List X} (h:OwnX t s cl w base (.slice ao n c) l):RowX s cl w ao l:=fun j x f=>by
 have o:=h
 rcases h.2 with ⟨e,p⟩|⟨g,y,cur,e,_⟩
 ·have:l=[]:=List.eq_nil_of_length_eq_zero p
  subst this
  simp at f
 ·simp only [Value.slice.injEq] at e
  obtain ⟨rfl,_,_⟩:=e
  refine ⟨_,rfl,fun i hi=> ?_⟩
  have q:(cl x)[i]? =some ((cl x)[i]'(by rw [d];exact hi)):=List.getElem?_eq_getElem _
  rw [q]
  exact o.cells (g:=g) rfl (j*s+i) _ ((zeE d l j x f i hi).trans q)
theorem RowX.keep (o: ∀x,(cl x).length=s) {w w':World} {ao:Option Addr} {l:List X} (h:RowX s cl w ao l) (C:Below w.heap.size w w'):RowX s cl w' ao l:=fun j x f=>by
 obtain ⟨ad,p,y⟩:=h j x f
 refine ⟨ad,p,fun i hi=> ?_⟩
 have q:(cl x)[i]? =some ((cl x)[i]'(by rw [o];exact hi)):=List.getElem?_eq_getElem _
 have d:=y i hi
 rw [q] at d ⊢
 exact (C.cell (World.block_lt_of_cell? w _ d)).trans d
theorem OwnX.other {w:World} {base:Nat} {v:Value} {l:List X} (h:OwnX t s cl w base v l) {b:Nat} {c:Array Value} {f:TypeId} (y:w.heap[b]? =some (.cells c f)) (o:f≠t):v.ownBlock≠some b:=fun e=>by
 rcases h.2 with ⟨q,_⟩|⟨g,p,cur,q,_,d,_⟩
 ·rw [q] at e;cases e
 ·rw [q] at e
  simp only [Value.ownBlock,Option.some.injEq] at e
  rw [e,y] at d
  injection d with d
  injection d with _ d
  exact o d
structure LX (t:TypeId) (s:Nat) (cl:X→List Value) (w x:World) (base:Nat) (L:List (Nat×Array Value×TypeId)) (v:Value) (m:List X):Prop where
 below:Below w.heap.size w x
 blks:Blks L x
 lt: ∀e∈L,e.1<base∨e.2.2≠t
 row:OwnX t s cl x base v m
 size:base≤x.heap.size
 old:w.heap.size≤base
theorem LX.keep {w x y:World} {base:Nat} {L:List (Nat×Array Value×TypeId)} {v:Value} {m:List X} (h:LX t s cl w x base L v m) (d:Below x.heap.size x y):LX t s cl w y base L v m:=
 ⟨zaE h.below d,h.blks.keep d,h.lt,h.row.keep d,Nat.le_trans h.size d.size,h.old⟩
theorem LX.app {w x y z:World} {base:Nat} {L:List (Nat×Array Value×TypeId)} {v E:Value} {m:List X} {e:X} (h:LX t s cl w x base L v m) (G:Below x.heap.size x y) (C:y.grownBy z v.ownBlock) (I:z.ownsRow base t s E (m.length+1) (m.flatMap cl++cl e)):LX t s cl w z base L E (m++[e]):=by
 have f:=h.keep G
 have o:Below base y z:=(Below.refl base y).grown C f.size (fun k H=>(World.ownsRow.lt f.row k H).1)
 refine ⟨f.below.trans (o.mono h.old),fun e p=> ?_,h.lt,OwnX.snoc I,Nat.le_trans f.size o.size,h.old⟩
 have d:=f.blks e p
 rcases h.lt e p with q|q
 ·exact (o.block e.1 q).trans d
 ·exact (C.block e.1 (zaG d) (fun r=>f.row.other d q r.symm)).trans d
theorem LX.first {w x:World} (L:List (Nat×Array Value×TypeId)) (f:Below w.heap.size w x) (d:Blks L x):LX t s cl w x x.heap.size L (.slice none 0 0) []:=
 ⟨f,d,fun e o=> .inl (zaG (d e o)),OwnX.nil _ _,Nat.le_refl _,f.size⟩
end
end
section
open Go.RowKit Go.ChangeShapes Go.WideShapes Go.Deep
theorem zeT {H:Type} {enc:TypeId×Value→H} {W:World} {t e:TypeId} {ao:Option Addr} {len K:Nat} {d:DataW H} {R:List MemPlace} {X:Type} (z:X) (cl:X→List Value) (ok:X→Prop) (s:Nat) (S:Tryz.prog.underlying t=some (.slice e)) (Y:Tryz.prog.cellsOf e=s)
  (h1: ∀(n:Nat) (cs:List Value) (x:DataW H×List MemPlace),cs.length=s→DataW.trod enc Tryz.prog W 0 (fun _=>true) true n e cs=some x→ ∃y,cs=cl y∧ok y)
  (h:DataW.Trod enc Tryz.prog W 0 (fun _=>true) true t (.slice ao len K) d R):
  ∃zs:List X,zs.length=len∧ ∀(j:Nat) (x:X),zs[j]? =some x→(∃ad,ao=some ad∧ ∀i,i<s→W.cell? (ad.add (j*s+i))=(cl x)[i]?)∧ok x:=by
 obtain ⟨fuel,hf⟩:=h
 rcases open_slice S hf with ⟨f,_⟩|⟨a,l,c,m,n,D,Pl,f,_,hl,_,V,_,hi⟩
 ·simp [Value.cells] at f
  obtain ⟨rfl,rfl,rfl⟩:=f
  exact ⟨[],rfl,fun j x h=>by simp at h⟩
 ·simp [Value.cells] at f
  obtain ⟨rfl,rfl,rfl⟩:=f
  have o: ∀i,i<len→ ∃x:X,(∀k,k<s→W.cell? (a.add (i*s+k))=(cl x)[k]?)∧ok x:=fun i qa=>by
   have N:i<m:=by rw [V];simp;omega
   obtain ⟨Z,p,ht⟩:=hi i N
   rw [Y] at p
   obtain ⟨_,G,J⟩:=World.cells?_some p
   obtain ⟨y,rfl,U⟩:=h1 _ _ _ G ht
   refine ⟨y,fun k hk=> ?_,U⟩
   have:=J k (by omega)
   rw [Go.Deep.add_add] at this
   rw [this]
  refine ⟨(List.range len).map (fun i=>if q:i<len then Classical.choose (o i q) else z),by simp,fun j x O=> ?_⟩
  have E:j<len:=by
   have:=(List.getElem?_eq_some_iff.1 O).1
   simpa using this
  have I:x=Classical.choose (o j E):=by
   simp [E] at O
   exact O.symm
  have C:=Classical.choose_spec (o j E)
  rw [←I] at C
  exact ⟨⟨a,rfl,C.1⟩,C.2⟩
theorem zdC {n:Int} (h:(Lit.int .u64 n).wf=true): ∃k:Nat,n=k∧k<18446744073709551616:=by
 simp [Lit.wf,IntKind.min,IntKind.max,IntKind.bits,IntKind.signed] at h
 exact ⟨n.toNat,by omega,by omega⟩
theorem zdE {n:Int} (h:(Lit.int .i64 n).wf=true): -9223372036854775808≤n∧n≤9223372036854775807:=by
 simp [Lit.wf,IntKind.min,IntKind.max,IntKind.bits,IntKind.signed] at h
 omega
theorem zcB:Tryz.prog.cellsOf 4=1:=by kernel_rfl
theorem zjE:Tryz.prog.cellsOf 9=1:=by kernel_rfl
structure On where
 is:Bool
 hi:Nat
 lo:Nat
def On.cl (x:On):List Value:=[.bool x.is,.int .u64 (x.hi:Nat),.int .u64 (x.lo:Nat)]
def On.Ok (x:On):Prop:=x.hi<18446744073709551616∧x.lo<18446744073709551616
theorem On.len (x:On):x.cl.length=3:=rfl
theorem zlF:Tryz.prog.cellsOf 85=3:=by kernel_rfl
theorem zfL:Tryz.prog.cellsOf 70=1:=by kernel_rfl
theorem zeU:Tryz.prog.cellsOf 2=1:=by kernel_rfl
theorem ziZ:Tryz.prog.cellsOf 28=1:=by kernel_rfl
theorem zdP {α:Type} {l:List α} (h:l.length=3): ∃a b c,l=[a,b,c]:=by
 match l,h with
 |[a,b,c],_=>exact ⟨a,b,c,rfl⟩
theorem one_of {H:Type} {enc:TypeId×Value→H} {W:World} {d:Nat→Bool} {n:Nat} {cs:List Value} {x:DataW H×List MemPlace} (Z:cs.length=3) (h:DataW.trod enc Tryz.prog W 0 d true n 85 cs=some x):
  ∃y:On,cs=y.cl∧y.Ok:=by
 obtain ⟨U,f,_,_,_,p,C⟩:=DataW.trod_struct Tryz.underlying85 h
 obtain ⟨c0,c1,o,rfl⟩:=zdP Z
 obtain ⟨I,N,K,rfl⟩:=zdP (show U.length=3 from p)
 have O:DataW.trod enc Tryz.prog W 0 d true f 4 [c0]=some I:=by
  have q:DataW.trod enc Tryz.prog W 0 d true f 4 (([c0,c1,o].drop 0).take (Tryz.prog.cellsOf 4))=some I:=C 0 _ rfl
  rw [zcB] at q;exact q
 have f1:DataW.trod enc Tryz.prog W 0 d true f 70 [c1]=some N:=by
  have q:DataW.trod enc Tryz.prog W 0 d true f 70 (([c0,c1,o].drop 1).take (Tryz.prog.cellsOf 70))=some N:=C 1 _ rfl
  rw [zfL] at q;exact q
 have Y:DataW.trod enc Tryz.prog W 0 d true f 70 [o]=some K:=by
  have q:DataW.trod enc Tryz.prog W 0 d true f 70 (([c0,c1,o].drop 2).take (Tryz.prog.cellsOf 70))=some K:=C 2 _ rfl
  rw [zfL] at q;exact q
 obtain ⟨v,E,_⟩:=DataW.trod_bool Tryz.underlying4 O
 obtain ⟨a,G,_,R⟩:=DataW.trod_int Tryz.underlying70 f1
 obtain ⟨b,J,_,w2⟩:=DataW.trod_int Tryz.underlying70 Y
 simp at E G J
 subst E G J
 obtain ⟨hi,rfl,V⟩:=zdC R
 obtain ⟨lo,rfl,S⟩:=zdC w2
 exact ⟨⟨v,hi,lo⟩,rfl,V,S⟩
theorem zjI {n:Int} (h:(Lit.int .u8 n).wf=true):0≤n∧n<256:=by
 simp [Lit.wf,IntKind.min,IntKind.max,IntKind.bits,IntKind.signed] at h
 omega
end
end Go.Proofs.YtkiehdigpchebaaGreatDoor
