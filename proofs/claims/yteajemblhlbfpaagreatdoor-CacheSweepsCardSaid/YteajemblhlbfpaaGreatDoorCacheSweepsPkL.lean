/-
  What the law CacheSweeps leans on, and its walk (12 of 21).
-/
import Derived.Lib.SmallJoins
import Derived.OpenShut
import Derived.Test.YteajemblhlbfpaaGreatDoorCacheSweepsPkD
import Derived.Test.YteajemblhlbfpaaGreatDoorCacheSweepsPkK
namespace Go.Proofs.YteajemblhlbfpaaGreatDoor
set_option maxRecDepth 100000
set_option maxHeartbeats 16000000
section
open Go.RowKit
section
variable {X:Type} {t:TypeId} {s:Nat} {cl:X→List Value}
theorem zgE (h: ∀x,(cl x).length=s): ∀(l:List X) (j:Nat) (x:X),l[j]? =some x→ ∀i,i<s→(l.flatMap cl)[j*s+i]? =(cl x)[i]?
 |[],j,x,a,i,hi=>by simp at a
 |y::l,0,x,a,i,hi=>by
  simp only [List.getElem?_cons_zero,Option.some.injEq] at a
  subst a
  rw [List.flatMap_cons,List.getElem?_append_left (by rw [h];omega)]
  simp
 |y::l,j+1,x,a,i,hi=>by
  have e:(j+1)*s+i=s+(j*s+i):=by rw [Nat.add_mul];omega
  rw [List.flatMap_cons,List.getElem?_append_right (by rw [h,e];omega),h,e,Nat.add_sub_cancel_left]
  exact zgE h l j x (by simpa using a) i hi
def OwnX (t:TypeId) (s:Nat) (cl:X→List Value) (w:World) (base:Nat) (v:Value) (l:List X):Prop:=w.ownsRow base t s v l.length (l.flatMap cl)
theorem OwnX.same {w w':World} {base:Nat} {v:Value} {l:List X} (h:OwnX t s cl w base v l) (o: ∀b,v.ownBlock=some b→w'.heap[b]? =w.heap[b]?):OwnX t s cl w' base v l:=by
 refine ⟨h.1,?_⟩
 rcases h.2 with q|⟨g,f,a,e,i,j,r⟩
 ·exact .inl q
 ·exact .inr ⟨g,f,a,e,i,(o g (by rw [e];rfl)).trans j,r⟩
theorem OwnX.keep {w w':World} {base:Nat} {v:Value} {l:List X} (h:OwnX t s cl w base v l) (f:Below w.heap.size w w'):OwnX t s cl w' base v l:=
 h.same fun b a=>f.block b (World.ownsRow.lt h b a).2
theorem OwnX.lower {w:World} {base a:Nat} {v:Value} {l:List X} (h:OwnX t s cl w base v l) (j:a≤base):OwnX t s cl w a v l:=by
 refine ⟨h.1,?_⟩
 rcases h.2 with q|⟨g,i,f,e,o,r⟩
 ·exact .inl q
 ·exact .inr ⟨g,i,f,e,Nat.le_trans j o,r⟩
theorem OwnX.snoc {w:World} {base:Nat} {v:Value} {l:List X} {x:X} (h:w.ownsRow base t s v (l.length+1) (l.flatMap cl++cl x)):OwnX t s cl w base v (l++[x]):=by
 unfold OwnX
 rw [List.flatMap_append,List.length_append]
 simpa using h
theorem OwnX.nil (w:World) (base:Nat):OwnX t s cl w base (.slice none 0 0) []:=World.ownsRow_nil _ _ _ _
theorem OwnX.form {w:World} {base:Nat} {v:Value} {l:List X} (h:OwnX t s cl w base v l): ∃a c,v= .slice a l.length c:=by
 rcases h.2 with ⟨e,i⟩|⟨g,j,f,e,_⟩
 ·exact ⟨_,_,by rw [e,i]⟩
 ·exact ⟨_,_,e⟩
def RowX (s:Nat) (cl:X→List Value) (w:World) (ao:Option Addr) (l:List X):Prop:= ∀(j:Nat) (x:X),l[j]? =some x→ ∃a,ao=some a∧ ∀i,i<s→w.cell? (a.add (j*s+i))=(cl x)[i]?
theorem OwnX.row (f: ∀x,(cl x).length=s) {w:World} {base:Nat} {ao:Option Addr} {n c:Nat} {l:List X} (h:OwnX t s cl w base (.slice ao n c) l):RowX s cl w ao l:=fun j x a=>by
 have p:=h
 rcases h.2 with ⟨e,y⟩|⟨g,z,o,e,_⟩
 ·have:l=[]:=List.eq_nil_of_length_eq_zero y
  subst this
  simp at a
 ·simp only [Value.slice.injEq] at e
  obtain ⟨rfl,_,_⟩:=e
  refine ⟨_,rfl,fun i hi=> ?_⟩
  have q:(cl x)[i]? =some ((cl x)[i]'(by rw [f];exact hi)):=List.getElem?_eq_getElem _
  rw [q]
  exact p.cells (g:=g) rfl (j*s+i) _ ((zgE f l j x a i hi).trans q)
theorem RowX.keep (o: ∀x,(cl x).length=s) {w w':World} {ao:Option Addr} {l:List X} (h:RowX s cl w ao l) (f:Below w.heap.size w w'):RowX s cl w' ao l:=fun j x p=>by
 obtain ⟨z,g,y⟩:=h j x p
 refine ⟨z,g,fun i hi=> ?_⟩
 have q:(cl x)[i]? =some ((cl x)[i]'(by rw [o];exact hi)):=List.getElem?_eq_getElem _
 have a:=y i hi
 rw [q] at a ⊢
 exact (f.cell (World.block_lt_of_cell? w _ a)).trans a
theorem OwnX.other {w:World} {base:Nat} {v:Value} {l:List X} (h:OwnX t s cl w base v l) {b:Nat} {c:Array Value} {f:TypeId} (i:w.heap[b]? =some (.cells c f)) (j:f≠t):v.ownBlock≠some b:=fun e=>by
 rcases h.2 with ⟨q,_⟩|⟨g,p,o,q,_,a,_⟩
 ·rw [q] at e;cases e
 ·rw [q] at e
  simp only [Value.ownBlock,Option.some.injEq] at e
  rw [e,i] at a
  injection a with a
  injection a with _ a
  exact j a
structure LX (t:TypeId) (s:Nat) (cl:X→List Value) (w x:World) (base:Nat) (L:List (Nat×Array Value×TypeId)) (v:Value) (m:List X):Prop where
 below:Below w.heap.size w x
 blks:Blks L x
 lt: ∀e∈L,e.1<base∨e.2.2≠t
 row:OwnX t s cl x base v m
 size:base≤x.heap.size
 old:w.heap.size≤base
theorem LX.keep {w x y:World} {base:Nat} {L:List (Nat×Array Value×TypeId)} {v:Value} {m:List X} (h:LX t s cl w x base L v m) (a:Below x.heap.size x y):LX t s cl w y base L v m:=
 ⟨zaO h.below a,h.blks.keep a,h.lt,h.row.keep a,Nat.le_trans h.size a.size,h.old⟩
theorem LX.app {w x y z:World} {base:Nat} {L:List (Nat×Array Value×TypeId)} {v i:Value} {m:List X} {e:X} (h:LX t s cl w x base L v m) (p:Below x.heap.size x y) (o:y.grownBy z v.ownBlock) (A:z.ownsRow base t s i (m.length+1) (m.flatMap cl++cl e)):LX t s cl w z base L i (m++[e]):=by
 have f:=h.keep p
 have g:Below base y z:=(Below.refl base y).grown o f.size (fun k B=>(World.ownsRow.lt f.row k B).1)
 refine ⟨f.below.trans (g.mono h.old),fun e j=> ?_,h.lt,OwnX.snoc A,Nat.le_trans f.size g.size,h.old⟩
 have a:=f.blks e j
 rcases h.lt e j with q|q
 ·exact (g.block e.1 q).trans a
 ·exact (o.block e.1 (zaH a) (fun r=>f.row.other a q r.symm)).trans a
theorem LX.first {w x:World} (L:List (Nat×Array Value×TypeId)) (a:Below w.heap.size w x) (f:Blks L x):LX t s cl w x x.heap.size L (.slice none 0 0) []:=
 ⟨a,f,fun e g=> .inl (zaH (f e g)),OwnX.nil _ _,Nat.le_refl _,a.size⟩
end
end
section
open Go.RowKit Go.ChangeShapes Go.WideShapes Go.Deep
theorem zeC {H:Type} {enc:TypeId×Value→H} {W:World} {t e:TypeId} {ao:Option Addr} {len C:Nat} {d:DataW H} {Y:List MemPlace} {X:Type} (z:X) (cl:X→List Value) (J:X→Prop) (s:Nat) (Z:Tryz.prog.underlying t=some (.slice e)) (hc:Tryz.prog.cellsOf e=s)
  (R: ∀(n:Nat) (cs:List Value) (x:DataW H×List MemPlace),cs.length=s→DataW.trod enc Tryz.prog W 0 (fun _=>true) true n e cs=some x→ ∃y,cs=cl y∧J y)
  (h:DataW.Trod enc Tryz.prog W 0 (fun _=>true) true t (.slice ao len C) d Y):
  ∃O:List X,O.length=len∧ ∀(j:Nat) (x:X),O[j]? =some x→(∃N,ao=some N∧ ∀i,i<s→W.cell? (N.add (j*s+i))=(cl x)[i]?)∧J x:=by
 obtain ⟨fuel,T⟩:=h
 rcases open_slice Z T with ⟨f,_⟩|⟨a,l,c,m,n,D,Pl,f,_,hl,_,Q,_,hi⟩
 ·simp [Value.cells] at f
  obtain ⟨rfl,rfl,rfl⟩:=f
  exact ⟨[],rfl,fun j x h=>by simp at h⟩
 ·simp [Value.cells] at f
  obtain ⟨rfl,rfl,rfl⟩:=f
  have g: ∀i,i<len→ ∃x:X,(∀k,k<s→W.cell? (a.add (i*s+k))=(cl x)[k]?)∧J x:=fun i U=>by
   have E:i<m:=by rw [Q];simp;omega
   obtain ⟨V,o,S⟩:=hi i E
   rw [hc] at o
   obtain ⟨_,I,G⟩:=World.cells?_some o
   obtain ⟨y,rfl,P⟩:=R _ _ _ I S
   refine ⟨y,fun k hk=> ?_,P⟩
   have:=G k (by omega)
   rw [Go.Deep.add_add] at this
   rw [this]
  refine ⟨(List.range len).map (fun i=>if q:i<len then Classical.choose (g i q) else z),by simp,fun j x p=> ?_⟩
  have A:j<len:=by
   have:=(List.getElem?_eq_some_iff.1 p).1
   simpa using this
  have B:x=Classical.choose (g j A):=by
   simp [A] at p
   exact p.symm
  have K:=Classical.choose_spec (g j A)
  rw [←B] at K
  exact ⟨⟨a,rfl,K.1⟩,K.2⟩
theorem zcJ {n:Int} (h:(Lit.int .u64 n).wf=true): ∃k:Nat,n=k∧k<18446744073709551616:=by
 simp [Lit.wf,IntKind.min,IntKind.max,IntKind.bits,IntKind.signed] at h
 exact ⟨n.toNat,by omega,by omega⟩
theorem zfC {n:Int} (h:(Lit.int .i64 n).wf=true): -9223372036854775808≤n∧n≤9223372036854775807:=by
 simp [Lit.wf,IntKind.min,IntKind.max,IntKind.bits,IntKind.signed] at h
 omega
theorem zfA:Tryz.prog.cellsOf 4=1:=by kernel_rfl
theorem zgY:Tryz.prog.cellsOf 9=1:=by kernel_rfl
theorem zkI {α:Type} {l:List α} (h:l.length=4): ∃a b c d,l=[a,b,c,d]:=by
 match l,h with
 |[a,b,c,d],_=>exact ⟨a,b,c,d,rfl⟩
structure On where
 is:Bool
 hi:Nat
 lo:Nat
def On.cl (x:On):List Value:=[.bool x.is,.int .u64 (x.hi:Nat),.int .u64 (x.lo:Nat)]
def On.Ok (x:On):Prop:=x.hi<18446744073709551616∧x.lo<18446744073709551616
theorem On.len (x:On):x.cl.length=3:=rfl
theorem zjM:Tryz.prog.cellsOf 70=3:=by kernel_rfl
theorem zdK:Tryz.prog.cellsOf 68=1:=by kernel_rfl
theorem zlG:Tryz.prog.cellsOf 5=1:=by kernel_rfl
theorem zhU:Tryz.prog.cellsOf 2=1:=by kernel_rfl
theorem zgQ:Tryz.prog.cellsOf 27=1:=by kernel_rfl
theorem zmG {α:Type} {l:List α} (h:l.length=3): ∃a b c,l=[a,b,c]:=by
 match l,h with
 |[a,b,c],_=>exact ⟨a,b,c,rfl⟩
theorem one_of {H:Type} {enc:TypeId×Value→H} {W:World} {f:Nat→Bool} {n:Nat} {p:List Value} {x:DataW H×List MemPlace} (T:p.length=3) (h:DataW.trod enc Tryz.prog W 0 f true n 70 p=some x):
  ∃y:On,p=y.cl∧y.Ok:=by
 obtain ⟨P,g,_,_,_,z,A⟩:=DataW.trod_struct Tryz.underlying70 h
 obtain ⟨j,o,i,rfl⟩:=zmG T
 obtain ⟨I,G,E,rfl⟩:=zmG (show P.length=3 from z)
 have O:DataW.trod enc Tryz.prog W 0 f true g 4 [j]=some I:=by
  have q:DataW.trod enc Tryz.prog W 0 f true g 4 (([j,o,i].drop 0).take (Tryz.prog.cellsOf 4))=some I:=A 0 _ rfl
  rw [zfA] at q;exact q
 have J:DataW.trod enc Tryz.prog W 0 f true g 68 [o]=some G:=by
  have q:DataW.trod enc Tryz.prog W 0 f true g 68 (([j,o,i].drop 1).take (Tryz.prog.cellsOf 68))=some G:=A 1 _ rfl
  rw [zdK] at q;exact q
 have Q:DataW.trod enc Tryz.prog W 0 f true g 68 [i]=some E:=by
  have q:DataW.trod enc Tryz.prog W 0 f true g 68 (([j,o,i].drop 2).take (Tryz.prog.cellsOf 68))=some E:=A 2 _ rfl
  rw [zdK] at q;exact q
 obtain ⟨v,B,_⟩:=DataW.trod_bool Tryz.underlying4 O
 obtain ⟨a,D,_,R⟩:=DataW.trod_int Tryz.underlying68 J
 obtain ⟨b,C,_,K⟩:=DataW.trod_int Tryz.underlying68 Q
 simp at B D C
 subst B D C
 obtain ⟨hi,rfl,N⟩:=zcJ R
 obtain ⟨lo,rfl,S⟩:=zcJ K
 exact ⟨⟨v,hi,lo⟩,rfl,N,S⟩
structure Ac where
 d:Int
 nm:ByteArray
 at':Int
 la:Option Addr
 lc:Nat
 l:List On
def Ac.cl (x:Ac):List Value:=[.int .u8 x.d,.string x.nm,.int .i64 x.at',.slice x.la x.l.length x.lc]
theorem Ac.len (x:Ac):x.cl.length=4:=rfl
def Ac.Ok (w:World) (x:Ac):Prop:=(0≤x.d∧x.d<256)∧x.nm.size≤maxLen∧(-9223372036854775808≤x.at'∧x.at'≤9223372036854775807)∧RowX 3 On.cl w x.la x.l∧ ∀y∈x.l,y.Ok
theorem Ac.Ok.keep {w w':World} {x:Ac} (h:x.Ok w) (a:Below w.heap.size w w'):x.Ok w':=⟨h.1,h.2.1,h.2.2.1,RowX.keep On.len h.2.2.2.1 a,h.2.2.2.2⟩
def IsCRow (w:World) (a:Option Addr) (len _cap:Nat) (f:List Ac):Prop:=
 f.length=len∧RowX 4 Ac.cl w a f∧ ∀x∈f,x.Ok w
theorem IsCRow.keep {w wr:World} {a:Option Addr} {len f:Nat} {i:List Ac} (h:IsCRow w a len f i) (g:Below w.heap.size w wr):IsCRow wr a len f i:=
 ⟨h.1,RowX.keep Ac.len h.2.1 g,fun x j=>(h.2.2 x j).keep g⟩
theorem zhO:Tryz.prog.cellsOf 29=4:=by kernel_rfl
theorem zgO {n:Int} (h:(Lit.int .u8 n).wf=true):0≤n∧n<256:=by
 simp [Lit.wf,IntKind.min,IntKind.max,IntKind.bits,IntKind.signed] at h
 omega
theorem act_of {H:Type} {enc:TypeId×Value→H} {W:World} {n:Nat} {G:List Value} {x:DataW H×List MemPlace} (K:G.length=4) (h:DataW.trod enc Tryz.prog W 0 (fun _=>true) true n 29 G=some x):
  ∃y:Ac,G=y.cl∧y.Ok W:=by
 obtain ⟨ys,g,_,_,_,I,A⟩:=DataW.trod_struct Tryz.underlying29 h
 obtain ⟨p,o,z,i,rfl⟩:=zkI K
 obtain ⟨S,R,Q,B,rfl⟩:=zkI (show ys.length=4 from I)
 have f0:DataW.trod enc Tryz.prog W 0 (fun _=>true) true g 5 [p]=some S:=by
  have q:DataW.trod enc Tryz.prog W 0 (fun _=>true) true g 5 (([p,o,z,i].drop 0).take (Tryz.prog.cellsOf 5))=some S:=A 0 _ rfl
  rw [zlG] at q;exact q
 have U:DataW.trod enc Tryz.prog W 0 (fun _=>true) true g 9 [o]=some R:=by
  have q:DataW.trod enc Tryz.prog W 0 (fun _=>true) true g 9 (([p,o,z,i].drop 1).take (Tryz.prog.cellsOf 9))=some R:=A 1 _ rfl
  rw [zgY] at q;exact q
 have f2:DataW.trod enc Tryz.prog W 0 (fun _=>true) true g 2 [z]=some Q:=by
  have q:DataW.trod enc Tryz.prog W 0 (fun _=>true) true g 2 (([p,o,z,i].drop 2).take (Tryz.prog.cellsOf 2))=some Q:=A 2 _ rfl
  rw [zhU] at q;exact q
 have J:DataW.trod enc Tryz.prog W 0 (fun _=>true) true g 27 [i]=some B:=by
  have q:DataW.trod enc Tryz.prog W 0 (fun _=>true) true g 27 (([p,o,z,i].drop 3).take (Tryz.prog.cellsOf 27))=some B:=A 3 _ rfl
  rw [zgQ] at q;exact q
 obtain ⟨d,N,_,w0⟩:=DataW.trod_int Tryz.underlying5 f0
 obtain ⟨s,T,_,w1⟩:=DataW.trod_string Tryz.underlying9 U
 obtain ⟨t,P,_,Z⟩:=DataW.trod_int Tryz.underlying2 f2
 have e3: ∃ao E cp,i= .slice ao E cp∧DataW.Trod enc Tryz.prog W 0 (fun _=>true) true 27 (.slice ao E cp) B.1 B.2:=by
  rcases open_slice Tryz.underlying27 J with ⟨f,_⟩|⟨a,l,c,m,k,D,Pl,f,_⟩
  ·simp at f
   subst f
   exact ⟨none,0,0,rfl,g,by simpa [Value.cells] using J⟩
  ·simp at f
   subst f
   exact ⟨some a,l,c,rfl,g,by simpa [Value.cells] using J⟩
 obtain ⟨ao,E,cp,rfl,Y⟩:=e3
 obtain ⟨zs,V,O⟩:=zeC (⟨false,0,0⟩:On) On.cl On.Ok 3 Tryz.underlying27 zjM (fun _ _ _ K hx=>one_of K hx) Y
 simp at N T P
 subst N T P V
 exact ⟨⟨d,s,t,ao,cp,zs⟩,rfl,zgO w0,w1,zfC Z,fun j y C=>(O j y C).1,fun y C=>by
  obtain ⟨j,hj⟩:=List.getElem?_of_mem C
  exact (O j y hj).2⟩
theorem open_crow {H:Type} {enc:TypeId×Value→H} {W:World} {ao:Option Addr} {len f:Nat} {d:DataW H} {y:List MemPlace}
  (h:DataW.Trod enc Tryz.prog W 0 (fun _=>true) true 22 (.slice ao len f) d y): ∃g,IsCRow W ao len f g:=by
 obtain ⟨g,o,i⟩:=zeC (⟨0,⟨#[]⟩,0,none,0,[]⟩:Ac) Ac.cl (Ac.Ok W) 4 Tryz.underlying22 zhO (fun _ _ _ p a=>act_of p a) h
 exact ⟨g,o,fun j x a=>(i j x a).1,fun x a=>by
  obtain ⟨j,q⟩:=List.getElem?_of_mem a
  exact (i j x q).2⟩
end
end Go.Proofs.YteajemblhlbfpaaGreatDoor
