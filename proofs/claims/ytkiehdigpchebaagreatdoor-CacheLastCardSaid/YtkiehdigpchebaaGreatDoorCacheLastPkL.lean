/-
  What the law CacheLast leans on, and its walk (12 of 21).
-/
import Derived.Lib.SmallJoins
import Derived.OpenShut
import Derived.Test.YtkiehdigpchebaaGreatDoorCacheLastPkD
import Derived.Test.YtkiehdigpchebaaGreatDoorCacheLastPkK
namespace Go.Proofs.YtkiehdigpchebaaGreatDoor
set_option maxRecDepth 100000
set_option maxHeartbeats 16000000
section
open Go.RowKit
section
variable {X:Type} {t:TypeId} {s:Nat} {cl:X→List Value}
theorem zfN (h: ∀x,(cl x).length=s): ∀(l:List X) (j:Nat) (x:X),l[j]? =some x→ ∀i,i<s→(l.flatMap cl)[j*s+i]? =(cl x)[i]?
 |[],j,x,a,i,hi=>by simp at a
 |y::l,0,x,a,i,hi=>by
  simp only [List.getElem?_cons_zero,Option.some.injEq] at a
  subst a
  rw [List.flatMap_cons,List.getElem?_append_left (by rw [h];omega)]
  simp
 |y::l,j+1,x,a,i,hi=>by
  have e:(j+1)*s+i=s+(j*s+i):=by rw [Nat.add_mul];omega
  rw [List.flatMap_cons,List.getElem?_append_right (by rw [h,e];omega),h,e,Nat.add_sub_cancel_left]
  exact zfN h l j x (by simpa using a) i hi
def OwnX (t:TypeId) (s:Nat) (cl:X→List Value) (w:World) (base:Nat) (v:Value) (l:List X):Prop:=w.ownsRow base t s v l.length (l.flatMap cl)
theorem OwnX.same {w w':World} {base:Nat} {v:Value} {l:List X} (h:OwnX t s cl w base v l) (i: ∀b,v.ownBlock=some b→w'.heap[b]? =w.heap[b]?):OwnX t s cl w' base v l:=by
 refine ⟨h.1,?_⟩
 rcases h.2 with q|⟨g,f,a,e,j,o,r⟩
 ·exact .inl q
 ·exact .inr ⟨g,f,a,e,j,(i g (by rw [e];rfl)).trans o,r⟩
theorem OwnX.keep {w w':World} {base:Nat} {v:Value} {l:List X} (h:OwnX t s cl w base v l) (f:Below w.heap.size w w'):OwnX t s cl w' base v l:=
 h.same fun b a=>f.block b (World.ownsRow.lt h b a).2
theorem OwnX.lower {w:World} {base a:Nat} {v:Value} {l:List X} (h:OwnX t s cl w base v l) (j:a≤base):OwnX t s cl w a v l:=by
 refine ⟨h.1,?_⟩
 rcases h.2 with q|⟨g,i,f,e,o,r⟩
 ·exact .inl q
 ·exact .inr ⟨g,i,f,e,Nat.le_trans j o,r⟩
theorem OwnX.snoc {w:World} {base:Nat} {v:Value} {l:List X} {x:X} (h:w.ownsRow base t s v (l.length+1) (l.flatMap cl++cl x)):OwnX t s cl w base v (l++[x]):=by
 unfold OwnX
 rw [List.flatMap_append,List.length_append]
 simpa using h
theorem OwnX.nil (w:World) (base:Nat):OwnX t s cl w base (.slice none 0 0) []:=World.ownsRow_nil _ _ _ _
theorem OwnX.form {w:World} {base:Nat} {v:Value} {l:List X} (h:OwnX t s cl w base v l): ∃a c,v= .slice a l.length c:=by
 rcases h.2 with ⟨e,i⟩|⟨g,j,f,e,_⟩
 ·exact ⟨_,_,by rw [e,i]⟩
 ·exact ⟨_,_,e⟩
def RowX (s:Nat) (cl:X→List Value) (w:World) (ao:Option Addr) (l:List X):Prop:= ∀(j:Nat) (x:X),l[j]? =some x→ ∃a,ao=some a∧ ∀i,i<s→w.cell? (a.add (j*s+i))=(cl x)[i]?
theorem OwnX.row (f: ∀x,(cl x).length=s) {w:World} {base:Nat} {ao:Option Addr} {n c:Nat} {l:List X} (h:OwnX t s cl w base (.slice ao n c) l):RowX s cl w ao l:=fun j x a=>by
 have p:=h
 rcases h.2 with ⟨e,z⟩|⟨g,y,o,e,_⟩
 ·have:l=[]:=List.eq_nil_of_length_eq_zero z
  subst this
  simp at a
 ·simp only [Value.slice.injEq] at e
  obtain ⟨rfl,_,_⟩:=e
  refine ⟨_,rfl,fun i hi=> ?_⟩
  have q:(cl x)[i]? =some ((cl x)[i]'(by rw [f];exact hi)):=List.getElem?_eq_getElem _
  rw [q]
  exact p.cells (g:=g) rfl (j*s+i) _ ((zfN f l j x a i hi).trans q)
theorem RowX.keep (o: ∀x,(cl x).length=s) {w w':World} {ao:Option Addr} {l:List X} (h:RowX s cl w ao l) (p:Below w.heap.size w w'):RowX s cl w' ao l:=fun j x f=>by
 obtain ⟨z,g,y⟩:=h j x f
 refine ⟨z,g,fun i hi=> ?_⟩
 have q:(cl x)[i]? =some ((cl x)[i]'(by rw [o];exact hi)):=List.getElem?_eq_getElem _
 have a:=y i hi
 rw [q] at a ⊢
 exact (p.cell (World.block_lt_of_cell? w _ a)).trans a
theorem OwnX.other {w:World} {base:Nat} {v:Value} {l:List X} (h:OwnX t s cl w base v l) {b:Nat} {c:Array Value} {f:TypeId} (j:w.heap[b]? =some (.cells c f)) (o:f≠t):v.ownBlock≠some b:=fun e=>by
 rcases h.2 with ⟨q,_⟩|⟨g,p,i,q,_,a,_⟩
 ·rw [q] at e;cases e
 ·rw [q] at e
  simp only [Value.ownBlock,Option.some.injEq] at e
  rw [e,j] at a
  injection a with a
  injection a with _ a
  exact o a
structure LX (t:TypeId) (s:Nat) (cl:X→List Value) (w x:World) (base:Nat) (L:List (Nat×Array Value×TypeId)) (v:Value) (m:List X):Prop where
 below:Below w.heap.size w x
 blks:Blks L x
 lt: ∀e∈L,e.1<base∨e.2.2≠t
 row:OwnX t s cl x base v m
 size:base≤x.heap.size
 old:w.heap.size≤base
theorem LX.keep {w x y:World} {base:Nat} {L:List (Nat×Array Value×TypeId)} {v:Value} {m:List X} (h:LX t s cl w x base L v m) (a:Below x.heap.size x y):LX t s cl w y base L v m:=
 ⟨zaQ h.below a,h.blks.keep a,h.lt,h.row.keep a,Nat.le_trans h.size a.size,h.old⟩
theorem LX.app {w x y z:World} {base:Nat} {L:List (Nat×Array Value×TypeId)} {v i:Value} {m:List X} {e:X} (h:LX t s cl w x base L v m) (D:Below x.heap.size x y) (j:y.grownBy z v.ownBlock) (p:z.ownsRow base t s i (m.length+1) (m.flatMap cl++cl e)):LX t s cl w z base L i (m++[e]):=by
 have f:=h.keep D
 have g:Below base y z:=(Below.refl base y).grown j f.size (fun k C=>(World.ownsRow.lt f.row k C).1)
 refine ⟨f.below.trans (g.mono h.old),fun e o=> ?_,h.lt,OwnX.snoc p,Nat.le_trans f.size g.size,h.old⟩
 have a:=f.blks e o
 rcases h.lt e o with q|q
 ·exact (g.block e.1 q).trans a
 ·exact (j.block e.1 (zaH a) (fun r=>f.row.other a q r.symm)).trans a
theorem LX.first {w x:World} (L:List (Nat×Array Value×TypeId)) (f:Below w.heap.size w x) (a:Blks L x):LX t s cl w x x.heap.size L (.slice none 0 0) []:=
 ⟨f,a,fun e g=> .inl (zaH (a e g)),OwnX.nil _ _,Nat.le_refl _,f.size⟩
end
end
section
open Go.RowKit Go.ChangeShapes Go.WideShapes Go.Deep
theorem zeU {H:Type} {enc:TypeId×Value→H} {W:World} {t e:TypeId} {ao:Option Addr} {len J:Nat} {d:DataW H} {R:List MemPlace} {X:Type} (z:X) (cl:X→List Value) (C:X→Prop) (s:Nat) (S:Tryz.prog.underlying t=some (.slice e)) (hc:Tryz.prog.cellsOf e=s)
  (h1: ∀(n:Nat) (cs:List Value) (x:DataW H×List MemPlace),cs.length=s→DataW.trod enc Tryz.prog W 0 (fun _=>true) true n e cs=some x→ ∃y,cs=cl y∧C y)
  (h:DataW.Trod enc Tryz.prog W 0 (fun _=>true) true t (.slice ao len J) d R):
  ∃Q:List X,Q.length=len∧ ∀(j:Nat) (x:X),Q[j]? =some x→(∃P,ao=some P∧ ∀i,i<s→W.cell? (P.add (j*s+i))=(cl x)[i]?)∧C x:=by
 obtain ⟨fuel,V⟩:=h
 rcases open_slice S V with ⟨f,_⟩|⟨a,l,c,m,n,D,Pl,f,_,hl,_,U,_,hi⟩
 ·simp [Value.cells] at f
  obtain ⟨rfl,rfl,rfl⟩:=f
  exact ⟨[],rfl,fun j x h=>by simp at h⟩
 ·simp [Value.cells] at f
  obtain ⟨rfl,rfl,rfl⟩:=f
  have g: ∀i,i<len→ ∃x:X,(∀k,k<s→W.cell? (a.add (i*s+k))=(cl x)[k]?)∧C x:=fun i Z=>by
   have O:i<m:=by rw [U];simp;omega
   obtain ⟨qa,o,Y⟩:=hi i O
   rw [hc] at o
   obtain ⟨_,I,K⟩:=World.cells?_some o
   obtain ⟨y,rfl,hy⟩:=h1 _ _ _ I Y
   refine ⟨y,fun k hk=> ?_,hy⟩
   have:=K k (by omega)
   rw [Go.Deep.add_add] at this
   rw [this]
  refine ⟨(List.range len).map (fun i=>if q:i<len then Classical.choose (g i q) else z),by simp,fun j x G=> ?_⟩
  have p:j<len:=by
   have:=(List.getElem?_eq_some_iff.1 G).1
   simpa using this
  have N:x=Classical.choose (g j p):=by
   simp [p] at G
   exact G.symm
  have E:=Classical.choose_spec (g j p)
  rw [←N] at E
  exact ⟨⟨a,rfl,E.1⟩,E.2⟩
theorem zcM {n:Int} (h:(Lit.int .u64 n).wf=true): ∃k:Nat,n=k∧k<18446744073709551616:=by
 simp [Lit.wf,IntKind.min,IntKind.max,IntKind.bits,IntKind.signed] at h
 exact ⟨n.toNat,by omega,by omega⟩
theorem zfA {n:Int} (h:(Lit.int .i64 n).wf=true): -9223372036854775808≤n∧n≤9223372036854775807:=by
 simp [Lit.wf,IntKind.min,IntKind.max,IntKind.bits,IntKind.signed] at h
 omega
theorem zfB:Tryz.prog.cellsOf 4=1:=by kernel_rfl
theorem zgX:Tryz.prog.cellsOf 9=1:=by kernel_rfl
theorem zhU {α:Type} {l:List α} (h:l.length=4): ∃a b c d,l=[a,b,c,d]:=by
 match l,h with
 |[a,b,c,d],_=>exact ⟨a,b,c,d,rfl⟩
structure On where
 is:Bool
 hi:Nat
 lo:Nat
def On.cl (x:On):List Value:=[.bool x.is,.int .u64 (x.hi:Nat),.int .u64 (x.lo:Nat)]
def On.Ok (x:On):Prop:=x.hi<18446744073709551616∧x.lo<18446744073709551616
theorem On.len (x:On):x.cl.length=3:=rfl
theorem zhX:Tryz.prog.cellsOf 85=3:=by kernel_rfl
theorem zeI:Tryz.prog.cellsOf 70=1:=by kernel_rfl
theorem zkZ:Tryz.prog.cellsOf 5=1:=by kernel_rfl
theorem zkD:Tryz.prog.cellsOf 2=1:=by kernel_rfl
theorem zgZ:Tryz.prog.cellsOf 28=1:=by kernel_rfl
theorem zmB {α:Type} {l:List α} (h:l.length=3): ∃a b c,l=[a,b,c]:=by
 match l,h with
 |[a,b,c],_=>exact ⟨a,b,c,rfl⟩
theorem one_of {H:Type} {enc:TypeId×Value→H} {W:World} {f:Nat→Bool} {n:Nat} {p:List Value} {x:DataW H×List MemPlace} (N:p.length=3) (h:DataW.trod enc Tryz.prog W 0 f true n 85 p=some x):
  ∃y:On,p=y.cl∧y.Ok:=by
 obtain ⟨Q,g,_,_,_,z,C⟩:=DataW.trod_struct Tryz.underlying85 h
 obtain ⟨o,i,j,rfl⟩:=zmB N
 obtain ⟨J,E,D,rfl⟩:=zmB (show Q.length=3 from z)
 have Y:DataW.trod enc Tryz.prog W 0 f true g 4 [o]=some J:=by
  have q:DataW.trod enc Tryz.prog W 0 f true g 4 (([o,i,j].drop 0).take (Tryz.prog.cellsOf 4))=some J:=C 0 _ rfl
  rw [zfB] at q;exact q
 have R:DataW.trod enc Tryz.prog W 0 f true g 70 [i]=some E:=by
  have q:DataW.trod enc Tryz.prog W 0 f true g 70 (([o,i,j].drop 1).take (Tryz.prog.cellsOf 70))=some E:=C 1 _ rfl
  rw [zeI] at q;exact q
 have P:DataW.trod enc Tryz.prog W 0 f true g 70 [j]=some D:=by
  have q:DataW.trod enc Tryz.prog W 0 f true g 70 (([o,i,j].drop 2).take (Tryz.prog.cellsOf 70))=some D:=C 2 _ rfl
  rw [zeI] at q;exact q
 obtain ⟨v,K,_⟩:=DataW.trod_bool Tryz.underlying4 Y
 obtain ⟨a,G,_,U⟩:=DataW.trod_int Tryz.underlying70 R
 obtain ⟨b,I,_,S⟩:=DataW.trod_int Tryz.underlying70 P
 simp at K G I
 subst K G I
 obtain ⟨hi,rfl,V⟩:=zcM U
 obtain ⟨lo,rfl,O⟩:=zcM S
 exact ⟨⟨v,hi,lo⟩,rfl,V,O⟩
structure Ac where
 d:Int
 nm:ByteArray
 at':Int
 la:Option Addr
 lc:Nat
 l:List On
def Ac.cl (x:Ac):List Value:=[.int .u8 x.d,.string x.nm,.int .i64 x.at',.slice x.la x.l.length x.lc]
theorem Ac.len (x:Ac):x.cl.length=4:=rfl
def Ac.Ok (w:World) (x:Ac):Prop:=(0≤x.d∧x.d<256)∧x.nm.size≤maxLen∧(-9223372036854775808≤x.at'∧x.at'≤9223372036854775807)∧RowX 3 On.cl w x.la x.l∧ ∀y∈x.l,y.Ok
theorem Ac.Ok.keep {w w':World} {x:Ac} (h:x.Ok w) (a:Below w.heap.size w w'):x.Ok w':=⟨h.1,h.2.1,h.2.2.1,RowX.keep On.len h.2.2.2.1 a,h.2.2.2.2⟩
def IsCRow (w:World) (a:Option Addr) (len _cap:Nat) (f:List Ac):Prop:=
 f.length=len∧RowX 4 Ac.cl w a f∧ ∀x∈f,x.Ok w
theorem IsCRow.keep {w wr:World} {a:Option Addr} {len f:Nat} {g:List Ac} (h:IsCRow w a len f g) (i:Below w.heap.size w wr):IsCRow wr a len f g:=
 ⟨h.1,RowX.keep Ac.len h.2.1 i,fun x j=>(h.2.2 x j).keep i⟩
theorem zkH:Tryz.prog.cellsOf 30=4:=by kernel_rfl
theorem zhH {n:Int} (h:(Lit.int .u8 n).wf=true):0≤n∧n<256:=by
 simp [Lit.wf,IntKind.min,IntKind.max,IntKind.bits,IntKind.signed] at h
 omega
theorem act_of {H:Type} {enc:TypeId×Value→H} {W:World} {n:Nat} {G:List Value} {x:DataW H×List MemPlace} (K:G.length=4) (h:DataW.trod enc Tryz.prog W 0 (fun _=>true) true n 30 G=some x):
  ∃y:Ac,G=y.cl∧y.Ok W:=by
 obtain ⟨ys,g,_,_,_,I,E⟩:=DataW.trod_struct Tryz.underlying30 h
 obtain ⟨o,p,z,i,rfl⟩:=zhU K
 obtain ⟨Y,P,U,C,rfl⟩:=zhU (show ys.length=4 from I)
 have f0:DataW.trod enc Tryz.prog W 0 (fun _=>true) true g 5 [o]=some Y:=by
  have q:DataW.trod enc Tryz.prog W 0 (fun _=>true) true g 5 (([o,p,z,i].drop 0).take (Tryz.prog.cellsOf 5))=some Y:=E 0 _ rfl
  rw [zkZ] at q;exact q
 have f1:DataW.trod enc Tryz.prog W 0 (fun _=>true) true g 9 [p]=some P:=by
  have q:DataW.trod enc Tryz.prog W 0 (fun _=>true) true g 9 (([o,p,z,i].drop 1).take (Tryz.prog.cellsOf 9))=some P:=E 1 _ rfl
  rw [zgX] at q;exact q
 have f2:DataW.trod enc Tryz.prog W 0 (fun _=>true) true g 2 [z]=some U:=by
  have q:DataW.trod enc Tryz.prog W 0 (fun _=>true) true g 2 (([o,p,z,i].drop 2).take (Tryz.prog.cellsOf 2))=some U:=E 2 _ rfl
  rw [zkD] at q;exact q
 have N:DataW.trod enc Tryz.prog W 0 (fun _=>true) true g 28 [i]=some C:=by
  have q:DataW.trod enc Tryz.prog W 0 (fun _=>true) true g 28 (([o,p,z,i].drop 3).take (Tryz.prog.cellsOf 28))=some C:=E 3 _ rfl
  rw [zgZ] at q;exact q
 obtain ⟨d,V,_,w0⟩:=DataW.trod_int Tryz.underlying5 f0
 obtain ⟨s,Q,_,w1⟩:=DataW.trod_string Tryz.underlying9 f1
 obtain ⟨t,R,_,w2⟩:=DataW.trod_int Tryz.underlying2 f2
 have e3: ∃ao J cp,i= .slice ao J cp∧DataW.Trod enc Tryz.prog W 0 (fun _=>true) true 28 (.slice ao J cp) C.1 C.2:=by
  rcases open_slice Tryz.underlying28 N with ⟨f,_⟩|⟨a,l,c,m,k,D,Pl,f,_⟩
  ·simp at f
   subst f
   exact ⟨none,0,0,rfl,g,by simpa [Value.cells] using N⟩
  ·simp at f
   subst f
   exact ⟨some a,l,c,rfl,g,by simpa [Value.cells] using N⟩
 obtain ⟨ao,J,cp,rfl,ht⟩:=e3
 obtain ⟨zs,h1,S⟩:=zeU (⟨false,0,0⟩:On) On.cl On.Ok 3 Tryz.underlying28 zhX (fun _ _ _ K hx=>one_of K hx) ht
 simp at V Q R
 subst V Q R h1
 exact ⟨⟨d,s,t,ao,cp,zs⟩,rfl,zhH w0,w1,zfA w2,fun j y O=>(S j y O).1,fun y O=>by
  obtain ⟨j,Z⟩:=List.getElem?_of_mem O
  exact (S j y Z).2⟩
theorem open_crow {H:Type} {enc:TypeId×Value→H} {W:World} {ao:Option Addr} {len f:Nat} {d:DataW H} {p:List MemPlace}
  (h:DataW.Trod enc Tryz.prog W 0 (fun _=>true) true 22 (.slice ao len f) d p): ∃g,IsCRow W ao len f g:=by
 obtain ⟨g,y,i⟩:=zeU (⟨0,⟨#[]⟩,0,none,0,[]⟩:Ac) Ac.cl (Ac.Ok W) 4 Tryz.underlying22 zkH (fun _ _ _ o a=>act_of o a) h
 exact ⟨g,y,fun j x a=>(i j x a).1,fun x a=>by
  obtain ⟨j,q⟩:=List.getElem?_of_mem a
  exact (i j x q).2⟩
end
end Go.Proofs.YtkiehdigpchebaaGreatDoor
