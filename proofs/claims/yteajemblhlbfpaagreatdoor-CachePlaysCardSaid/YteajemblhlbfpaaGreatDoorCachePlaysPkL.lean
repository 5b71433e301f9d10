/-
  What the law CachePlays leans on, and its walk (12 of 21).
-/
import Derived.Lib.SmallJoins
import Derived.OpenShut
import Derived.Test.YteajemblhlbfpaaGreatDoorCachePlaysPkD
import Derived.Test.YteajemblhlbfpaaGreatDoorCachePlaysPkK
namespace Go.Proofs.YteajemblhlbfpaaGreatDoor
set_option maxRecDepth 100000
set_option maxHeartbeats 16000000
section
open Go.RowKit
section
variable {X:Type} {t:TypeId} {s:Nat} {cl:X→List Value}
theorem zgM (h: ∀x,(cl x).length=s): ∀(l:List X) (j:Nat) (x:X),l[j]? =some x→ ∀i,i<s→(l.flatMap cl)[j*s+i]? =(cl x)[i]?
 |[],j,x,f,i,hi=>by simp at f
 |y::l,0,x,f,i,hi=>by
  simp only [List.getElem?_cons_zero,Option.some.injEq] at f
  subst f
  rw [List.flatMap_cons,List.getElem?_append_left (by rw [h];omega)]
  simp
 |y::l,j+1,x,f,i,hi=>by
  have e:(j+1)*s+i=s+(j*s+i):=by rw [Nat.add_mul];omega
  rw [List.flatMap_cons,List.getElem?_append_right (by rw [h,e];omega),h,e,Nat.add_sub_cancel_left]
  exact zgM h l j x (by simpa using f) i hi
def OwnX (t:TypeId) (s:Nat) (cl:X→List Value) (w:World) (base:Nat) (v:Value) (l:List X):Prop:=w.ownsRow base t s v l.length (l.flatMap cl)
theorem OwnX.same {w w':World} {base:Nat} {v:Value} {l:List X} (h:OwnX t s cl w base v l) (o: ∀b,v.ownBlock=some b→w'.heap[b]? =w.heap[b]?):OwnX t s cl w' base v l:=by
 refine ⟨h.1,?_⟩
 rcases h.2 with q|⟨g,i,f,e,p,j,r⟩
 ·exact .inl q
 ·exact .inr ⟨g,i,f,e,p,(o g (by rw [e];rfl)).trans j,r⟩
theorem OwnX.keep {w w':World} {base:Nat} {v:Value} {l:List X} (h:OwnX t s cl w base v l) (g:Below w.heap.size w w'):OwnX t s cl w' base v l:=
 h.same fun b f=>g.block b (World.ownsRow.lt h b f).2
theorem OwnX.lower {w:World} {base f:Nat} {v:Value} {l:List X} (h:OwnX t s cl w base v l) (p:f≤base):OwnX t s cl w f v l:=by
 refine ⟨h.1,?_⟩
 rcases h.2 with q|⟨g,j,i,e,o,r⟩
 ·exact .inl q
 ·exact .inr ⟨g,j,i,e,Nat.le_trans p o,r⟩
theorem OwnX.snoc {w:World} {base:Nat} {v:Value} {l:List X} {x:X} (h:w.ownsRow base t s v (l.length+1) (l.flatMap cl++cl x)):OwnX t s cl w base v (l++[x]):=by
 unfold OwnX
 rw [List.flatMap_append,List.length_append]
 simpa using h
theorem OwnX.nil (w:World) (base:Nat):OwnX t s cl w base (.slice none 0 0) []:=World.ownsRow_nil _ _ _ _
theorem OwnX.form {w:World} {base:Nat} {v:Value} {l:List X} (h:OwnX t s cl w base v l): ∃a c,v= .slice a l.length c:=by
 rcases h.2 with ⟨e,i⟩|⟨g,j,f,e,_⟩
 ·exact ⟨_,_,by rw [e,i]⟩
 ·exact ⟨_,_,e⟩
def RowX (s:Nat) (cl:X→List Value) (w:World) (ao:Option Addr) (l:List X):Prop:= ∀(j:Nat) (x:X),l[j]? =some x→ ∃f,ao=some f∧ ∀i,i<s→w.cell? (f.add (j*s+i))=(cl x)[i]?
theorem OwnX.row (o: ∀x,(cl x).length=s) {w:World} {base:Nat} {ao:Option Addr} {n c:Nat} {l:List X} (h:OwnX t s cl w base (.slice ao n c) l):RowX s cl w ao l:=fun j x f=>by
 have y:=h
 rcases h.2 with ⟨e,B⟩|⟨g,A,p,e,_⟩
 ·have:l=[]:=List.eq_nil_of_length_eq_zero B
  subst this
  simp at f
 ·simp only [Value.slice.injEq] at e
  obtain ⟨rfl,_,_⟩:=e
  refine ⟨_,rfl,fun i hi=> ?_⟩
  have q:(cl x)[i]? =some ((cl x)[i]'(by rw [o];exact hi)):=List.getElem?_eq_getElem _
  rw [q]
  exact y.cells (g:=g) rfl (j*s+i) _ ((zgM o l j x f i hi).trans q)
theorem RowX.keep (g: ∀x,(cl x).length=s) {w w':World} {ao:Option Addr} {l:List X} (h:RowX s cl w ao l) (p:Below w.heap.size w w'):RowX s cl w' ao l:=fun j x y=>by
 obtain ⟨A,B,o⟩:=h j x y
 refine ⟨A,B,fun i hi=> ?_⟩
 have q:(cl x)[i]? =some ((cl x)[i]'(by rw [g];exact hi)):=List.getElem?_eq_getElem _
 have f:=o i hi
 rw [q] at f ⊢
 exact (p.cell (World.block_lt_of_cell? w _ f)).trans f
theorem OwnX.other {w:World} {base:Nat} {v:Value} {l:List X} (h:OwnX t s cl w base v l) {b:Nat} {c:Array Value} {i:TypeId} (p:w.heap[b]? =some (.cells c i)) (o:i≠t):v.ownBlock≠some b:=fun e=>by
 rcases h.2 with ⟨q,_⟩|⟨g,y,j,q,_,f,_⟩
 ·rw [q] at e;cases e
 ·rw [q] at e
  simp only [Value.ownBlock,Option.some.injEq] at e
  rw [e,p] at f
  injection f with f
  injection f with _ f
  exact o f
structure LX (t:TypeId) (s:Nat) (cl:X→List Value) (w x:World) (base:Nat) (L:List (Nat×Array Value×TypeId)) (v:Value) (m:List X):Prop where
 below:Below w.heap.size w x
 blks:Blks L x
 lt: ∀e∈L,e.1<base∨e.2.2≠t
 row:OwnX t s cl x base v m
 size:base≤x.heap.size
 old:w.heap.size≤base
theorem LX.keep {w x y:World} {base:Nat} {L:List (Nat×Array Value×TypeId)} {v:Value} {m:List X} (h:LX t s cl w x base L v m) (f:Below x.heap.size x y):LX t s cl w y base L v m:=
 ⟨zaS h.below f,h.blks.keep f,h.lt,h.row.keep f,Nat.le_trans h.size f.size,h.old⟩
theorem LX.app {w x y z:World} {base:Nat} {L:List (Nat×Array Value×TypeId)} {v o:Value} {m:List X} {e:X} (h:LX t s cl w x base L v m) (A:Below x.heap.size x y) (p:y.grownBy z v.ownBlock) (C:z.ownsRow base t s o (m.length+1) (m.flatMap cl++cl e)):LX t s cl w z base L o (m++[e]):=by
 have g:=h.keep A
 have i:Below base y z:=(Below.refl base y).grown p g.size (fun k B=>(World.ownsRow.lt g.row k B).1)
 refine ⟨g.below.trans (i.mono h.old),fun e j=> ?_,h.lt,OwnX.snoc C,Nat.le_trans g.size i.size,h.old⟩
 have f:=g.blks e j
 rcases h.lt e j with q|q
 ·exact (i.block e.1 q).trans f
 ·exact (p.block e.1 (zaH f) (fun r=>g.row.other f q r.symm)).trans f
theorem LX.first {w x:World} (L:List (Nat×Array Value×TypeId)) (g:Below w.heap.size w x) (f:Blks L x):LX t s cl w x x.heap.size L (.slice none 0 0) []:=
 ⟨g,f,fun e i=> .inl (zaH (f e i)),OwnX.nil _ _,Nat.le_refl _,g.size⟩
end
end
section
open Go.RowKit Go.ChangeShapes Go.WideShapes Go.Deep
theorem zeT {H:Type} {enc:TypeId×Value→H} {W:World} {t e:TypeId} {ao:Option Addr} {len G:Nat} {d:DataW H} {U:List MemPlace} {X:Type} (z:X) (cl:X→List Value) (ok:X→Prop) (s:Nat) (Y:Tryz.prog.underlying t=some (.slice e)) (Z:Tryz.prog.cellsOf e=s)
  (V: ∀(n:Nat) (cs:List Value) (x:DataW H×List MemPlace),cs.length=s→DataW.trod enc Tryz.prog W 0 (fun _=>true) true n e cs=some x→ ∃y,cs=cl y∧ok y)
  (h:DataW.Trod enc Tryz.prog W 0 (fun _=>true) true t (.slice ao len G) d U):
  ∃N:List X,N.length=len∧ ∀(j:Nat) (x:X),N[j]? =some x→(∃K,ao=some K∧ ∀i,i<s→W.cell? (K.add (j*s+i))=(cl x)[i]?)∧ok x:=by
 obtain ⟨fuel,R⟩:=h
 rcases open_slice Y R with ⟨f,_⟩|⟨a,l,c,m,n,D,Pl,f,_,hl,_,P,_,hi⟩
 ·simp [Value.cells] at f
  obtain ⟨rfl,rfl,rfl⟩:=f
  exact ⟨[],rfl,fun j x h=>by simp at h⟩
 ·simp [Value.cells] at f
  obtain ⟨rfl,rfl,rfl⟩:=f
  have g: ∀i,i<len→ ∃x:X,(∀k,k<s→W.cell? (a.add (i*s+k))=(cl x)[k]?)∧ok x:=fun i T=>by
   have E:i<m:=by rw [P];simp;omega
   obtain ⟨O,o,S⟩:=hi i E
   rw [Z] at o
   obtain ⟨_,J,C⟩:=World.cells?_some o
   obtain ⟨y,rfl,hy⟩:=V _ _ _ J S
   refine ⟨y,fun k hk=> ?_,hy⟩
   have:=C k (by omega)
   rw [Go.Deep.add_add] at this
   rw [this]
  refine ⟨(List.range len).map (fun i=>if q:i<len then Classical.choose (g i q) else z),by simp,fun j x A=> ?_⟩
  have I:j<len:=by
   have:=(List.getElem?_eq_some_iff.1 A).1
   simpa using this
  have B:x=Classical.choose (g j I):=by
   simp [I] at A
   exact A.symm
  have p:=Classical.choose_spec (g j I)
  rw [←B] at p
  exact ⟨⟨a,rfl,p.1⟩,p.2⟩
theorem zcU {n:Int} (h:(Lit.int .u64 n).wf=true): ∃k:Nat,n=k∧k<18446744073709551616:=by
 simp [Lit.wf,IntKind.min,IntKind.max,IntKind.bits,IntKind.signed] at h
 exact ⟨n.toNat,by omega,by omega⟩
theorem zfZ {n:Int} (h:(Lit.int .i64 n).wf=true): -9223372036854775808≤n∧n≤9223372036854775807:=by
 simp [Lit.wf,IntKind.min,IntKind.max,IntKind.bits,IntKind.signed] at h
 omega
theorem zfY:Tryz.prog.cellsOf 4=1:=by kernel_rfl
theorem zhS:Tryz.prog.cellsOf 9=1:=by kernel_rfl
theorem zkR {α:Type} {l:List α} (h:l.length=4): ∃a b c d,l=[a,b,c,d]:=by
 match l,h with
 |[a,b,c,d],_=>exact ⟨a,b,c,d,rfl⟩
structure On where
 is:Bool
 hi:Nat
 lo:Nat
def On.cl (x:On):List Value:=[.bool x.is,.int .u64 (x.hi:Nat),.int .u64 (x.lo:Nat)]
def On.Ok (x:On):Prop:=x.hi<18446744073709551616∧x.lo<18446744073709551616
theorem On.len (x:On):x.cl.length=3:=rfl
theorem ziT:Tryz.prog.cellsOf 70=3:=by kernel_rfl
theorem zeD:Tryz.prog.cellsOf 68=1:=by kernel_rfl
theorem zmH:Tryz.prog.cellsOf 5=1:=by kernel_rfl
theorem zjQ:Tryz.prog.cellsOf 2=1:=by kernel_rfl
theorem ziC:Tryz.prog.cellsOf 27=1:=by kernel_rfl
theorem znN {α:Type} {l:List α} (h:l.length=3): ∃a b c,l=[a,b,c]:=by
 match l,h with
 |[a,b,c],_=>exact ⟨a,b,c,rfl⟩
theorem one_of {H:Type} {enc:TypeId×Value→H} {W:World} {f:Nat→Bool} {n:Nat} {B:List Value} {x:DataW H×List MemPlace} (K:B.length=3) (h:DataW.trod enc Tryz.prog W 0 f true n 70 B=some x):
  ∃y:On,B=y.cl∧y.Ok:=by
 obtain ⟨R,g,_,_,_,p,A⟩:=DataW.trod_struct Tryz.underlying70 h
 obtain ⟨o,i,j,rfl⟩:=znN K
 obtain ⟨E,I,J,rfl⟩:=znN (show R.length=3 from p)
 have S:DataW.trod enc Tryz.prog W 0 f true g 4 [o]=some E:=by
  have q:DataW.trod enc Tryz.prog W 0 f true g 4 (([o,i,j].drop 0).take (Tryz.prog.cellsOf 4))=some E:=A 0 _ rfl
  rw [zfY] at q;exact q
 have N:DataW.trod enc Tryz.prog W 0 f true g 68 [i]=some I:=by
  have q:DataW.trod enc Tryz.prog W 0 f true g 68 (([o,i,j].drop 1).take (Tryz.prog.cellsOf 68))=some I:=A 1 _ rfl
  rw [zeD] at q;exact q
 have T:DataW.trod enc Tryz.prog W 0 f true g 68 [j]=some J:=by
  have q:DataW.trod enc Tryz.prog W 0 f true g 68 (([o,i,j].drop 2).take (Tryz.prog.cellsOf 68))=some J:=A 2 _ rfl
  rw [zeD] at q;exact q
 obtain ⟨v,C,_⟩:=DataW.trod_bool Tryz.underlying4 S
 obtain ⟨a,G,_,U⟩:=DataW.trod_int Tryz.underlying68 N
 obtain ⟨b,D,_,O⟩:=DataW.trod_int Tryz.underlying68 T
 simp at C G D
 subst C G D
 obtain ⟨hi,rfl,P⟩:=zcU U
 obtain ⟨lo,rfl,V⟩:=zcU O
 exact ⟨⟨v,hi,lo⟩,rfl,P,V⟩
structure Ac where
 d:Int
 nm:ByteArray
 at':Int
 la:Option Addr
 lc:Nat
 l:List On
def Ac.cl (x:Ac):List Value:=[.int .u8 x.d,.string x.nm,.int .i64 x.at',.slice x.la x.l.length x.lc]
theorem Ac.len (x:Ac):x.cl.length=4:=rfl
def Ac.Ok (w:World) (x:Ac):Prop:=(0≤x.d∧x.d<256)∧x.nm.size≤maxLen∧(-9223372036854775808≤x.at'∧x.at'≤9223372036854775807)∧RowX 3 On.cl w x.la x.l∧ ∀y∈x.l,y.Ok
theorem Ac.Ok.keep {w w':World} {x:Ac} (h:x.Ok w) (f:Below w.heap.size w w'):x.Ok w':=⟨h.1,h.2.1,h.2.2.1,RowX.keep On.len h.2.2.2.1 f,h.2.2.2.2⟩
def IsCRow (w:World) (a:Option Addr) (len _cap:Nat) (f:List Ac):Prop:=
 f.length=len∧RowX 4 Ac.cl w a f∧ ∀x∈f,x.Ok w
theorem IsCRow.keep {w wr:World} {a:Option Addr} {len f:Nat} {i:List Ac} (h:IsCRow w a len f i) (g:Below w.heap.size w wr):IsCRow wr a len f i:=
 ⟨h.1,RowX.keep Ac.len h.2.1 g,fun x j=>(h.2.2 x j).keep g⟩
theorem zjE:Tryz.prog.cellsOf 29=4:=by kernel_rfl
theorem zhV {n:Int} (h:(Lit.int .u8 n).wf=true):0≤n∧n<256:=by
 simp [Lit.wf,IntKind.min,IntKind.max,IntKind.bits,IntKind.signed] at h
 omega
theorem act_of {H:Type} {enc:TypeId×Value→H} {W:World} {n:Nat} {J:List Value} {x:DataW H×List MemPlace} (K:J.length=4) (h:DataW.trod enc Tryz.prog W 0 (fun _=>true) true n 29 J=some x):
  ∃y:Ac,J=y.cl∧y.Ok W:=by
 obtain ⟨ys,g,_,_,_,I,B⟩:=DataW.trod_struct Tryz.underlying29 h
 obtain ⟨o,A,p,i,rfl⟩:=zkR K
 obtain ⟨T,P,R,C,rfl⟩:=zkR (show ys.length=4 from I)
 have f0:DataW.trod enc Tryz.prog W 0 (fun _=>true) true g 5 [o]=some T:=by
  have q:DataW.trod enc Tryz.prog W 0 (fun _=>true) true g 5 (([o,A,p,i].drop 0).take (Tryz.prog.cellsOf 5))=some T:=B 0 _ rfl
  rw [zmH] at q;exact q
 have Y:DataW.trod enc Tryz.prog W 0 (fun _=>true) true g 9 [A]=some P:=by
  have q:DataW.trod enc Tryz.prog W 0 (fun _=>true) true g 9 (([o,A,p,i].drop 1).take (Tryz.prog.cellsOf 9))=some P:=B 1 _ rfl
  rw [zhS] at q;exact q
 have f2:DataW.trod enc Tryz.prog W 0 (fun _=>true) true g 2 [p]=some R:=by
  have q:DataW.trod enc Tryz.prog W 0 (fun _=>true) true g 2 (([o,A,p,i].drop 2).take (Tryz.prog.cellsOf 2))=some R:=B 2 _ rfl
  rw [zjQ] at q;exact q
 have E:DataW.trod enc Tryz.prog W 0 (fun _=>true) true g 27 [i]=some C:=by
  have q:DataW.trod enc Tryz.prog W 0 (fun _=>true) true g 27 (([o,A,p,i].drop 3).take (Tryz.prog.cellsOf 27))=some C:=B 3 _ rfl
  rw [ziC] at q;exact q
 obtain ⟨d,O,_,w0⟩:=DataW.trod_int Tryz.underlying5 f0
 obtain ⟨s,U,_,w1⟩:=DataW.trod_string Tryz.underlying9 Y
 obtain ⟨t,S,_,w2⟩:=DataW.trod_int Tryz.underlying2 f2
 have e3: ∃ao N cp,i= .slice ao N cp∧DataW.Trod enc Tryz.prog W 0 (fun _=>true) true 27 (.slice ao N cp) C.1 C.2:=by
  rcases open_slice Tryz.underlying27 E with ⟨f,_⟩|⟨a,l,c,m,k,D,Pl,f,_⟩
  ·simp at f
   subst f
   exact ⟨none,0,0,rfl,g,by simpa [Value.cells] using E⟩
  ·simp at f
   subst f
   exact ⟨some a,l,c,rfl,g,by simpa [Value.cells] using E⟩
 obtain ⟨ao,N,cp,rfl,ht⟩:=e3
 obtain ⟨zs,h1,V⟩:=zeT (⟨false,0,0⟩:On) On.cl On.Ok 3 Tryz.underlying27 ziT (fun _ _ _ K Z=>one_of K Z) ht
 simp at O U S
 subst O U S h1
 exact ⟨⟨d,s,t,ao,cp,zs⟩,rfl,zhV w0,w1,zfZ w2,fun j y G=>(V j y G).1,fun y G=>by
  obtain ⟨j,hj⟩:=List.getElem?_of_mem G
  exact (V j y hj).2⟩
theorem open_crow {H:Type} {enc:TypeId×Value→H} {W:World} {ao:Option Addr} {len g:Nat} {d:DataW H} {y:List MemPlace}
  (h:DataW.Trod enc Tryz.prog W 0 (fun _=>true) true 22 (.slice ao len g) d y): ∃i,IsCRow W ao len g i:=by
 obtain ⟨i,B,o⟩:=zeT (⟨0,⟨#[]⟩,0,none,0,[]⟩:Ac) Ac.cl (Ac.Ok W) 4 Tryz.underlying22 zjE (fun _ _ _ p f=>act_of p f) h
 exact ⟨i,B,fun j x f=>(o j x f).1,fun x f=>by
  obtain ⟨j,A⟩:=List.getElem?_of_mem f
  exact (o j x A).2⟩
end
end Go.Proofs.YteajemblhlbfpaaGreatDoor
