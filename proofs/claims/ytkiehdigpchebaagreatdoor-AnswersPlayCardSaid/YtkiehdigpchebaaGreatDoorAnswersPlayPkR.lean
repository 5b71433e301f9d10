/-
  What the law AnswersPlay leans on, and its walk (18 of 22).
-/
import Derived.Deep.Slices
import Derived.Deep.Fields
import Derived.ChangeSame
import Derived.Deep.AppendLies
import Derived.Deep.RegionHeld3
import Derived.Test.YtkiehdigpchebaaGreatDoorAnswersPlayPkL
import Derived.Test.YtkiehdigpchebaaGreatDoorAnswersPlayPkQ
namespace Go.Proofs.YtkiehdigpchebaaGreatDoor
set_option maxRecDepth 100000
set_option maxHeartbeats 16000000
abbrev zqM := @Lib.hid
abbrev zqN := @Nat.le_refl
abbrev zqO := @Go.RowKit.Below.refl
section
open Go.RowKit Go.ChangeShapes Go.WideShapes Go.Deep
theorem zkD {H:Type} {enc:TypeId×Value→H} {W:World} {t e:TypeId} {ao:Option Addr} {len E:Nat} {d:DataW H} {S:List MemPlace} {X:Type} (z:X) (cl:X→List Value) (ok:X→Prop) (s:Nat) (U:Tryz.prog.underlying t=some (.slice e)) (hc:Tryz.prog.cellsOf e=s)
  (h1: ∀(n:Nat) (cs:List Value) (x:DataW H×List MemPlace),cs.length=s→DataW.trod enc Tryz.prog W 0 (fun _=>true) true n e cs=some x→ ∃y,cs=cl y∧ok y)
  (h:DataW.Trod enc Tryz.prog W 0 (fun _=>true) true t (.slice ao len E) d S):
  ∃zs:List X,zs.length=len∧(ao=none→E=0)∧(len=0∨ ∃R p,d= .slice R p∧R.length=len)∧ ∀(j:Nat) (x:X),zs[j]? =some x→(∃ad,ao=some ad∧ ∀i,i<s→W.cell? (ad.add (j*s+i))=(cl x)[i]?)∧ok x:=by
 obtain ⟨fuel,hf⟩:=h
 rcases open_slice U hf with ⟨f,_⟩|⟨a,l,c,m,n,D,Pl,f,_,hl,_,Z,hd,hi⟩
 ·simp [Value.cells] at f
  obtain ⟨rfl,rfl,rfl⟩:=f
  exact ⟨[],rfl,fun _=>rfl,.inl rfl,fun j x h=>by simp at h⟩
 ·simp [Value.cells] at f
  obtain ⟨rfl,rfl,rfl⟩:=f
  have o: ∀i,i<len→ ∃x:X,(∀k,k<s→W.cell? (a.add (i*s+k))=(cl x)[k]?)∧ok x:=fun i qb=>by
   have N:i<m:=by rw [Z];simp;omega
   obtain ⟨qa,C,ht⟩:=hi i N
   rw [hc] at C
   obtain ⟨_,I,K⟩:=World.cells?_some C
   obtain ⟨y,rfl,V⟩:=h1 _ _ _ I ht
   refine ⟨y,fun k hk=> ?_,V⟩
   have:=K k (by omega)
   rw [Go.Deep.add_add] at this
   rw [this]
  refine ⟨(List.range len).map (fun i=>if q:i<len then Classical.choose (o i q) else z),by simp,fun h=>(by cases h),.inr ⟨_,_,(Prod.mk.inj hd).1,by simp⟩,fun j x O=> ?_⟩
  have G:j<len:=by
   have:=(List.getElem?_eq_some_iff.1 O).1
   simpa using this
  have J:x=Classical.choose (o j G):=by
   simp [G] at O
   exact O.symm
  have p:=Classical.choose_spec (o j G)
  rw [←J] at p
  exact ⟨⟨a,rfl,p.1⟩,p.2⟩
theorem zmZ:Tryz.prog.cellsOf 96=3:=by kernel_rfl
theorem zmU:Tryz.prog.cellsOf 57=3:=by kernel_rfl
theorem znM {H:Type} {enc:TypeId×Value→H} {W:World} {n:Nat} {c:Value} {y:DataW H×List MemPlace} (f:DataW.trod enc Tryz.prog W 0 (fun _=>true) true n 28 [c]=some y):
  ∃(ao:Option Addr) (cp:Nat) (zs:List On),c= .slice ao zs.length cp∧RowX 3 On.cl W ao zs∧ ∀z∈zs,z.Ok:=by
 have J: ∃ao p cp,c= .slice ao p cp∧DataW.Trod enc Tryz.prog W 0 (fun _=>true) true 28 (.slice ao p cp) y.1 y.2:=by
  rcases open_slice Tryz.underlying28 f with ⟨d,_⟩|⟨a,l,c,m,k,D,O,d,_⟩
  ·simp at d
   subst d
   exact ⟨none,0,0,rfl,n,by simpa [Value.cells] using f⟩
  ·simp at d
   subst d
   exact ⟨some a,l,c,rfl,n,by simpa [Value.cells] using f⟩
 obtain ⟨ao,p,cp,rfl,G⟩:=J
 obtain ⟨zs,K,C⟩:=zeT (⟨false,0,0⟩:On) On.cl On.Ok 3 Tryz.underlying28 zlF (fun _ _ _ I N=>one_of I N) G
 subst K
 exact ⟨ao,cp,zs,rfl,fun j z o=>(C j z o).1,fun z o=>by
  obtain ⟨j,E⟩:=List.getElem?_of_mem o
  exact (C j z E).2⟩
def AnOk (w:World) (x:AnG On):Prop:=(-9223372036854775808≤x.ttl∧x.ttl≤9223372036854775807)∧RowX 3 On.cl w x.la x.l∧ ∀y∈x.l,y.Ok
theorem raw_of {H:Type} {enc:TypeId×Value→H} {W:World} {n:Nat} {cs:List Value} {x:DataW H×List MemPlace} (U:cs.length=3) (h:DataW.trod enc Tryz.prog W 0 (fun _=>true) true n 96 cs=some x):
  ∃y:AnG On,cs=y.cl∧AnOk W y:=by
 obtain ⟨O,d,_,_,_,o,p⟩:=DataW.trod_struct Tryz.underlying96 h
 obtain ⟨c0,c1,f,rfl⟩:=zdP U
 obtain ⟨G,J,I,rfl⟩:=zdP (show O.length=3 from o)
 have K:DataW.trod enc Tryz.prog W 0 (fun _=>true) true d 4 [c0]=some G:=by
  have q:DataW.trod enc Tryz.prog W 0 (fun _=>true) true d 4 (([c0,c1,f].drop 0).take (Tryz.prog.cellsOf 4))=some G:=p 0 _ rfl
  rw [zcB] at q;exact q
 have V:DataW.trod enc Tryz.prog W 0 (fun _=>true) true d 2 [c1]=some J:=by
  have q:DataW.trod enc Tryz.prog W 0 (fun _=>true) true d 2 (([c0,c1,f].drop 1).take (Tryz.prog.cellsOf 2))=some J:=p 1 _ rfl
  rw [zeU] at q;exact q
 have S:DataW.trod enc Tryz.prog W 0 (fun _=>true) true d 28 [f]=some I:=by
  have q:DataW.trod enc Tryz.prog W 0 (fun _=>true) true d 28 (([c0,c1,f].drop 2).take (Tryz.prog.cellsOf 28))=some I:=p 2 _ rfl
  rw [ziZ] at q;exact q
 obtain ⟨v,C,_⟩:=DataW.trod_bool Tryz.underlying4 K
 obtain ⟨t,E,_,N⟩:=DataW.trod_int Tryz.underlying2 V
 obtain ⟨ao,cp,zs,R,h1,Z⟩:=znM S
 simp at C E
 subst C E R
 exact ⟨⟨v,t,ao,cp,zs⟩,rfl,zdE N,h1,Z⟩
def IsSRw (w:World) (a:Option Addr) (len _cap:Nat) (zs:List (AnG On)):Prop:=
 zs.length=len∧len≤8796093021952∧AnsX 3 On.cl w a zs∧ ∀x∈zs,(-9223372036854775808≤x.ttl∧x.ttl≤9223372036854775807)∧ ∀y∈x.l,y.Ok
theorem IsSRw.keep {w wr:World} {a:Option Addr} {len d:Nat} {zs:List (AnG On)} (h:IsSRw w a len d zs) (f:Below w.heap.size w wr):IsSRw wr a len d zs:=
 ⟨h.1,h.2.1,h.2.2.1.keep On.len f,h.2.2.2⟩
theorem zkV:Tryz.prog.bytesOf 96=40:=by kernel_rfl
theorem open_swrow {H:Type} {enc:TypeId×Value→H} {W:World} {ao:Option Addr} {len p:Nat} {d:DataW H} {J:List MemPlace}
  (h:DataW.Trod enc Tryz.prog W 0 (fun _=>true) true 44 (.slice ao len p) d J) (K: ∀E C,d= .slice E C→(E.length+C.length)*Tryz.prog.bytesOf 96≤reachBytes): ∃zs,IsSRw W ao len p zs:=by
 obtain ⟨zs,S,_,U,I⟩:=zkD (⟨false,0,none,0,[]⟩:AnG On) AnG.cl (AnOk W) 3 Tryz.underlying44 zmZ (fun _ _ _ R f=>raw_of R f) h
 have o:len≤8796093021952:=by
  rcases U with q|⟨E,C,q,e⟩
  ·omega
  ·have:=K E C q
   rw [zkV] at this
   have O:reachBytes=140737488351232:=rfl
   rw [O] at this
   omega
 have G: ∀x∈zs,AnOk W x:=fun x f=>by
  obtain ⟨j,N⟩:=List.getElem?_of_mem f
  exact (I j x N).2
 exact ⟨zs,S,o,⟨fun j x f=>(I j x f).1,fun x f=>(G x f).2.1⟩,fun x f=>⟨(G x f).1,(G x f).2.2⟩⟩
structure Ak where
 ask:Bool
 nm:ByteArray
 now:Int
def Ak.cl (x:Ak):List Value:=[.bool x.ask,.string x.nm,.int .i64 x.now]
theorem Ak.len (x:Ak):x.cl.length=3:=rfl
def Ak.Ok (x:Ak):Prop:=x.nm.size≤maxLen∧(-9223372036854775808≤x.now∧x.now≤9223372036854775807)
theorem ask_of {H:Type} {enc:TypeId×Value→H} {W:World} {n:Nat} {cs:List Value} {x:DataW H×List MemPlace} (U:cs.length=3) (h:DataW.trod enc Tryz.prog W 0 (fun _=>true) true n 57 cs=some x):
  ∃y:Ak,cs=y.cl∧y.Ok:=by
 obtain ⟨R,d,_,_,_,o,p⟩:=DataW.trod_struct Tryz.underlying57 h
 obtain ⟨c0,c1,f,rfl⟩:=zdP U
 obtain ⟨G,K,J,rfl⟩:=zdP (show R.length=3 from o)
 have N:DataW.trod enc Tryz.prog W 0 (fun _=>true) true d 4 [c0]=some G:=by
  have q:DataW.trod enc Tryz.prog W 0 (fun _=>true) true d 4 (([c0,c1,f].drop 0).take (Tryz.prog.cellsOf 4))=some G:=p 0 _ rfl
  rw [zcB] at q;exact q
 have V:DataW.trod enc Tryz.prog W 0 (fun _=>true) true d 9 [c1]=some K:=by
  have q:DataW.trod enc Tryz.prog W 0 (fun _=>true) true d 9 (([c0,c1,f].drop 1).take (Tryz.prog.cellsOf 9))=some K:=p 1 _ rfl
  rw [zjE] at q;exact q
 have S:DataW.trod enc Tryz.prog W 0 (fun _=>true) true d 2 [f]=some J:=by
  have q:DataW.trod enc Tryz.prog W 0 (fun _=>true) true d 2 (([c0,c1,f].drop 2).take (Tryz.prog.cellsOf 2))=some J:=p 2 _ rfl
  rw [zeU] at q;exact q
 obtain ⟨v,C,_⟩:=DataW.trod_bool Tryz.underlying4 N
 obtain ⟨t,E,_,O⟩:=DataW.trod_string Tryz.underlying9 V
 obtain ⟨k,I,_,Z⟩:=DataW.trod_int Tryz.underlying2 S
 simp at C E I
 subst C E I
 exact ⟨⟨v,t,k⟩,rfl,O,zdE Z⟩
def IsKRow (w:World) (a:Option Addr) (len _cap:Nat) (zs:List Ak):Prop:=
 zs.length=len∧RowX 3 Ak.cl w a zs∧ ∀x∈zs,x.Ok
theorem IsKRow.keep {w wr:World} {a:Option Addr} {len d:Nat} {zs:List Ak} (h:IsKRow w a len d zs) (f:Below w.heap.size w wr):IsKRow wr a len d zs:=
 ⟨h.1,RowX.keep Ak.len h.2.1 f,h.2.2⟩
theorem open_krow {H:Type} {enc:TypeId×Value→H} {W:World} {ao:Option Addr} {len f:Nat} {d:DataW H} {C:List MemPlace}
  (h:DataW.Trod enc Tryz.prog W 0 (fun _=>true) true 45 (.slice ao len f) d C): ∃zs,IsKRow W ao len f zs:=by
 obtain ⟨zs,I,p⟩:=zeT (⟨false,⟨#[]⟩,0⟩:Ak) Ak.cl Ak.Ok 3 Tryz.underlying45 zmU (fun _ _ _ G o=>ask_of G o) h
 exact ⟨zs,I,fun j x o=>(p j x o).1,fun x o=>by
  obtain ⟨j,E⟩:=List.getElem?_of_mem o
  exact (p j x E).2⟩
theorem RowX.at3K {wr:World} {a:Option Addr} {zs:List Ak} (h:RowX 3 Ak.cl wr a zs) {j:Nat} (d:j<zs.length):
  ∃(ad:Addr) (_:a=some ad) (x:Ak),zs[j]? =some x∧x∈zs∧wr.cell? (ad.add (j*3))=some (.bool x.ask)∧wr.cell? ⟨(ad.add (j*3)).block,(ad.add (j*3)).off+1,none⟩=some (.string x.nm)∧wr.cell? ⟨(ad.add (j*3)).block,(ad.add (j*3)).off+2,none⟩=some (.int .i64 x.now):=by
 obtain ⟨ad,C,f⟩:=h j zs[j] (List.getElem?_eq_getElem d)
 have p:ad.add (j*3+1)=⟨(ad.add (j*3)).block,(ad.add (j*3)).off+1,none⟩:=by rw [←Go.Deep.add_add];rfl
 have o:ad.add (j*3+2)=⟨(ad.add (j*3)).block,(ad.add (j*3)).off+2,none⟩:=by rw [←Go.Deep.add_add];rfl
 refine ⟨ad,C,zs[j],List.getElem?_eq_getElem d,List.getElem_mem d,?_,?_,?_⟩
 ·exact f 0 (by omega)
 ·rw [←p];exact f 1 (by omega)
 ·rw [←o];exact f 2 (by omega)
end
section
open Go.RowKit Go.Maps Go.Sort Go.Shelf Go.Lib
def zfV (Z:List (AnG On)):Bool:=Z.all (fun x=>decide (x.l.length≤30))&&decide (Z.length≤40)
theorem zoC {Z:List (AnG On)} {x:AnG On} (h:x∈Z) (d:30<x.l.length):zfV Z=false:=by
 unfold zfV
 rw [show Z.all (fun x=>decide (x.l.length≤30))=false from List.all_eq_false.2 ⟨x,h,by simpa using d⟩,Bool.false_and]
theorem zoT (ao:Option Addr) (cp:Nat) (Z:List (AnG On)) (w:World) (h:AnsX 3 On.cl w ao Z) (hl:Z.length≤8796093021952):
  Calls Tryz.prog 14 #[.slice ao Z.length cp] w fun e w'=>e= .returned (.bool (zfV Z))∧Below w.heap.size w w':=by
 have HA:=zqM h
 have qb:(Z.length:Int)≤8796093021952:=by omega
 clear h
 go_enter Tryz.func14,Tryz.ntmps14
 go_wp2
 go_loopw [7] (fun i wr=> ∃k:Nat,k≤Z.length∧i= .int .i64 k∧Hid ((Z.take k).all (fun x=>decide (x.l.length≤30))=true)∧Hid (Below w.heap.size w wr)) (fun i _=>Z.length - (intOf i).toNat)
 case atStart=>exact ⟨0,Nat.zero_le _,rfl,rfl,zqO _ _⟩
 case round=>
  obtain ⟨k,hk,rfl,I,C⟩:=hrel
  by_cases E:k<Z.length
  ·have qa:(k:Int)<Z.length:=by omega
   obtain ⟨ad,rfl,x,hx,G,V,r1,U⟩:=(RowX.keep AnG.len HA.out.row C.out).at3G E
   have HN:Hid (Z.take (k+1)=Z.take k++[x]):=by show _=_;rw [List.take_add_one,hx];rfl
   have p:=zqM (fun q=>zoC G q)
   clear hx G
   obtain ⟨bf,bt,S,bc,f⟩:=x
   dsimp only at V r1 U p
   obtain ⟨y,H⟩: ∃y,y=wr.alloc (.cells #[.bool bf,.int .i64 bt,.slice S f.length bc] 96):=⟨_,rfl⟩
   have R:Below wr.heap.size wr y:=by rw [H];exact (zqO _ _).alloc (zqN _) _
   have d:y.heap[wr.heap.size]? =some (.cells #[.bool bf,.int .i64 bt,.slice S f.length bc] 96):=by rw [H];exact heap_alloc_new wr _
   have o:=zqM (C.out.trans (R.mono C.out.size))
   have e2:=zaA d 2
   simp at e2
   clear d R C
   go_upto_region 4 with fail
   rw [←H]
   clear H V r1 U
   by_cases g:30<f.length
   ·have gz:(30:Int)<f.length:=by omega
    have O:Hid (zfV Z=false):=p.out g
    go_wp2
    go_ret
    exact ⟨by rw [O.out];rfl,o.out⟩
   ·have gz: ¬(30:Int)<f.length:=by omega
    have K:Hid ((Z.take (k+1)).all (fun x=>decide (x.l.length≤30))=true):=by
     show _=_
     rw [HN.out,List.all_append,I.out,Bool.true_and,List.all_cons,List.all_nil,Bool.and_true]
     exact decide_eq_true (by show f.length≤30;omega)
    clear g
    go_wp2
    go_roundw
    case rel=>exact ⟨k+1,by omega,by go_num,K,o⟩
    case measure=>simp [intOf];omega
  ·have J:k=Z.length:=by omega
   subst J
   rw [List.take_length] at I
   clear E
   have N:Hid (zfV Z=decide ((Z.length:Int)≤40)):=by
    show _=_
    unfold zfV
    rw [I.out,Bool.true_and]
    exact decide_eq_decide.2 (by omega)
   go_wp2
   go_ret
   exact ⟨by rw [N.out];rfl,C.out⟩
section
variable {X Y:Type} {t t':TypeId} {s s':Nat} {cl:X→List Value} {cl':Y→List Value}
theorem OwnX.typed {w:World} {base:Nat} {v:Value} {l:List X} (h:OwnX t s cl w base v l) {b:Nat} (d:v.ownBlock=some b): ∃cs,w.heap[b]? =some (.cells cs t):=by
 rcases h.2 with ⟨e,_⟩|⟨g,f,cur,e,_,o,_⟩
 ·rw [e] at d;cases d
 ·rw [e] at d
  simp only [Value.ownBlock,Option.some.injEq] at d
  exact ⟨cur,d▸o⟩
def TyX (t:TypeId) (s:Nat) (cl:X→List Value) (x:World) (a:Option Addr) (l:List X):Prop:=RowX s cl x a l∧ ∀ad,a=some ad→ ∃cs,x.heap[ad.block]? =some (.cells cs t)
theorem TyX.of (d: ∀x,(cl x).length=s) {w:World} {base:Nat} {a:Option Addr} {n c:Nat} {l:List X} (h:OwnX t s cl w base (.slice a n c) l):TyX t s cl w a l:=
 ⟨h.row d,fun ad f=>h.typed (by rw [f];rfl)⟩
theorem TyX.keep (o: ∀x,(cl x).length=s) {x y:World} {a:Option Addr} {l:List X} (h:TyX t s cl x a l) (f:Below x.heap.size x y):TyX t s cl y a l:=
 ⟨RowX.keep o h.1 f,fun ad p=>by obtain ⟨cs,d⟩:=h.2 ad p;exact ⟨cs,(f.block _ (zaG d)).trans d⟩⟩
theorem zcI {x y:World} {b:Option Nat} (h:x.grownBy y b):Only b.toList x y:=
 ⟨h.os,h.tape,h.output,h.size,fun k f d=>h.block k f (fun e=>d (by rw [←e];exact List.mem_singleton.2 rfl))⟩
theorem TyX.grown (E: ∀x,(cl x).length=s) {x y:World} {a:Option Addr} {l:List X} (h:TyX t s cl x a l) {base:Nat} {v:Value} {m:List Y} (G:OwnX t' s' cl' x base v m) (o:x.grownBy y v.ownBlock) (H:t≠t'):TyX t s cl y a l:=by
 have p: ∀ad,a=some ad→ad.block∉v.ownBlock.toList:=fun ad d C=>by
  obtain ⟨cs,f⟩:=h.2 ad d
  exact G.other f H (by simpa using C)
 exact ⟨RowX.only E h.1 (fun ad d _=>p ad d) (zcI o),fun ad d=>by
  obtain ⟨cs,f⟩:=h.2 ad d
  exact ⟨cs,((zcI o).block _ (zaG f) (p ad d)).trans f⟩⟩
theorem OwnX.beside {x y:World} {base d:Nat} {v f:Value} {l:List X} {m:List Y} (h:OwnX t s cl x base v l) (E:OwnX t' s' cl' x d f m) (H:x.grownBy y f.ownBlock) (p:t≠t'):OwnX t s cl y base v l:=
 h.same fun b C=>by
  obtain ⟨cs,o⟩:=h.typed C
  exact (zcI H).block _ (zaG o) (fun G=>E.other o p (by simpa using G))
end
theorem zgA {X:Type} {t t':TypeId} {s:Nat} {cl:X→List Value} {x y:World} {base:Nat} {v:Value} {l:List X} (o:OwnX t s cl x base v l) (C:x.grownBy y v.ownBlock) {b:Nat} {cs:Array Value} (d:x.heap[b]? =some (.cells cs t')) (f:t'≠t):y.heap[b]? =some (.cells cs t'):=
 ((zcI C).block b (zaG d) (fun p=>o.other d f (by simpa using p))).trans d
theorem zaP {x:World} {b:Nat} {u v z:Value} {t:TypeId} (h:x.heap[b]? =some (.cells #[u,v,z] t)):x.cell? ⟨b,0,none⟩=some u∧x.cell? ⟨b,1,none⟩=some v∧x.cell? ⟨b,2,none⟩=some z:=by
 have d:=zaA h 0
 have f:=zaA h 1
 have o:=zaA h 2
 simp at d f o
 exact ⟨d,f,o⟩
structure MkZ (w x:World) (v1 v2:Value) (P D:List (AnG AZ)):Prop where
 below:Below w.heap.size w x
 own1:OwnX 94 3 AnG.cl x w.heap.size v1 P
 own2:OwnX 98 3 AnG.cl x w.heap.size v2 D
 sub1: ∀a∈P,TyX 38 1 clZ x a.la a.l
 sub2: ∀a∈D,TyX 72 3 clR x a.la a.l
theorem MkZ.keep {w x y:World} {v1 v2:Value} {P D:List (AnG AZ)} (h:MkZ w x v1 v2 P D) (d:Below x.heap.size x y):MkZ w y v1 v2 P D:=
 ⟨zaE h.below d,h.own1.keep d,h.own2.keep d,fun a f=>(h.sub1 a f).keep zaI d,fun a f=>(h.sub2 a f).keep zaJ d⟩
theorem MkZ.app1 {w x z:World} {v1 v2 o:Value} {P D:List (AnG AZ)} {a:AnG AZ} (h:MkZ w x v1 v2 P D) (d:x.grownBy z v1.ownBlock) (C:z.ownsRow w.heap.size 94 3 o (P.length+1) (P.flatMap AnG.cl++a.cl)) (G:TyX 38 1 clZ x a.la a.l):MkZ w z o v2 (P++[a]) D:=by
 have E:Below w.heap.size x z:=(zqO _ x).grown d h.below.size (fun k p=>(World.ownsRow.lt h.own1 k p).1)
 refine ⟨h.below.trans E,OwnX.snoc C,h.own2.beside h.own1 d (by decide),fun b f=> ?_,fun b f=>(h.sub2 b f).grown zaJ h.own1 d (by decide)⟩
 rcases List.mem_append.1 f with q|q
 ·exact (h.sub1 b q).grown zaI h.own1 d (by decide)
 ·rw [List.mem_singleton.1 q];exact G.grown zaI h.own1 d (by decide)
theorem MkZ.app2 {w x z:World} {v1 v2 o:Value} {P D:List (AnG AZ)} {a:AnG AZ} (h:MkZ w x v1 v2 P D) (d:x.grownBy z v2.ownBlock) (C:z.ownsRow w.heap.size 98 3 o (D.length+1) (D.flatMap AnG.cl++a.cl)) (G:TyX 72 3 clR x a.la a.l):MkZ w z v1 o P (D++[a]):=by
 have E:Below w.heap.size x z:=(zqO _ x).grown d h.below.size (fun k p=>(World.ownsRow.lt h.own2 k p).1)
 refine ⟨h.below.trans E,h.own1.beside h.own2 d (by decide),OwnX.snoc C,fun b f=>(h.sub1 b f).grown zaI h.own2 d (by decide),fun b f=> ?_⟩
 rcases List.mem_append.1 f with q|q
 ·exact (h.sub2 b q).grown zaJ h.own2 d (by decide)
 ·rw [List.mem_singleton.1 q];exact G.grown zaJ h.own2 d (by decide)
def inZ (x:AnG On):Bool×Int×List AZ:=(x.fail,x.ttl,x.l.map On.az)
theorem zpG:(Tryz.prog.info? 98).map (fun i=>(i.zero,i.size,i.bytes))=some (some (.agg #[.bool false,.int .i64 0,.slice none 0 0]),3,40):=by kernel_rfl
theorem zjF (ao:Option Addr) (cp:Nat) (Z:List (AnG On)) (w:World) (h:AnsX 3 On.cl w ao Z) (hl:Z.length≤40) (hz: ∀x∈Z,x.l.length≤30) (qz: ∀x∈Z,∀y∈x.l,y.Ok):
  Calls Tryz.prog 15 #[.slice ao Z.length cp] w fun e w'=> ∃v1 v2 P D,e= .returned (.tuple #[v1,v2])∧MkZ w w' v1 v2 P D∧P.map AnG.key=Z.map inZ∧D.map AnG.key=Z.map inZ:=by
 have HA:=zqM h
 have HZ:=zqM hz
 have qI:=zqM qz
 have qW:(Z.length:Int)≤40:=by omega
 clear h hz qz
 obtain ⟨i0,qC,qS,qB,qP⟩:=zaW zoW
 obtain ⟨i1,qR,qO,qQ,qN⟩:=zaW zpG
 go_enter Tryz.func15,Tryz.ntmps15
 go_wp2
 go_loopw [4,5,10] (fun v1 v2 i wr=> ∃(k:Nat) (P D:List (AnG AZ)),k≤Z.length∧i= .int .i64 k∧Hid (MkZ w wr v1 v2 P D)∧Hid (P.map AnG.key=(Z.take k).map inZ)∧Hid (D.map AnG.key=(Z.take k).map inZ)) (fun _ _ i _=>Z.length - (intOf i).toNat)
 case atStart=>exact ⟨0,[],[],Nat.zero_le _,rfl,⟨zqO _ _,OwnX.nil _ _,OwnX.nil _ _,(fun _ h=>nomatch h),(fun _ h=>nomatch h)⟩,rfl,rfl⟩
 case round=>
  obtain ⟨k,P,D,hk,rfl,HM,HP,HD⟩:=hrel
  by_cases qA:k<Z.length
  ·have qU:(k:Int)<Z.length:=by omega
   obtain ⟨ad,rfl,x,hx,qd,r0,r1,r2⟩:=(RowX.keep AnG.len HA.out.row HM.out.below).at3G qA
   have HN:Hid (Z.take (k+1)=Z.take k++[x]):=by show _=_;rw [List.take_add_one,hx];rfl
   have qb:=HZ.out x qd
   have qq:=zqM (qI.out x qd)
   have qk:Hid (RowX 3 On.cl w x.la x.l):=HA.out.sub x qd
   have qe:Hid (inZ x=(x.fail,x.ttl,x.l.map On.az)):=rfl
   have qY:P.length≤40:=by
    have:=congrArg List.length HP.out
    rw [List.length_map,List.length_map,List.length_take] at this
    omega
   have qT:D.length≤40:=by
    have:=congrArg List.length HD.out
    rw [List.length_map,List.length_map,List.length_take] at this
    omega
   obtain ⟨ix,qj⟩: ∃q,q=inZ x:=⟨_,rfl⟩
   have qy:Hid (inZ x=ix):=qj.symm
   rw [←qj] at qe
   clear hx qd qj
   obtain ⟨bf,bt,ba,bc,K⟩:=x
   dsimp only at r0 r1 r2 qb qq qk qe
   obtain ⟨y,hy⟩: ∃y,y=wr.alloc (.cells #[.bool bf,.int .i64 bt,.slice ba K.length bc] 96):=⟨_,rfl⟩
   have hb:Below wr.heap.size wr y:=by rw [hy];exact (zqO _ _).alloc (zqN _) _
   have E:y.heap[wr.heap.size]? =some (.cells #[.bool bf,.int .i64 bt,.slice ba K.length bc] 96):=by rw [hy];exact heap_alloc_new wr _
   have qf:=zqM (HM.out.keep hb)
   have qi:=zqM E
   have e0:=zaA E 0
   have e1:=zaA E 1
   have e2:=zaA E 2
   simp at e0 e1 e2
   have f:Hid (∀W,Below y.heap.size y W→W.cell? ⟨wr.heap.size,0,none⟩=some (.bool bf)∧W.cell? ⟨wr.heap.size,1,none⟩=some (.int .i64 bt)∧W.cell? ⟨wr.heap.size,2,none⟩=some (.slice ba K.length bc)):=fun W hW=>⟨(hW.cell (World.block_lt_of_cell? y _ e0)).trans e0,(hW.cell (World.block_lt_of_cell? y _ e1)).trans e1,(hW.cell (World.block_lt_of_cell? y _ e2)).trans e2⟩
   have qM:=zqM qb
   obtain ⟨zs,J⟩: ∃z,z=K.map On.az:=⟨_,rfl⟩
   have qH:Hid (zs.length≤30):=by show _≤_;rw [J,List.length_map];exact qb
   have qJ:Hid (K.map On.az=zs):=J.symm
   have qF:Hid (∀z∈zs,z.Ok):=fun z hz=>by rw [J] at hz;obtain ⟨u,hu,rfl⟩:=List.mem_map.1 hz;exact On.ok (qq.out u hu)
   have qg:Hid (ix=(bf,bt,zs)):=by show _=_;rw [qe.out,J]
   have V:Hid (∀W,Below y.heap.size y W→Calls Tryz.prog 8 #[.slice ba K.length bc] W fun e w'=> ∃p G,e= .returned (.slice p zs.length G)∧TyX 38 1 clZ w' p zs∧Below y.heap.size y w'):=fun W hW=>(zdR ba bc K W (RowX.keep On.len qk.out (qf.out.below.trans (hW.mono qf.out.below.size))) (by omega)).mono (by
    rw [←J]
    rintro e w' ⟨v,rfl,ho,qn⟩
    obtain ⟨p,G,rfl⟩:=ho.form
    exact ⟨p,G,rfl,TyX.of zaI ho,zaE hW qn⟩)
   clear E hb HM J qb qe
   go_upto_region 6 with fail
   rw [←hy]
   clear hy r0 r1 r2
   go_wp2_with fail
   go_region_held3 (fun W=>W.cell? ⟨wr.heap.size,0,none⟩=some (.bool bf)∧W.cell? ⟨wr.heap.size,1,none⟩=some (.int .i64 bt)∧W.cell? ⟨wr.heap.size,2,none⟩=some (.slice ba K.length bc)) (first|exact f.out _ (zaF _)|exact f.out _ C|exact f.out _ qm|exact N) (first
    |(go_simp;go_at_call 8;((with_reducible refine (V.out _ (zaF _)).mono ?_);rintro e x5 ⟨p,G,rfl,S,C⟩;have qs:=zqM (qf.out.keep C);have qm:Below y.heap.size y (x5.alloc (.cells #[.bool bf,.int .i64 bt,.slice p zs.length G] 94)):=zaE C ((zqO _ _).alloc (zqN _) _);have d:=zqM (qs.out.keep ((zqO _ _).alloc (zqN _) (.cells #[.bool bf,.int .i64 bt,.slice p zs.length G] 94)))))
    |(refine step_append_lies _ (by rfl) _ _ _ (by rfl) w.heap.size 94 i0 _ 3 40 Tryz.underlying47 qC qS qB qP rfl (by omega) _ P.length (P.flatMap AnG.cl) (by rfl) (d.out.own1) ⟨x5.heap.size,0,none⟩ 1 1 [.bool bf,.int .i64 bt,.slice p zs.length G] (by rfl) (by rfl) (World.news_of_block (cs:= #[.bool bf,.int .i64 bt,.slice p zs.length G]) (t:=94) (fr:=(0,0)) (heap_alloc_new x5 _)) (AnG.one (⟨bf,bt,p,G,zs⟩:AnG AZ)) (by omega) (by unfold maxLen;omega) (by omega) (d.out.below.size) (x5.heap.size+1) (by simp) ?_;intro gg qX w1 R H qG qw;have U:=zgA d.out.own1 H ((qm.block _ (zaG qi.out)).trans qi.out) (by decide);have N:=zaP U))
   have qa:=zqM (d.out.app1 (a:=⟨bf,bt,p,G,zs⟩) H R (S.keep zaI ((zqO _ _).alloc (zqN _) _)))
   have qK:Hid ((P++[(⟨bf,bt,p,G,zs⟩:AnG AZ)]).map AnG.key=(Z.take (k+1)).map inZ):=by
    show _=_
    rw [HN.out,List.map_append,List.map_append,HP.out,List.map_singleton,List.map_singleton,qy.out,qg.out]
    rfl
   generalize P++[(⟨bf,bt,p,G,zs⟩:AnG AZ)]=P1 at*
   have I:=zqM U
   clear R H qG qw N U S C qm qs d qf qi f V e0 e1 e2
   have f:Hid (∀W,Below w1.heap.size w1 W→W.cell? ⟨wr.heap.size,0,none⟩=some (.bool bf)∧W.cell? ⟨wr.heap.size,1,none⟩=some (.int .i64 bt)∧W.cell? ⟨wr.heap.size,2,none⟩=some (.slice ba K.length bc)):=fun W hW=>zaP ((hW.block _ (zaG I.out)).trans I.out)
   have V:Hid (∀W,Below w1.heap.size w1 W→Calls Tryz.prog 8 #[.slice ba K.length bc] W fun e w'=> ∃p G,e= .returned (.slice p zs.length G)∧RowX 1 clZ w' p zs∧Below w1.heap.size w1 w'):=fun W hW=>(zdR ba bc K W (RowX.keep On.len qk.out (qa.out.below.trans (hW.mono qa.out.below.size))) (by have:=qM.out;omega)).mono (by
    rw [qJ.out]
    rintro e w' ⟨v,rfl,ho,qn⟩
    obtain ⟨p,G,rfl⟩:=ho.form
    exact ⟨p,G,rfl,ho.row zaI,zaE hW qn⟩)
   go_wp2_with fail
   go_region_held3 (fun W=>W.cell? ⟨wr.heap.size,0,none⟩=some (.bool bf)∧W.cell? ⟨wr.heap.size,1,none⟩=some (.int .i64 bt)∧W.cell? ⟨wr.heap.size,2,none⟩=some (.slice ba K.length bc)) (first|exact f.out _ (zaF _)|exact f.out _ C|exact f.out _ qc|exact f.out _ qo|exact N) (first
    |(go_simp;go_at_call 8;((with_reducible refine (V.out _ (zaF _)).mono ?_);rintro e x5 ⟨a6,c6,rfl,S,C⟩;have qv:=zqM (zhL a6 c6 zs x5 S (by have:=qH.out;omega) qF.out)))
    |(go_simp;go_at_call 23;((with_reducible refine (qv.out).mono ?_);rintro e x8 ⟨v8,rfl,ql,qh⟩;obtain ⟨a8,c8,rfl⟩:=ql.form;have qc:=zaE C qh;have qp:=zqM (qa.out.keep qc);have qo:Below w1.heap.size w1 (x8.alloc (.cells #[.bool bf,.int .i64 bt,.slice a8 zs.length c8] 98)):=zaE qc ((zqO _ _).alloc (zqN _) _);have d:=zqM (qp.out.keep ((zqO _ _).alloc (zqN _) (.cells #[.bool bf,.int .i64 bt,.slice a8 zs.length c8] 98)))))
    |(refine step_append_lies _ (by rfl) _ _ _ (by rfl) w.heap.size 98 i1 _ 3 40 Tryz.underlying48 qR qO qQ qN rfl (by omega) _ D.length (D.flatMap AnG.cl) (by rfl) (d.out.own2) ⟨x8.heap.size,0,none⟩ 1 1 [.bool bf,.int .i64 bt,.slice a8 zs.length c8] (by rfl) (by rfl) (World.news_of_block (cs:= #[.bool bf,.int .i64 bt,.slice a8 zs.length c8]) (t:=98) (fr:=(0,0)) (heap_alloc_new x8 _)) (AnG.one (⟨bf,bt,a8,c8,zs⟩:AnG AZ)) (by omega) (by unfold maxLen;omega) (by omega) (d.out.below.size) (x8.heap.size+1) (by simp) ?_;intro gh qV w2 O o qr qx;have N:=zaP (zgA d.out.own2 o ((qo.block _ (zaG I.out)).trans I.out) (by decide))))
   have qD:=zqM (d.out.app2 (a:=⟨bf,bt,a8,c8,zs⟩) o O ((TyX.of zaJ ql).keep zaJ ((zqO _ _).alloc (zqN _) _)))
   have qE:Hid ((D++[(⟨bf,bt,a8,c8,zs⟩:AnG AZ)]).map AnG.key=(Z.take (k+1)).map inZ):=by
    show _=_
    rw [HN.out,List.map_append,List.map_append,HD.out,List.map_singleton,List.map_singleton,qy.out,qg.out]
    rfl
   generalize D++[(⟨bf,bt,a8,c8,zs⟩:AnG AZ)]=D1 at*
   clear N O o qr qx ql qh qc qo C S qp d qv qa f V
   go_wp2
   go_roundw
   case rel=>exact ⟨k+1,P1,D1,by omega,by go_num,qD,qK,qE⟩
   case measure=>simp [intOf];omega
  ·have qL:k=Z.length:=by omega
   subst qL
   rw [List.take_length] at HP HD
   clear qA
   go_wp2
   refine bodyPost_ret (v:= .tuple #[u4,u5]) (by simp [results,Tryz.results15,go_sem]) rfl ?_
   exact ⟨u4,u5,P,D,rfl,HM.out,HP.out,HD.out⟩
end
section
open Go.RowKit Go.Maps Go.Sort Go.Shelf Go.Lib
structure GZ (w x:World) (D r c M:Nat) (L:List CE) (zf:List UInt8→List AZ) (ao:Option Addr) (cp:Nat) (A:List (AnG AZ)) (aq:Option Addr) (cq:Nat) (Q:List CE) (ad:Option Addr) (cb:Nat) (B:List (AnG AZ)):Prop where
 res:ResZ x r c M L zf ao cp A
 doc:DocZ x zf aq Q ad B
 box:Two x D (.slice aq Q.length cq) (.slice ad B.length cb) 55
 sim:Q.map keyE=L.map keyE
 simA:A.map AnG.key=B.map AnG.key
 room:B.length≤cb
 few:B.length≤40∧ ∀b∈B,b.l.length≤30
 short: ∀e∈L,(zf e.nm).length≤1000
 new:w.heap.size≤r∧w.heap.size≤M∧w.heap.size≤D
 below:Below w.heap.size w x
section
variable {w x y:World} {D r c M:Nat} {L:List CE} {zf:List UInt8→List AZ} {ao:Option Addr} {cp:Nat} {A:List (AnG AZ)} {aq:Option Addr} {cq:Nat} {Q:List CE} {ad:Option Addr} {cb:Nat} {B:List (AnG AZ)}
theorem GZ.keep (h:GZ w x D r c M L zf ao cp A aq cq Q ad cb B) (d:Below x.heap.size x y):GZ w y D r c M L zf ao cp A aq cq Q ad cb B:=
 ⟨h.res.keep d,h.doc.keep d,h.box.keep d,h.sim,h.simA,h.room,h.few,h.short,h.new,zaE h.below d⟩
theorem ResZ.two_ne (h:ResZ x r c M L zf ao cp A) {u0 u1:Option Addr} {C E o G:Nat} {T:TypeId} (f:Two x D (.slice u0 C o) (.slice u1 E G) T):D∉[r,M]:=fun q=>by
 rcases List.mem_cons.1 q with e|e
 ·have d:=f.blk
  rw [e,h.box] at d
  simp at d
 ·have e:=List.mem_singleton.1 e
  obtain ⟨⟨H,k,p,_⟩,_⟩:=h.cac.cac.map
  have d:=f.blk
  rw [e,p] at d
  cases d
theorem GZ.fewA (h:GZ w x D r c M L zf ao cp A aq cq Q ad cb B):A.length≤40∧ ∀a∈A,a.l.length≤30:=by
 obtain ⟨f,d⟩:=zkT h.simA
 exact ⟨by rw [f];exact h.few.1,d 30 h.few.2⟩
theorem GZ.lenL (h:GZ w x D r c M L zf ao cp A aq cq Q ad cb B):L.length≤64∧Q.length≤64:=⟨h.res.cac.len,by rw [zeJ h.sim];exact h.res.cac.len⟩
theorem GZ.sortQ (h:GZ w x D r c M L zf ao cp A aq cq Q ad cb B):zaO Q:=zoM h.sim h.res.cac.cac.map.2
theorem zgY {L Q:List CE} (h:Q.map keyE=L.map keyE) (n:List UInt8) (now:Int):gotG Q n now=gotG L n now:=by unfold gotG;rw [h]
theorem zbO {F:List Nat} {d:Nat} (o:Only F x y) (p:d≤x.heap.size) (f: ∀b∈F,d≤b):Below d x y:=o.below p f
theorem GZ.newF (h:GZ w x D r c M L zf ao cp A aq cq Q ad cb B): ∀b∈[r,M],w.heap.size≤b:=fun b d=>by
 rcases List.mem_cons.1 d with e|e
 ·rw [e];exact h.new.1
 ·rw [List.mem_singleton.1 e];exact h.new.2.1
theorem GZ.clone {z:World} (h:GZ w x D r c M L zf ao cp A aq cq Q ad cb B) (U:Below x.heap.size x y) {C N E:Nat} {p:List CE} {J:Option Addr} {f:Nat} {G:List (AnG AZ)} (h2:ResZ y C N E p zf J f G) (K:p.map keyE=L.map keyE) (R:G.map AnG.key=A.map AnG.key) (V:x.heap.size≤C) (Z:x.heap.size≤E) (o:Only [r,M] y z):GZ w z D C N E p zf J f G aq cq Q ad cb B:=by
 have d:=h.keep U
 refine ⟨d.res.other h2 (fun e=> ?_) (fun e=> ?_) o,d.doc.both d.res o,d.box.only o (d.res.two_ne d.box),h.sim.trans K.symm,R.trans h.simA,h.room,h.few,fun e O=> ?_,⟨Nat.le_trans h.below.size V,Nat.le_trans h.below.size Z,h.new.2.2⟩,d.below.trans (zbO o d.below.size d.newF)⟩
 ·have:=zaG h.res.box;omega
 ·have:=h.res.cac.cac.map.1.lt;omega
 ·have I:keyE e∈p.map keyE:=List.mem_map_of_mem O
  rw [K] at I
  obtain ⟨H,S,h1⟩:=List.mem_map.1 I
  have:=h.short H S
  rw [show H.nm=e.nm from congrArg Prod.fst h1] at this
  exact this
theorem GZ.step (h:GZ w x D r c M L zf ao cp A aq cq Q ad cb B) {z:World} {P:Nat} {n:List UInt8} {p:Option (Int×List AZ)} {N E:List CE} {G z2:List UInt8→List AZ} {V J O:Option Addr} {Z U H:Nat} {R d:List (AnG AZ)} (hr:ResZ z r c M N G V Z R) (hd:DocZ z z2 J E O d) (K:Two z P (.slice J E.length U) (.slice O d.length H) 55) (S:StpZ n p L zf N G) (h2:StpZ n p Q zf E z2) (hA:R.map AnG.key=d.map AnG.key) (f:d.length≤H) (C: ∀b∈d,b∈B) (o:d.length≤B.length) (hp: ∀u zs,p=some (u,zs)→zs.length≤1000) (hP:w.heap.size≤P) (I:Below w.heap.size w z):GZ w z P r c M N G V Z R J U E O H d:=by
 obtain ⟨hs,rfl⟩:=S.sim h2 h.sim
 refine ⟨hr,hd,K,hs,hA,f,⟨Nat.le_trans o h.few.1,fun b I=>h.few.2 b (C b I)⟩,?_,⟨h.new.1,h.new.2.1,hP⟩,I⟩
 cases p with
 |none=>obtain ⟨rfl,rfl⟩:=S;exact h.short
 |some q=>
  obtain ⟨u,zs⟩:=q
  obtain ⟨⟨v,rfl⟩,rfl⟩:=S
  exact znB h.short (hp u zs rfl)
end
theorem RowX.both {X:Type} {s:Nat} {cl:X→List Value} (I: ∀x,(cl x).length=s) (o:0<s) (C: ∀z,Plain (cl z)[0]?) {x y:World} {r c M:Nat} {L:List CE} {zf:List UInt8→List AZ} {ao:Option Addr} {cp:Nat} {A:List (AnG AZ)} (G:ResZ x r c M L zf ao cp A) (J:Only [r,M] x y) {b:Option Addr} {zs:List X} (d:RowX s cl x b zs):RowX s cl y b zs:=
 RowX.only I d (fun ad p E K=>by
  rcases List.mem_cons.1 K with q|q
  ·exact RowX.off_box o C (zdX _ _ _ _) G.box d ad p E (by rw [q];exact .head _)
  ·obtain ⟨z,l,rfl⟩:=List.exists_cons_of_ne_nil E
   obtain ⟨N,e,H⟩:=d 0 z rfl
   rw [p] at e
   obtain rfl:=Option.some.inj e
   have f:=H 0 o
   rw [map_none G.cac.cac.map _ (by rw [zbC];exact List.mem_singleton.1 q)] at f
   have:=C z
   rw [←f] at this
   exact this) J
theorem zhV {L:List CE} {n:List UInt8} {now:Int} (h:gotG L n now=true): ∃e∈L,e.nm=n:=by
 unfold gotG at h
 rw [List.any_eq_true] at h
 obtain ⟨k,o,d⟩:=h
 obtain ⟨e,f,rfl⟩:=List.mem_map.1 o
 simp only [keyE,Bool.and_eq_true,beq_iff_eq] at d
 exact ⟨e,f,d.1⟩
theorem zhK {now:Int} {A:List (AnG AZ)} (h: ∀a∈A,a.l.length≤30): ∀u zs,putA now A=some (u,zs)→zs.length≤1000:=fun u zs d=>by
 cases A with
 |nil=>cases d
 |cons a A=>
  unfold putA at d
  simp only at d
  split at d
  ·simp only [Option.some.injEq,Prod.mk.injEq] at d
   rw [←d.2]
   have:=h a (.head _)
   omega
  ·cases d
theorem ziG {A:List (AnG AZ)} {z:AZ} (h:z∈ansA A): ∃a∈A,z∈a.l:=by
 cases A with
 |nil=>cases h
 |cons a A=>
  unfold ansA at h
  simp only at h
  split at h
  ·exact ⟨a,.head _,h⟩
  ·cases h
theorem ziO {A:List (AnG AZ)} (h: ∀a∈A,a.l.length≤30):(ansA A).length≤1000:=by
 cases A with
 |nil=>exact Nat.zero_le _
 |cons a A=>
  unfold ansA
  simp only
  split
  ·have:=h a (.head _);omega
  ·exact Nat.zero_le _
end
end Go.Proofs.YtkiehdigpchebaaGreatDoor
