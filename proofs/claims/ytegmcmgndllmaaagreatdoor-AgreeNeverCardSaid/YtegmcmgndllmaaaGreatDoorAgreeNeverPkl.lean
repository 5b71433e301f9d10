/-
  What the law AgreeNever leans on, and its walk (37 of 42).
-/
import Derived.Deep.Slices
import Derived.Deep.Fields
import Derived.ChangeSame
import Derived.Lib.SmallJoins
import Derived.OpenShut
import Derived.Test.YtegmcmgndllmaaaGreatDoorAgreeNeverPkJ
import Derived.Test.YtegmcmgndllmaaaGreatDoorAgreeNeverPkI
namespace Go.Proofs.YtegmcmgndllmaaaGreatDoor
set_option maxRecDepth 100000
set_option maxHeartbeats 16000000
section
open Go.RowKit Go.ChangeShapes Go.WideShapes Go.Deep
theorem ygN {d:Type} {l:List d} (h:l.length=3): ∃a b c,l=[a,b,c]:=by
 match l,h with
 |[a,b,c],_=>exact ⟨a,b,c,rfl⟩
theorem z8K:Tryz.prog.cellsOf 183=3:=by kernel_rfl
theorem pfx_of {H:Type} {enc:TypeId×Value→H} {W:World} {d:Nat→Bool} {n:Nat} {B:List Value} {x:DataW H×List MemPlace} (Q:B.length=3) (h:DataW.trod enc Tryz.prog W 0 d true n 183 B=some x):
  ∃a b c:Int,B=[.int .u64 a,.int .u64 b,.int .i64 c]∧(Lit.int .u64 a).wf=true∧(Lit.int .u64 b).wf=true∧(Lit.int .i64 c).wf=true:=by
 obtain ⟨Y,f,_,_,_,A,o⟩:=DataW.trod_struct Tryz.underlying183 h
 have E:Tryz.prog.cellsOf 59=1:=by kernel_rfl
 have U:Tryz.prog.cellsOf 3=1:=by kernel_rfl
 obtain ⟨i,j,m,rfl⟩:=ygN Q
 obtain ⟨C,I,J,rfl⟩:=ygN (show Y.length=3 from A)
 have S:DataW.trod enc Tryz.prog W 0 d true f 59 [i]=some C:=by
  have q:DataW.trod enc Tryz.prog W 0 d true f 59 (([i,j,m].drop 0).take (Tryz.prog.cellsOf 59))=some C:=o 0 _ rfl
  rw [E] at q;exact q
 have X:DataW.trod enc Tryz.prog W 0 d true f 59 [j]=some I:=by
  have q:DataW.trod enc Tryz.prog W 0 d true f 59 (([i,j,m].drop 1).take (Tryz.prog.cellsOf 59))=some I:=o 1 _ rfl
  rw [E] at q;exact q
 have N:DataW.trod enc Tryz.prog W 0 d true f 3 [m]=some J:=by
  have q:DataW.trod enc Tryz.prog W 0 d true f 3 (([i,j,m].drop 2).take (Tryz.prog.cellsOf 3))=some J:=o 2 _ rfl
  rw [U] at q;exact q
 obtain ⟨a,G,_,M⟩:=DataW.trod_int Tryz.underlying59 S
 obtain ⟨b,D,_,O⟩:=DataW.trod_int Tryz.underlying59 X
 obtain ⟨c,K,_,V⟩:=DataW.trod_int Tryz.underlying3 N
 simp at G D K
 subst G D K
 exact ⟨a,b,c,rfl,M,O,V⟩
theorem zuE {H:Type} {enc:TypeId×Value→H} {W:World} {t e:TypeId} {U:Option Addr} {f J:Nat} {d:DataW H} {ps:List MemPlace} {X:Type} (z:X) (cl:X→List Value) (I:X→Prop) (s:Nat) (hu:Tryz.prog.underlying t=some (.slice e)) (hc:Tryz.prog.cellsOf e=s)
  (h1: ∀(n:Nat) (cs:List Value) (x:DataW H×List MemPlace),cs.length=s→DataW.trod enc Tryz.prog W 0 (fun _=>true) true n e cs=some x→ ∃y,cs=cl y∧I y)
  (h:DataW.Trod enc Tryz.prog W 0 (fun _=>true) true t (.slice U f J) d ps):
  ∃S:List X,S.length=f∧ ∀(j:Nat) (x:X),S[j]? =some x→(∃Q,U=some Q∧ ∀i,i<s→W.cell? (Q.add (j*s+i))=(cl x)[i]?)∧I x:=by
 obtain ⟨fuel,Y⟩:=h
 rcases open_slice hu Y with ⟨o,_⟩|⟨a,l,c,m,n,D,Pl,o,_,hl,_,hm,_,hi⟩
 ·simp [Value.cells] at o
  obtain ⟨rfl,rfl,rfl⟩:=o
  exact ⟨[],rfl,fun j x h=>by simp at h⟩
 ·simp [Value.cells] at o
  obtain ⟨rfl,rfl,rfl⟩:=o
  have A: ∀i,i<f→ ∃x:X,(∀k,k<s→W.cell? (a.add (i*s+k))=(cl x)[k]?)∧I x:=fun i Z=>by
   have O:i<m:=by rw [hm];simp;omega
   obtain ⟨qa,B,V⟩:=hi i O
   rw [hc] at B
   obtain ⟨_,G,N⟩:=World.cells?_some B
   obtain ⟨y,rfl,hy⟩:=h1 _ _ _ G V
   refine ⟨y,fun k hk=> ?_,hy⟩
   have:=N k (by omega)
   rw [Go.Deep.add_add] at this
   rw [this]
  refine ⟨(List.range f).map (fun i=>if q:i<f then Classical.choose (A i q) else z),by simp,fun j x K=> ?_⟩
  have E:j<f:=by
   have:=(List.getElem?_eq_some_iff.1 K).1
   simpa using this
  have C:x=Classical.choose (A j E):=by
   simp [E] at K
   exact K.symm
  have M:=Classical.choose_spec (A j E)
  rw [←C] at M
  exact ⟨⟨a,rfl,M.1⟩,M.2⟩
def IsIRow (w:World) (a:Option Addr) (d _cap:Nat) (i:List Int):Prop:=
 i.length=d∧ ∀(j:Nat) (x:Int),i[j]? =some x→(∃f,a=some f∧w.cell? (f.add j)=some (.int .i64 x))∧(-9223372036854775808≤x∧x≤9223372036854775807)
theorem IsIRow.at {w wr:World} {a:Option Addr} {i m:Nat} {d:List Int} (h:IsIRow w a i m d) (C:Below w.heap.size w wr) {j:Nat} (A:j<d.length):
  ∃(f:Addr) (_:a=some f) (x:Int),d[j]? =some x∧wr.cell? (f.add j)=some (.int .i64 x)∧(-9223372036854775808≤x∧x≤9223372036854775807):=by
 obtain ⟨⟨f,D,o⟩,B⟩:=h.2 j d[j] (List.getElem?_eq_getElem A)
 exact ⟨f,D,d[j],List.getElem?_eq_getElem A,(C.cell (World.block_lt_of_cell? w _ o)).trans o,B⟩
theorem IsIRow.keep {w wr:World} {a:Option Addr} {d f:Nat} {m:List Int} (h:IsIRow w a d f m) (B:Below w.heap.size w wr):IsIRow wr a d f m:=
 ⟨h.1,fun j x A=>by
  obtain ⟨⟨D,C,i⟩,o⟩:=h.2 j x A
  exact ⟨⟨D,C,(B.cell (World.block_lt_of_cell? w _ i)).trans i⟩,o⟩⟩
theorem zmB {n:Int} (h:(Lit.int .i64 n).wf=true): -9223372036854775808≤n∧n≤9223372036854775807:=by
 simp [Lit.wf,IntKind.min,IntKind.max,IntKind.bits,IntKind.signed] at h
 omega
theorem z3J:Tryz.prog.cellsOf 3=1:=by kernel_rfl
theorem z6I {H:Type} {enc:TypeId×Value→H} {W:World} {A:Option Addr} {f i:Nat} {d:DataW H} {ps:List MemPlace}
  (h:DataW.Trod enc Tryz.prog W 0 (fun _=>true) true 46 (.slice A f i) d ps): ∃m,IsIRow W A f i m:=by
 obtain ⟨m,C,D⟩:=zuE (0:Int) (fun x=>[Value.int .i64 x]) (fun x=> -9223372036854775808≤x∧x≤9223372036854775807) 1 Tryz.underlying46 z3J (fun n M x _ o=>by
  obtain ⟨s,B,_,G⟩:=DataW.trod_int Tryz.underlying3 o
  exact ⟨s,B,zmB G⟩) h
 refine ⟨m,C,fun j x o=> ?_⟩
 obtain ⟨⟨I,J,E⟩,K⟩:=D j x o
 refine ⟨⟨I,J,?_⟩,K⟩
 have:=E 0 (by omega)
 simpa using this
structure Ru where
 hi:Nat
 lo:Nat
 k:Int
 a:Bool
def Ru.cl (x:Ru):List Value:=[.int .u64 (x.hi:Nat),.int .u64 (x.lo:Nat),.int .i64 x.k,.bool x.a]
def Ru.Ok (x:Ru):Prop:=x.hi<18446744073709551616∧x.lo<18446744073709551616∧ -9223372036854775808≤x.k∧x.k≤9223372036854775807
def IsURow (w:World) (a:Option Addr) (d _cap:Nat) (m:List Ru):Prop:=
 m.length=d∧ ∀(j:Nat) (x:Ru),m[j]? =some x→(∃f,a=some f∧ ∀i,i<4→w.cell? (f.add (j*4+i))=x.cl[i]?)∧x.Ok
theorem IsURow.keep {w wr:World} {a:Option Addr} {d f:Nat} {o:List Ru} (h:IsURow w a d f o) (E:Below w.heap.size w wr):IsURow wr a d f o:=
 ⟨h.1,fun j x D=>by
  obtain ⟨⟨m,G,A⟩,B⟩:=h.2 j x D
  refine ⟨⟨m,G,fun i hi=> ?_⟩,B⟩
  rw [←A i hi]
  have: ∃u,w.cell? (m.add (j*4+i))=some u:=by
   rw [A i hi]
   exact ⟨_,List.getElem?_eq_getElem (by simp [Ru.cl];omega)⟩
  obtain ⟨u,C⟩:=this
  exact E.cell (World.block_lt_of_cell? w _ C)⟩
theorem IsURow.at {wr:World} {a:Option Addr} {m o:Nat} {f:List Ru} (h:IsURow wr a m o f) {j:Nat} (A:j<f.length):
  ∃(d:Addr) (_:a=some d) (x:Ru),f[j]? =some x∧(wr.cell? (d.add (j*4))=some (.int .u64 (x.hi:Nat))∧wr.cell? ⟨(d.add (j*4)).block,(d.add (j*4)).off+1,none⟩=some (.int .u64 (x.lo:Nat))∧wr.cell? ⟨(d.add (j*4)).block,(d.add (j*4)).off+2,none⟩=some (.int .i64 x.k)∧wr.cell? ⟨(d.add (j*4)).block,(d.add (j*4)).off+3,none⟩=some (.bool x.a))∧x.Ok:=by
 obtain ⟨⟨d,E,i⟩,B⟩:=h.2 j f[j] (List.getElem?_eq_getElem A)
 have D:d.add (j*4+1)=⟨(d.add (j*4)).block,(d.add (j*4)).off+1,none⟩:=by rw [←Go.Deep.add_add];rfl
 have G:d.add (j*4+2)=⟨(d.add (j*4)).block,(d.add (j*4)).off+2,none⟩:=by rw [←Go.Deep.add_add];rfl
 have C:d.add (j*4+3)=⟨(d.add (j*4)).block,(d.add (j*4)).off+3,none⟩:=by rw [←Go.Deep.add_add];rfl
 refine ⟨d,E,f[j],List.getElem?_eq_getElem A,⟨?_,?_,?_,?_⟩,B⟩
 ·exact i 0 (by omega)
 ·rw [←D];exact i 1 (by omega)
 ·rw [←G];exact i 2 (by omega)
 ·rw [←C];exact i 3 (by omega)
theorem z0E:Tryz.prog.cellsOf 185=4:=by kernel_rfl
theorem z0O:Tryz.prog.cellsOf 4=1:=by kernel_rfl
theorem list_4 {f:Type} {l:List f} (h:l.length=4): ∃a b c d,l=[a,b,c,d]:=by
 match l,h with
 |[a,b,c,d],_=>exact ⟨a,b,c,d,rfl⟩
theorem list_2 {d:Type} {l:List d} (h:l.length=2): ∃a b,l=[a,b]:=by
 match l,h with
 |[a,b],_=>exact ⟨a,b,rfl⟩
theorem yjT {H:Type} {enc:TypeId×Value→H} {W:World} {d:Nat→Bool} {n:Nat} {B:List Value} {x:DataW H×List MemPlace} (M:B.length=4) (h:DataW.trod enc Tryz.prog W 0 d true n 185 B=some x):
  ∃y:Ru,B=y.cl∧y.Ok:=by
 obtain ⟨V,f,_,_,_,o,E⟩:=DataW.trod_struct Tryz.underlying185 h
 obtain ⟨j,m,A,i,rfl⟩:=list_4 M
 obtain ⟨C,I,rfl⟩:=list_2 (show V.length=2 from o)
 have O:DataW.trod enc Tryz.prog W 0 d true f 183 [j,m,A]=some C:=by
  have q:DataW.trod enc Tryz.prog W 0 d true f 183 (([j,m,A,i].drop 0).take (Tryz.prog.cellsOf 183))=some C:=E 0 _ rfl
  rw [z8K] at q;exact q
 have U:DataW.trod enc Tryz.prog W 0 d true f 4 [i]=some I:=by
  have q:DataW.trod enc Tryz.prog W 0 d true f 4 (([j,m,A,i].drop 3).take (Tryz.prog.cellsOf 4))=some I:=E 1 _ rfl
  rw [z0O] at q;exact q
 obtain ⟨a,b,c,G,J,K,Q⟩:=pfx_of rfl O
 obtain ⟨v,D,_⟩:=DataW.trod_bool Tryz.underlying4 U
 simp at G D
 obtain ⟨rfl,rfl,rfl⟩:=G
 subst D
 obtain ⟨hi,rfl,S⟩:=znN J
 obtain ⟨lo,rfl,N⟩:=znN K
 exact ⟨⟨hi,lo,c,v⟩,rfl,S,N,zmB Q⟩
theorem z7R {H:Type} {enc:TypeId×Value→H} {W:World} {j:Option Addr} {f i:Nat} {d:DataW H} {ps:List MemPlace}
  (h:DataW.Trod enc Tryz.prog W 0 (fun _=>true) true 45 (.slice j f i) d ps): ∃A,IsURow W j f i A:=
 zuE ⟨0,0,0,false⟩ Ru.cl Ru.Ok 4 Tryz.underlying45 z0E (fun _ _ _ o m=>yjT o m) h
end
section
open Go.RowKit
def Ru.W (x:Ru):Nat:=zaL x.hi x.lo
def Ru.v (x:Ru):Int:=if x.a=true then 1 else 0
theorem Ru.W_lt {x:Ru} (h:x.Ok):x.W<2^128:=zpY h.1 h.2.1
def zjN (rs:List Ru):Bool:=rs.all fun x=>zaN x.W x.k
def zvO (p:Int):Bool:=decide (1≤p∧p≤65535)
def zrK (ps:List Int):Bool:=ps.all zvO
def zdT (rs:List Ru) (ps:List Int):Int:=if 256<rs.length∨16<ps.length then 19 else if zjN rs=true then (if zrK ps=true then 0 else 8) else 2
theorem zxL {d:Type} {p:d→Bool} {l:List d} (h: ∀(i:Nat) (x:d),l[i]? =some x→p x=true):l.all p=true:=by
 rw [List.all_eq_true]
 intro x f
 obtain ⟨i,hi,e⟩:=List.getElem_of_mem f
 exact h i x (by rw [List.getElem?_eq_getElem hi,e])
theorem zsL {d:Type} {p:d→Bool} {l:List d} {i:Nat} {x:d} (f:l[i]? =some x) (h:p x=false):l.all p=false:=by
 rw [List.all_eq_false]
 exact ⟨x,List.mem_of_getElem? f,by rw [h];simp⟩
theorem zyR {d:Type} {p:d→Bool} {l:List d} (h:l.all p=true) {i:Nat} {x:d} (f:l[i]? =some x):p x=true:=by
 rw [List.all_eq_true] at h
 exact h x (List.mem_of_getElem? f)
theorem z2Y {rs:List Ru} {ps:List Int} (h:zdT rs ps=0):rs.length≤256∧ps.length≤16∧zjN rs=true∧zrK ps=true:=by
 unfold zdT at h
 split at h
 ·cases h
 ·split at h
  ·split at h
   ·exact ⟨by omega,by omega,by assumption,by assumption⟩
   ·cases h
  ·cases h
def zfZ (rs:List Ru) (j:Nat) (t:PT):PT:=(rs.take j).foldl (fun t r=>t.put r.W r.k.toNat r.v) t
theorem ziC {rs:List Ru} {j:Nat} {t:PT} {x:Ru} (h:rs[j]? =some x):zfZ rs (j+1) t=(zfZ rs j t).put x.W x.k.toNat x.v:=by
 unfold zfZ
 rw [List.take_add_one,h,List.foldl_append];rfl
theorem zjW {x:Ru} (h:zaN x.W x.k=true):x.k.toNat≤128∧rt x.W x.k.toNat∧(x.k.toNat:Int)=x.k:=by
 have d:=zpJ h
 have e:(x.k.toNat:Int)=x.k:=by omega
 rw [←e] at h
 exact ⟨(zbU.1 h).1,(zbU.1 h).2,e⟩
theorem ztV {rs:List Ru} {t:PT} (o: ∀x∈rs,x.Ok) (f:zjN rs=true) (h:t.Inv 0 0): ∀j,(zfZ rs j t).Inv 0 0:=fun j=>by
 induction j with
 |zero=>exact h
 |succ j d=>
  cases e:rs[j]? with
  |none=>unfold zfZ at d ⊢;rw [List.take_add_one,e];simpa using d
  |some x=>
   rw [ziC e]
   obtain ⟨i,m,_⟩:=zjW (zyR f e)
   exact PT.put_inv d i m (zuB (Ru.W_lt (o x (List.mem_of_getElem? e)))) (Nat.zero_le _)
theorem z1S {rs:List Ru} {t:PT} (f: ∀x∈rs,x.Ok) (d:zjN rs=true) (h:t.Inv 0 0) {j:Nat} {x:Ru} (e:rs[j]? =some x):(zfZ rs (j+1) t).list=putL (zfZ rs j t).list x.W x.k.toNat x.v:=by
 rw [ziC e]
 obtain ⟨i,m,_⟩:=zjW (zyR d e)
 exact PT.put_list (ztV f d h j) i m (Ru.W_lt (f x (List.mem_of_getElem? e)))
theorem zsO {rs:List Ru} {t:PT} (i: ∀x∈rs,x.Ok) (d:zjN rs=true) (h:t.Inv 0 0): ∀j,(zfZ rs j t).list.length≤t.list.length+j:=fun j=>by
 induction j with
 |zero=>exact Nat.le_refl _
 |succ j f=>
  cases e:rs[j]? with
  |none=>unfold zfZ at f ⊢;rw [List.take_add_one,e];simp at f ⊢;omega
  |some x=>
   rw [z1S i d h e]
   have:=z8R (PT.sorted (ztV i d h j)) x.W x.k.toNat x.v
   omega
noncomputable def zeP (bare:Bool):PT:=if bare=true then .nil else lay9 0 .nil
theorem zpF (bare:Bool):(zeP bare).Inv 0 0:=by
 unfold zeP;split
 ·exact z6M
 ·exact yiP z6M
theorem zoU (bare:Bool):(zeP bare).list.length≤27:=by
 unfold zeP;split
 ·exact Nat.zero_le _
 ·rw [yfF];exact Nat.le_refl _
noncomputable def polZ (rs:List Ru) (bare:Bool):PT:=zfZ rs rs.length (zeP bare)
theorem zzY {rs:List Ru} {ps:List Int} (h:256<rs.length∨16<ps.length):zdT rs ps=19:=by unfold zdT;rw [if_pos h]
theorem yjP {rs:List Ru} {ps:List Int} (f: ¬256<rs.length) (i: ¬16<ps.length) {j:Nat} {x:Ru} (d:rs[j]? =some x) (h:zaN x.W x.k=false):zdT rs ps=2:=by
 unfold zdT
 rw [if_neg (by omega),if_neg (by unfold zjN;rw [zsL d h];simp)]
theorem zzX {rs:List Ru} {ps:List Int} (i: ¬256<rs.length) (m: ¬16<ps.length) (d:zjN rs=true) {j:Nat} {x:Int} (f:ps[j]? =some x) (h:zvO x=false):zdT rs ps=8:=by
 unfold zdT
 rw [if_neg (by omega),if_pos d,if_neg (by unfold zrK;rw [zsL f h];simp)]
theorem chk_ok {rs:List Ru} {ps:List Int} (i: ¬256<rs.length) (j: ¬16<ps.length) (f:zjN rs=true) (d:zrK ps=true):zdT rs ps=0:=by
 unfold zdT
 rw [if_neg (by omega),if_pos f,if_pos d]
theorem zmZ (U pa:Option Addr) (Q G:Nat) (bare:Bool) (rs:List Ru) (ps:List Int) (w:World) (hr:IsURow w U rs.length Q rs) (m:IsIRow w pa ps.length G ps):
  Calls Tryz.prog 114 #[.agg #[.slice U rs.length Q,.slice pa ps.length G,.bool bare]] w fun e w'=>e= .returned (.int .i64 (zdT rs ps))∧Below w.heap.size w w':=by
 have qb:=Lib.hid hr
 have qf:=Lib.hid m
 clear hr m
 have qa:=Lib.hid ((Blks.empty w).new #[.slice U rs.length Q,.slice pa ps.length G,.bool bare] 48)
 have A:Hid (Below w.heap.size w (w.alloc (.cells #[.slice U rs.length Q,.slice pa ps.length G,.bool bare] 48))):=(Below.refl _ _).alloc (Nat.le_refl _) _
 by_cases K:256<rs.length
 ·have hd:decide (256<(rs.length:Int))=true:=by simp;omega
  rw [zzY (.inl K)]
  go_enter Tryz.func114,Tryz.ntmps114
  go_wp2
  go_ret
  exact ⟨rfl,A.out⟩
 have hd:decide (256<(rs.length:Int))=false:=by simp;omega
 by_cases E:16<ps.length
 ·have qe:decide (16<(ps.length:Int))=true:=by simp;omega
  rw [zzY (.inr E)]
  go_enter Tryz.func114,Tryz.ntmps114
  go_wp2
  go_ret
  exact ⟨rfl,A.out⟩
 have qe:decide (16<(ps.length:Int))=false:=by simp;omega
 go_enter Tryz.func114,Tryz.ntmps114
 go_wp2
 generalize w.alloc (.cells #[.slice U rs.length Q,.slice pa ps.length G,.bool bare] 48)=x0 at*
 go_loopw [20] (fun i wr=> ∃j:Nat,j≤rs.length∧i= .int .i64 j∧Hid (Below x0.heap.size x0 wr)∧Hid (∀i y,i<j→rs[i]? =some y→zaN y.W y.k=true)) (fun i _=>rs.length - (intOf i).toNat)
 case atStart=>exact ⟨0,Nat.zero_le _,rfl,Below.refl _ _,fun i y hi=>absurd hi (Nat.not_lt_zero _)⟩
 case round=>
  obtain ⟨j,hj,rfl,o,C⟩:=hrel
  have d:=Lib.hid (A.out.trans (o.out.mono A.out.size))
  by_cases Z:j<rs.length
  ·obtain ⟨ad,rfl,x,hx,⟨c0,c1,c2,c3⟩,M,I,_⟩:=(qb.out.keep d.out).at Z
   have qh:(j:Int)<rs.length:=by omega
   have HL:Hid (Below wr.heap.size wr (wr.alloc (.cells #[.int .u64 (x.hi:Nat),.int .u64 (x.lo:Nat),.int .i64 x.k,.bool x.a] 185))):=(Below.refl _ _).alloc (Nat.le_refl _) _
   have HC:Hid (∀W,Calls Tryz.prog 186 #[.agg #[.int .u64 (x.hi:Nat),.int .u64 (x.lo:Nat),.int .i64 x.k]] W fun e w'=>e= .returned (.bool (zaN x.W x.k))∧Below W.heap.size W w'):=fun W=>zbM x.hi x.lo x.k W M I
   clear M I
   go_wp2_with fail
   refine (HC.out _).mono ?_
   rintro e x2 ⟨rfl,H⟩
   have N:=Lib.hid (HL.out.trans (H.mono HL.out.size))
   clear H HL HC c0 c1 c2 c3
   cases m:zaN x.W x.k with
   |false=>
    go_wp2
    go_ret
    rw [yjP K E hx m]
    exact ⟨rfl,d.out.trans (N.out.mono d.out.size)⟩
   |true=>
    have D:Hid (∀i y,i<j+1→rs[i]? =some y→zaN y.W y.k=true):=fun i y hi f=>by
     by_cases c:i<j
     ·exact C.out i y c f
     ·rw [show i=j from by omega,hx] at f
      exact Option.some.inj f▸m
    go_wp2
    go_roundw
    case rel=>exact ⟨j+1,by omega,by go_num,o.out.trans (N.out.mono o.out.size),D⟩
    case measure=>simp [intOf];omega
  ·have X:j=rs.length:=by omega
   subst X
   have h3:zjN rs=true:=zxL (fun i y f=>C.out i y (List.getElem?_eq_some_iff.1 f).1 f)
   obtain ⟨lg,g0,g1,g2⟩:=(qa.out.keep o.out).r3 (.head _)
   clear C
   go_wp2
   go_loopw [32] (fun i qd=> ∃k:Nat,k≤ps.length∧i= .int .i64 k∧qd=wr∧Hid (∀i y,i<k→ps[i]? =some y→zvO y=true)) (fun i _=>ps.length - (intOf i).toNat)
   case atStart=>exact ⟨0,Nat.zero_le _,rfl,rfl,fun i y hi=>absurd hi (Nat.not_lt_zero _)⟩
   case round=>
    obtain ⟨k,hk,rfl,rfl,B⟩:=hrel
    by_cases V:k<ps.length
    ·obtain ⟨ad,rfl,n,Y,r0,_⟩:=qf.out.at (wr:=wr) d.out V
     have qi:(k:Int)<ps.length:=by omega
     cases m:zvO n with
     |false=>
      by_cases J:n<1
      ·have O:decide (n<1)=true:=decide_eq_true J
       go_wp2
       go_ret
       rw [zzX K E h3 Y m]
       exact ⟨rfl,d.out⟩
      ·have O:decide (n<1)=false:=decide_eq_false J
       have qc:decide (65535<n)=true:=by
        unfold zvO at m
        rw [decide_eq_false_iff_not] at m
        exact decide_eq_true (by omega)
       go_wp2
       go_ret
       rw [zzX K E h3 Y m]
       exact ⟨rfl,d.out⟩
     |true=>
      have S:=m
      unfold zvO at S
      rw [decide_eq_true_iff] at S
      have O:decide (n<1)=false:=decide_eq_false (by omega)
      have qc:decide (65535<n)=false:=decide_eq_false (by omega)
      have D:Hid (∀i y,i<k+1→ps[i]? =some y→zvO y=true):=fun i y hi f=>by
       by_cases c:i<k
       ·exact B.out i y c f
       ·rw [show i=k from by omega,Y] at f
        injection f with f
        rw [←f];exact m
      go_wp2
      go_roundw
      case rel=>exact ⟨k+1,by omega,by go_num,by trivial,D⟩
      case measure=>simp [intOf];omega
    ·have qg:k=ps.length:=by omega
     subst qg
     have h4:zrK ps=true:=zxL (fun i y f=>B.out i y (List.getElem?_eq_some_iff.1 f).1 f)
     go_wp2
     go_ret
     rw [chk_ok K E h3 h4]
     exact ⟨rfl,d.out⟩
end
section
open Go.RowKit Go.ChangeShapes Go.WideShapes Go.ChangeAt Go.Joins Go.Deep
theorem zhC {H:Type} {enc:TypeId×Value→H} {W:World} {t e:TypeId} {n:Nat} {v:Value} {y:DataW H×List MemPlace} (o:Tryz.prog.underlying t=some (.slice e)) (h:DataW.trod enc Tryz.prog W 0 (fun _=>true) true n t [v]=some y):
  ∃j f i,v= .slice j f i∧DataW.Trod enc Tryz.prog W 0 (fun _=>true) true t (.slice j f i) y.1 y.2:=by
 rcases open_slice o h with ⟨d,_⟩|⟨a,l,c,m,k,D,Pl,d,_⟩
 ·simp at d
  subst d
  exact ⟨none,0,0,rfl,n,by simpa [Value.cells] using h⟩
 ·simp at d
  subst d
  exact ⟨some a,l,c,rfl,n,by simpa [Value.cells] using h⟩
theorem z3K:Tryz.prog.cellsOf 48=3:=by kernel_rfl
theorem open_pol {H:Type} {enc:TypeId×Value→H} {W:World} {r:Reach} {N:Nat} {v:Value} {d:DataW H} {ps:List MemPlace} (K:Value.okWide Tryz.prog W r N 48 v) (h:DataW.Trod enc Tryz.prog W 0 (fun _=>true) true 48 v d ps):
  ∃(o:Option Addr) (i m:Nat) (rs:List Ru) (pa:Option Addr) (j f:Nat) (A:List Int) (bare:Bool),v= .agg #[.slice o i m,.slice pa j f,.bool bare]∧IsURow W o i m rs∧IsIRow W pa j f A:=by
 obtain ⟨v0,O,V,U,Q,S,n,rfl,_,_,G,J,E⟩:=open_agg3 Tryz.underlying48 (by kernel_rfl) z3K K h
 obtain ⟨o,i,m,rfl,M⟩:=zhC Tryz.underlying45 G
 obtain ⟨pa,j,f,rfl,I⟩:=zhC Tryz.underlying46 J
 obtain ⟨b,D,_⟩:=DataW.trod_bool Tryz.underlying4 E
 simp at D
 subst D
 obtain ⟨rs,C⟩:=z7R M
 obtain ⟨A,B⟩:=z6I I
 exact ⟨o,i,m,rs,pa,j,f,A,b,rfl,C,B⟩
end
end Go.Proofs.YtegmcmgndllmaaaGreatDoor
