/-
  A walk on paper: what a call does in a memory of its own, reckoned out; and that the call does so (2 of 2).
-/
import Derived.Orders
import Derived.RowKit3
import Derived.KernelRfl
import Derived.Below
import Derived.Laws.CopyRow
import Derived.Laws.Append
import Derived.Laws.AppendOwn
import Derived.Lib.UnsafeStr
import Derived.Lib.Builder
import Derived.LaidEql
import Derived.Laws.BytesString
import Derived.Scope
import Derived.Lib.Bytealg
import Derived.Lib.Index
import Derived.Lib.TrailingZeros
import Derived.Lib.BitFns
import Derived.Lib.ItoaNum
import Derived.Lib.Join
import Derived.Laws.Externs
import Derived.Lib.Replace
import Derived.Shelf.Abstract
import Derived.Laws.RangeString
import Derived.Test.YtkiehdigpchebaaGreatDoorEvA
namespace Go.Proofs.YtkiehdigpchebaaGreatDoor.Ev
set_option autoImplicit false
section
open Go Go.RowKit
section
variable {P:Program} {G base:Nat} {φ:Phi} {st st':St} {W:World}
inductive AppArg (P:Program) (W:World) (size:Nat) (z:Value) (u:TypeDesc):Value→Nat→List Value→Prop
 |slice {o:Option Addr} {k c:Nat} {Xs:List Value}:(∀q,u≠ .int q)→(∀W1:World,W1.heap=W.heap→(Builtin.firstCells size k (.slice o k c)).run P W1= .ok Xs.toArray W1)→AppArg P W size z u (.slice o k c) k Xs
 |string {s:ByteArray}:(∀q,u≠ .int q)→AppArg P W size z u (.string s) s.size (byteVals s)
 |zeros {k:Nat} {q:IntKind}:u= .int q→k≤4096→AppArg P W size z u (.int .i64 (k:Int)) k (Builtin.zeroCells z.cells k).toList
theorem run_firstCells_str (size:Nat) (s:ByteArray) (W1:World):(Builtin.firstCells size s.size (.string s)).run P W1= .ok (byteVals s).toArray W1:=by
 simp [Builtin.firstCells]
 apply Array.ext'
 simp [byteVals]
theorem run_append_in {Q O ty elem:TypeId} {i:TypeInfo} {z X:Value} {u:TypeDesc} {k:Nat} {Xs:List Value} (J:P.underlying Q=some (.slice elem)) (D:P.underlying O=some u) (I:P.info? elem=some i) (hz:i.zero=some z) (h0:0<i.size)
  (L:i.bytes≤4096) (Z:AppArg P W i.size z u X k Xs) (base:Option Addr) (n c:Nat) (g:n+k≤c):
  (Builtin.append_ #[Q,O] ty #[.slice base n c,X]).run P W=((match base with|some a=>storeCells (a.add (n*i.size)) Xs|none=>pure ():Sem Unit).run P W).andThen fun _ W'=> .ok (.slice base (n+k) c) W':=by
 cases Z with
 | @slice o k c' Xs K Y=>
  cases base<;>simp [Builtin.append_,run_underlying J,run_underlying D,sizeOf,typeInfo,I,Builtin.lenOf,g,Y W rfl]
 | @string s K=>
  have hx:=run_firstCells_str (P:=P) i.size s
  cases base<;>simp [Builtin.append_,run_underlying J,run_underlying D,sizeOf,typeInfo,I,Builtin.lenOf,g,hx]
 | @zeros k q S hk=>
  subst S
  have w:=wrap_small (n:=k) (by omega)
  have M: ¬((k:Int)<0):=by omega
  have N: ¬(281474976710656<(k:Int)*(i.bytes:Int)):=by
   have E:k*i.bytes≤4096*4096:=Nat.mul_le_mul hk L
   have E:=Int.ofNat_le.2 E
   rw [Int.natCast_mul] at E
   intro U
   have h7:=Int.lt_of_lt_of_le U E
   revert h7
   decide
  by_cases y:k*i.size=0
  ·have B:k=0:=by rcases Nat.mul_eq_zero.1 y with h|h<;>omega
   subst B
   have e0:Builtin.zeroCells z.cells 0= #[]:=by simp [Builtin.zeroCells]
   have w0:IntKind.i64.wrap 0=0:=w
   cases base<;>simp [Builtin.append_,run_underlying J,run_underlying D,sizeOf,typeInfo,I,asInt,asIntOf,w0,show n≤c by omega,e0]
  ·cases base<;>simp [Builtin.append_,run_underlying J,run_underlying D,sizeOf,typeInfo,zeroValue,I,hz,asInt,asIntOf,w,M,N,g,y]
theorem run_append_out {sT xT ty elem:TypeId} {i:TypeInfo} {z X:Value} {u:TypeDesc} {k:Nat} {Xs:List Value} (U:P.underlying sT=some (.slice elem)) (O:P.underlying xT=some u) (S:P.info? elem=some i) (Y:i.zero=some z) (h0:0<i.size)
  (N:i.bytes≤4096) (ha:AppArg P W i.size z u X k Xs) (base:Option Addr) (n c:Nat) (E:List Value) (g: ∀W1:World,W1.heap=W.heap→(Builtin.firstCells i.size n (.slice base n c)).run P W1= .ok E.toArray W1)
  (I:c<n+k) (hn:n+k≤2000000):
  (Builtin.append_ #[sT,xT] ty #[.slice base n c,X]).run P W= .ok (.slice (some ⟨W.heap.size,0,none⟩) (n+k) (grownCap W (n+k) c elem))
   (W.drew.alloc (.cells (E++Xs++(Builtin.zeroCells z.cells (grownCap W (n+k) c elem - (n+k))).toList).toArray elem)):=by
 have D: ¬(n+k≤c):=by omega
 have J: ¬(9223372036854775807<((n:Int)+(k:Int))):=by omega
 have y: ¬(281474976710656<Builtin.nextslicecap (n+k) c*i.bytes):=by
  have h1:Builtin.nextslicecap (n+k) c≤2*(n+k):=nextslicecap_le I
  have h2:Builtin.nextslicecap (n+k) c*i.bytes≤4000000*4096:=Nat.mul_le_mul (by omega) N
  omega
 have fin: ∀A B C:List Value,A++(B++C)=A++B++C:=fun A B C=>(List.append_assoc A B C).symm
 cases ha with
 | @slice o k c' Xs Z hf=>
  simp [Builtin.append_,run_underlying U,run_underlying O,sizeOf,typeInfo,zeroValue,S,Y,Builtin.lenOf,D,J,y,Question.forced,hf W.drew rfl,g W.drew rfl,newRow,grownCap]
  try (congr 2;apply Array.ext';simp)
 | @string s Z=>
  have hx:=run_firstCells_str (P:=P) i.size s
  simp [Builtin.append_,run_underlying U,run_underlying O,sizeOf,typeInfo,zeroValue,S,Y,Builtin.lenOf,D,J,y,Question.forced,g W.drew rfl,newRow,grownCap,hx]
  try (congr 2;apply Array.ext';simp)
 | @zeros k q hq hk=>
  subst hq
  have w:=wrap_small (n:=k) (by omega)
  have qa: ¬((k:Int)<0):=by omega
  have qb: ¬(281474976710656<(k:Int)*(i.bytes:Int)):=by
   have Q:k*i.bytes≤4096*4096:=Nat.mul_le_mul hk N
   have Q:=Int.ofNat_le.2 Q
   rw [Int.natCast_mul] at Q
   intro h6
   have h7:=Int.lt_of_lt_of_le h6 Q
   revert h7
   decide
  by_cases K:k*i.size=0
  ·have L:k=0:=by rcases Nat.mul_eq_zero.1 K with h|h<;>omega
   subst L
   have e0:Builtin.zeroCells z.cells 0= #[]:=by simp [Builtin.zeroCells]
   have w0:IntKind.i64.wrap 0=0:=w
   simp only [Nat.add_zero] at*
   have M: ¬(9223372036854775807<(n:Int)):=by omega
   simp [Builtin.append_,run_underlying U,run_underlying O,sizeOf,typeInfo,zeroValue,S,Y,asInt,asIntOf,w0,D,M,y,e0,Question.forced,g W.drew rfl,newRow,grownCap]
   try (congr 2;apply Array.ext';simp)
  ·simp [Builtin.append_,run_underlying U,run_underlying O,sizeOf,typeInfo,zeroValue,S,Y,asInt,asIntOf,w,qa,qb,D,J,y,K,Question.forced,g W.drew rfl,newRow,grownCap]
   try (congr 2;apply Array.ext';simp)
theorem heap_cell {W1:World} (h:W1.heap=W.heap) (a:Addr):W1.cell? a=W.cell? a:=by simp [World.cell?,h]
theorem firstCells_ok (J:Inv P G base φ st W) {a:Addr} {n size:Nat} {l:List Value} (h:cellsAt st.heap a (n*size)=some l) {r I:Nat} (y:φ a.block=some (r,I)):
  ∃L,RelL G φ l L∧L.length=n*size∧a.spot=none∧ ∀W1:World,W1.heap=W.heap→ ∀m c,(Builtin.firstCells size n (.slice (some ⟨r,a.off,none⟩) m c)).run P W1= .ok L.toArray W1:=by
 obtain ⟨L,E,g,B,K⟩:=cellsAt_ok J h y
 refine ⟨L,E,g,B,fun W1 M m c=> ?_⟩
 have:=run_loadCells_list (P:=P) W1 ⟨r,a.off,none⟩ L (fun j V D=>by rw [heap_cell M];exact K j V D)
 simp only [Builtin.firstCells]
 rw [←g]
 exact this
theorem appended_ok (hi:Inv P G base φ st W) {elem:TypeId} {x X z:Value} {xs:List Value} {k size:Nat} {u:TypeDesc} (h:appendedB P G elem size x st.heap=some (xs,k)) (D:appendKind x u=true) (I:Rel G φ x X)
  (N:zeroB P G elem=some z) (O:z.cells.size=size) (h0:0<size): ∃Xs,RelL G φ xs Xs∧AppArg P W size z u X k Xs:=by
 have g: ∀v,(∀k n,v≠Value.int k n)→appendKind v u=true→ ∀q,u≠ .int q:=by
  intro v Q D q E
  subst E
  cases v<;>first|exact absurd rfl (Q _ _)|(simp [appendKind] at D)
 unfold appendedB at h
 split at h
 ·cases h
  rw [I.slice_nil]
  exact ⟨[],.nil,.slice (g _ (by simp) D) fun W1 _=>by simp [Builtin.firstCells]⟩
 ·rename_i a n c
  split at h
  ·rename_i l U
   cases h
   obtain ⟨r,κ,_,S,Y⟩:=I.slice_inv
   obtain ⟨L,hL,M,_,y⟩:=firstCells_ok hi U S
   refine ⟨L,hL,?_⟩
   rcases Y with ⟨c',_,rfl⟩|⟨c',_,rfl⟩
   ·exact .slice (g _ (by simp) D) fun W1 K=>y W1 K _ _
   ·exact .slice (g _ (by simp) D) fun W1 K=>y W1 K _ _
  ·cases h
 ·rename_i b
  split at h
  ·cases h
   rw [I.string]
   exact ⟨_,byteVals_free b,.string (g _ (by simp) D)⟩
  ·cases h
 ·rename_i n
  rw [N] at h
  simp only at h
  split at h
  ·rename_i B
   cases h
   have B:=Nat.le_of_ble_eq_true B
   obtain ⟨i,qa,Z,J⟩:=zeroB_ok N
   rw [I.int]
   have E: ∃q,u= .int q:=by cases u<;>simp [appendKind] at D ⊢
   obtain ⟨q,E⟩:=E
   exact ⟨_,zerosB_free J (k*z.cells.size) (by omega),.zeros E B⟩
  ·cases h
 ·cases h
theorem drop_post (y:Inv P G base φ st W) (b:Nat):Post P G base φ st W ⟨dropB st.heap b,st.next,Nat.min st.low b⟩ φ W:=by
 have g: ∀c o,look (dropB st.heap b) c=some o→look st.heap c=some o∧c≠b:=fun c o h=>by
  rw [look_dropB] at h
  split at h
  ·cases h
  ·rename_i I;exact ⟨h,fun e=>I e.symm⟩
 refine ⟨.rfl,fun _ _ h=> .inl h,fun c J κ' B D=>(by rw [B] at D;cases D),?_,Nat.le_refl _,Nat.min_le_left _ _,?_,fun _ _ _=>rfl,Nat.le_refl _,rfl,rfl,rfl⟩
 ·exact ⟨y.dom,fun c o h=>y.wf c o (g c o h).1,y.srt.sublist (sub_dropB _ _),fun c o r E h=>y.obj c o r E (g c o h).1,fun c d o q r E l B D=>y.inj c d o q r E l (g c o B).1 (g d q D).1,y.low⟩
 ·intro c _ I
  have B:c<Nat.min st.low b:=I
  have D:c<b:=Nat.lt_of_lt_of_le B (Nat.min_le_right _ _)
  show look (dropB st.heap b) c=_
  rw [look_dropB,if_neg (by omega)]
theorem grow_post (B:Inv P G base φ st W) (D:base≤W.heap.size) (h:φ st.next=none) {elem:TypeId} {size n cap:Nat} {cs Cs Z:List Value} (y:sizeB P elem=some size) (hrel:RelL G φ cs Cs) (_hlen:cs.length=n*size) (E:Z.length=(cap - n)*size) (_hcap:n≤cap):
  Post P G base φ st W ⟨(st.next,.row cs elem true false)::st.heap,st.next+1,st.low⟩ (φ.add st.next (W.heap.size,cap - n)) (W.drew.alloc (.cells (Cs++Z).toArray elem)):=by
 have g:=Phi.add_le (x:=(W.heap.size,cap - n)) h
 refine new_post (W1:=W.drew) B D h _ _ _ rfl rfl rfl rfl ⟨(Cs++Z).toArray,(0,0),size,?_,?_,.inr y,?_,by simp,fun _ i _=>by simp⟩
 ·show (W.heap.push _)[W.heap.size]? =_
  simp
 ·have:((Cs++Z).toArray.toList).take cs.length=Cs:=by
   rw [hrel.1]
   exact List.take_left
  rw [this]
  exact hrel.mono g
 ·simp [E,←hrel.1]
theorem take_post (E:Inv P G base φ st W) (hf:φ st.next=none) {b r κ κ':Nat} {cs:List Value} {elem:TypeId} {ext:Bool} {new:List Value} (hl:look st.heap b=some (.row cs elem ext false)) (Q:φ b=some (r,κ))
  {C C':Array Value} {Y:Nat×Nat} {size:Nat} (U:W.heap[r]? =some (.cells C elem Y)) (h6: ∀i,i<C.size→ ¬(Y.1≤i∧i<Y.2)) (hs:sizeB P elem=some size) (qg:C'.size=C.size) (hC:C'.size=new.length+κ'*size) (hrel:RelL G φ new (C'.toList.take new.length)):
  Post P G base φ st W ⟨(st.next,.row new elem true false)::dropB st.heap b,st.next+1,Nat.min st.low b⟩ (φ.add st.next (r,κ')) (W.setRow r C'):=by
 have N:=Phi.add_le (x:=(r,κ')) hf
 have hd:=E.dom _ _ _ Q
 have hw:=E.wf _ _ hl
 have X: ∀c o,look (dropB st.heap b) c=some o→look st.heap c=some o∧c≠b:=fun c o h=>by
  rw [look_dropB] at h
  split at h
  ·cases h
  ·rename_i L;exact ⟨h,fun e=>L e.symm⟩
 have lk: ∀c o,look ((st.next,AObj.row new elem true false)::dropB st.heap b) c=some o→(c=st.next∧o= .row new elem true false)∨(c≠st.next∧c≠b∧look st.heap c=some o):=fun c o h=>by
  rw [look_cons] at h
  split at h
  ·rename_i e;cases h;exact .inl ⟨e.symm,rfl⟩
  ·rename_i e;exact .inr ⟨fun x=>e x.symm,(X c o h).2,(X c o h).1⟩
 have g: ∀c x,φ.add st.next (r,κ') c=some x→(c=st.next∧x=(r,κ'))∨(c≠st.next∧φ c=some x):=fun c x h=>by
  unfold Phi.add at h
  split at h
  ·rename_i e;cases h;exact .inl ⟨e,rfl⟩
  ·rename_i e;exact .inr ⟨e,h⟩
 refine ⟨N,?_,?_,?_,Nat.le_succ _,Nat.min_le_left _ _,?_,?_,by simp,rfl,rfl,rfl⟩
 ·intro c x D
  rcases g c x D with ⟨rfl,rfl⟩|⟨_,h⟩
  ·exact .inr ⟨Nat.le_refl _,Nat.lt_succ_self _⟩
  ·exact .inl h
 ·intro c M l D hn
  rcases g c _ D with ⟨rfl,e⟩|⟨_,h⟩
  ·cases e
   exact .inr ⟨b,κ,Q,Nat.min_le_right _ _,hw.2⟩
  ·rw [hn] at h;cases h
 ·refine ⟨?_,?_,?_,?_,?_,by have:=E.low;show G≤st.next+1;omega⟩
  ·intro c M l D
   rw [setRow_size]
   rcases g c _ D with ⟨rfl,e⟩|⟨_,h⟩
   ·cases e;exact ⟨E.low,hd.2⟩
   ·exact E.dom c M l h
  ·intro c o L
   show G≤c∧c<st.next+1
   rcases lk c o L with ⟨rfl,_⟩|⟨_,_,h⟩
   ·exact ⟨E.low,Nat.lt_succ_self _⟩
   ·have:=E.wf c o h;omega
  ·refine List.pairwise_cons.2 ⟨fun x D=> ?_,E.srt.sublist (sub_dropB _ _)⟩
   have D:=(sub_dropB _ _).subset D
   obtain ⟨k,q⟩:=x
   have key: ∀l:Hp,(k,q)∈l→ ∃q',look l k=some q':=by
    intro l
    induction l with
    |nil=>intro h;cases h
    |cons y l ih=>
     intro h
     rw [look_cons]
     split
     ·exact ⟨_,rfl⟩
     ·rename_i B
      rcases List.mem_cons.1 h with e|e
      ·exact absurd (by rw [←e]) B
      ·exact ih e
   obtain ⟨q',qa⟩:=key _ D
   exact (E.wf k q' qa).2
  ·intro c o M l L D
   rcases lk c o L with ⟨rfl,rfl⟩|⟨B,O,h⟩
   ·rcases g _ _ D with ⟨_,e⟩|⟨B,_⟩
    ·cases e
     exact ⟨C',Y,size,setRow_heap W r C C' elem Y U,hrel.mono N,.inr hs,hC,by simp,fun _ i qf=>h6 i (by omega)⟩
    ·exact absurd rfl B
   ·rcases g _ _ D with ⟨e,_⟩|⟨_,I⟩
    ·exact absurd e B
    ·refine (E.obj c o M l h I).mono N (setRow_other W r M _ fun e=> ?_)
     subst e
     exact O (E.inj _ _ _ _ _ _ _ h hl I Q)
  ·intro c d o q M l l' L qe D I
   rcases lk c o L with ⟨rfl,_⟩|⟨B,O,h⟩<;>rcases lk d q qe with ⟨rfl,_⟩|⟨K,Z,h'⟩
   ·rfl
   ·rcases g _ _ D with ⟨_,e⟩|⟨B,_⟩
    ·cases e
     rcases g _ _ I with ⟨e,_⟩|⟨_,J⟩
     ·exact absurd e K
     ·exact absurd (E.inj _ _ _ _ _ _ _ h' hl J Q) Z
    ·exact absurd rfl B
   ·rcases g _ _ I with ⟨_,e⟩|⟨B,_⟩
    ·cases e
     rcases g _ _ D with ⟨e,_⟩|⟨_,J⟩
     ·exact absurd e B
     ·exact absurd (E.inj _ _ _ _ _ _ _ h hl J Q) O
    ·exact absurd rfl B
   ·rcases g _ _ D with ⟨e,_⟩|⟨_,qb⟩
    ·exact absurd e B
    ·rcases g _ _ I with ⟨e,_⟩|⟨_,qd⟩
     ·exact absurd e K
     ·exact E.inj _ _ _ _ _ _ _ h h' qb qd
 ·intro c L qc
  have U:c<Nat.min st.low b:=qc
  have h2:c<b:=Nat.lt_of_lt_of_le U (Nat.min_le_right _ _)
  show look ((st.next,AObj.row new elem true false)::dropB st.heap b) c=_
  rw [look_cons,if_neg (show ¬st.next=c by omega),look_dropB,if_neg (by omega)]
 ·intro M _ S
  refine setRow_other W r M _ fun e=> ?_
  subst e
  have U:b<Nat.min st.low b:=S b κ Q hw.2
  have h2:b<b:=Nat.lt_of_lt_of_le U (Nat.min_le_right _ _)
  omega
end
end

section
open Go Go.RowKit
section
variable {P:Program} {G base:Nat} {φ:Phi} {st st':St} {W:World}
theorem splice_mid: ∀(C:List Value) (n:Nat) (X:List Value),n+X.length≤C.length→splice C n X=C.take n++X++C.drop (n+X.length):=by
 intro C
 induction C with
 |nil=>
  intro n X h
  simp only [List.length_nil] at h
  have:X=[]:=List.eq_nil_of_length_eq_zero (by omega)
  subst this
  have:n=0:=by simpa using h
  subst this
  rfl
 |cons c C g=>
  intro n X h
  cases n with
  |succ n=>
   simp only [splice,List.take_succ_cons,List.cons_append]
   rw [g n X (by simp at h;omega),show n+1+X.length=(n+X.length)+1 by omega,List.drop_succ_cons]
  |zero=>
   cases X with
   |nil=>simp [splice]
   |cons x X=>
    simp only [splice]
    rw [g 0 X (by simp at h ⊢;omega)]
    simp
theorem zeroCells_len (z:Value) (n:Nat):(Builtin.zeroCells z.cells n).toList.length=n*z.cells.size:=by simp [Builtin.zeroCells]
theorem evAppend2_ok (hi:Inv P G base φ st W) (hb:base≤W.heap.size) {sT xT ty elem:TypeId} {u:TypeDesc} {z s S x X v:Value} {size qq:Nat} (qc:P.underlying sT=some (.slice elem)) (qa:P.underlying xT=some u)
  (qd:sizeB P elem=some size) (qF:bytesB P elem=some qq) (hz:zeroB P G elem=some z) (qR:appendKind x u=true) (h0:0<size) (D:qq≤4096) (qo:z.cells.size=size)
  (h:evAppend2 P G elem size s x st=some (v,st')) (hf:Fresh φ st st') (hs:Rel G φ s S) (hx:Rel G φ x X):
  SemOk P G base φ st W (Builtin.append_ #[sT,xT] ty #[S,X]) v st':=by
 obtain ⟨i,M,qQ⟩:=sizeB_ok qd
 obtain ⟨i2,qA,qM⟩:=bytesB_ok qF
 rw [M] at qA
 cases qA
 obtain ⟨i3,qp,qe,qT⟩:=zeroB_ok hz
 rw [M] at qp
 cases qp
 subst qQ
 subst qM
 unfold evAppend2 at h
 split at h
 ·rename_i xs k qL
  split at h
  ·rename_i hc
   rw [Bool.and_eq_true] at hc
   have hk:=Nat.le_of_ble_eq_true hc.1
   have N:=Nat.eq_of_beq_eq_true hc.2
   obtain ⟨Xs,Y,I⟩:=appended_ok hi qL qR hx hz qo h0
   have qj:Xs.length=k*i.size:=by rw [←Y.1];exact N
   have Q: ∀(L:St) (K J:List Value) (n:Nat) (b:Option Addr) (c:Nat),S= .slice b n c→(∀W1:World,W1.heap=W.heap→(Builtin.firstCells i.size n (.slice b n c)).run P W1= .ok J.toArray W1)→RelL G φ K J→K.length=n*i.size→n≤1000000→c<n+k→
     Post P G base φ st W L φ W→L.next=st.next→φ st.next=none→growB elem (K++xs) (n+k) L=some (v,st')→SemOk P G base φ st W (Builtin.append_ #[sT,xT] ty #[S,X]) v st':=by
    intro L K J n b c hS qb hO U hn g qs qv B hg
    subst hS
    obtain ⟨rfl,rfl⟩:=put_inv hg
    have y:=run_append_out (P:=P) (W:=W) (ty:=ty) qc qa M qe h0 D I b n c J qb g (by omega)
    have qI:=grownCap_ge W (n+k) c elem
    have qH:=grow_post (P:=P) (base:=base) qs.inv hb (by rw [qv];exact B) (n:=n+k) (cap:=grownCap W (n+k) c elem) (Z:=(Builtin.zeroCells z.cells (grownCap W (n+k) c elem - (n+k))).toList) qd (hO.append Y)
     (by rw [List.length_append,U,N,Nat.add_mul]) (by rw [zeroCells_len,qo]) qI
    refine ⟨_,_,_,y,Post.trans qs (fun b qP qN=>absurd qN (by rw [qv];omega)) qH,?_⟩
    have h2:=Rel.sliceE (G:=G) (o:=0) (n:=n+k) (c:=n+k) (Phi.add_self φ L.next (W.heap.size,grownCap W (n+k) c elem - (n+k)))
    rwa [show n+k+(grownCap W (n+k) c elem - (n+k))=grownCap W (n+k) c elem by omega] at h2
   split at h
   · -- nil
    rw [hs.slice_nil]
    split at h
    ·cases h
     have qC:Xs=[]:=List.eq_nil_of_length_eq_zero (by rw [qj];simp)
     subst qC
     have y:=run_append_in (P:=P) (W:=W) (ty:=ty) qc qa M qe h0 D I none 0 0 (by omega)
     refine ⟨.slice none 0 0,φ,W,?_,Post.refl hi,.free (d:=0) rfl⟩
     rw [y]
     simp
    ·rename_i k'
     have B:φ st.next=none:=by
      obtain ⟨_,rfl⟩:=put_inv h
      exact hf _ (Nat.le_refl _)
     rw [←hs.slice_nil]
     exact Q st [] [] 0 none 0 hs.slice_nil (fun W1 _=>by simp [Builtin.firstCells]) .nil (by simp) (by omega) (by omega) (Post.refl hi) rfl B (by simpa using h)
   · -- a row
    rename_i a n cap
    split at h
    ·rename_i hn
     have hn:=Nat.le_of_ble_eq_true hn
     obtain ⟨r,κ,qS,hr,hS⟩:=hs.slice_inv
     have qr: ∃c,S= .slice (some ⟨r,a.off,none⟩) n c∧cap/2≤c∧(cap % 2=0→c=cap/2)∧(cap % 2=1→c=cap/2+κ)∧ ∀m,Rel G φ (.slice (some a) m cap) (.slice (some ⟨r,a.off,none⟩) m c):=by
      obtain ⟨ab,ao,qU⟩:=a
      cases qS
      rcases hS with ⟨c',hc,rfl⟩|⟨c',hc,rfl⟩
      ·exact ⟨_,rfl,by omega,by omega,by omega,fun m=>by subst hc;exact .sliceX hr⟩
      ·exact ⟨_,rfl,by omega,by omega,by omega,fun m=>by subst hc;exact .sliceE hr⟩
     obtain ⟨c,rfl,qW,qO,qD,hrel⟩:=qr
     clear hS
     unfold appendTo at h
     split at h
     ·rename_i cs e ext qt hl
      split at h
      · -- there is room
       rename_i g
       have g:=Nat.le_of_ble_eq_true g
       split at h
       ·rename_i L hw
        cases h
        obtain ⟨W',qk,ql,_⟩:=write_ok hi hw (a:=⟨a.block,a.off+n*i.size,none⟩) hr Y
        have y:=run_append_in (P:=P) (W:=W) (ty:=ty) qc qa M qe h0 D I (some ⟨r,a.off,none⟩) n c (by omega)
        refine ⟨_,φ,W',?_,ql,hrel (n+k)⟩
        rw [y]
        simp only [addr_add]
        rw [qk]
        rfl
       ·cases h
      ·rename_i g
       have g: ¬(n+k≤cap/2):=fun h=>by rw [Nat.ble_eq_true_of_le h] at g;cases g
       split at h
       ·cases h
       ·rename_i old qg
        obtain ⟨C,fr,s',h1,h2,h3,h4,h5,h6⟩:=hi.obj _ _ _ _ hl hr
        have qm:cellsAt st.heap a (n*i.size)=some old:=by
         unfold cellsAt
         rw [qt,hl]
         exact qg
        obtain ⟨qy,hO,qE,_,qb⟩:=firstCells_ok hi qm hr
        have U:old.length=n*i.size:=by rw [hO.1];exact qE
        split at h
        ·rename_i qK
         have qV:=qO qK
         have B:φ st.next=none:=by
          obtain ⟨_,rfl⟩:=put_inv h
          exact hf _ (Nat.le_refl _)
         exact Q st old qy n _ c rfl (fun W1 hW=>qb W1 hW n c) hO U hn (by omega) (Post.refl hi) rfl B h
        ·rename_i qz
         have qJ:=qD (by rcases Nat.mod_two_eq_zero_or_one cap with h|h;exact absurd h qz;exact h)
         split at h
         ·rename_i qB
          simp only [Bool.and_eq_true] at qB
          obtain ⟨⟨⟨E,he⟩,qi⟩,qw⟩:=qB
          have E:=Nat.eq_of_beq_eq_true E
          have he:=Nat.eq_of_beq_eq_true he
          have qi:=Nat.eq_of_beq_eq_true qi
          subst he
          have B:φ st.next=none:=by
           obtain ⟨_,rfl⟩:=put_inv h
           exact hf _ (Nat.le_refl _)
          by_cases qx:n+k≤c
          · -- in its own place
           obtain ⟨rfl,rfl⟩:=put_inv h
           have qf:C.size=c*i.size:=by
            rw [h4,qJ,Nat.add_mul,qi]
            rcases h3 with rfl|h3
            ·simp
            ·rw [qd] at h3;cases h3;rfl
           have qh:n*i.size+Xs.length≤C.size:=by
            rw [qj,qf,←Nat.add_mul]
            exact Nat.mul_le_mul_right _ qx
           have qG:=run_storeCells_any P r (n*i.size) e fr Xs 0 C W h1 (by simpa using qh) (h6 rfl) (Y.ones qw)
           have y:=run_append_in (P:=P) (W:=W) (ty:=ty) qc qa M qe h0 D I (some ⟨r,a.off,none⟩) n c qx
           have O:(old++xs).length=(n+k)*i.size:=by rw [List.length_append,U,N,Nat.add_mul]
           have hp:=take_post (P:=P) (base:=base) (κ':=c - (n+k)) (new:=old++xs) (C':=(splice C.toList (n*i.size) Xs).toArray) hi B hl hr h1 (h6 rfl) qd (by simp [splice_length])
            (by
             rw [O,←Nat.add_mul,show n+k+(c - (n+k))=c by omega]
             simp [splice_length,qf])
            (by
             rw [O,splice_mid _ _ _ (by simpa using qh)]
             have e1:(C.toList.take (n*i.size)++Xs++C.toList.drop (n*i.size+Xs.length)).take ((n+k)*i.size)=C.toList.take (n*i.size)++Xs:=by
              have e2:(C.toList.take (n*i.size)++Xs).length=(n+k)*i.size:=by
               rw [List.length_append,List.length_take,qj,Nat.add_mul,Array.length_toList]
               omega
              rw [←e2]
              exact List.take_left
             have e3:((C.toList.take (n*i.size)++Xs++C.toList.drop (n*i.size+Xs.length)).toArray.toList).take ((n+k)*i.size)=C.toList.take (n*i.size)++Xs:=e1
             rw [e3]
             refine RelL.append ?_ Y
             obtain ⟨qP,qX,qn⟩:=h2.slc qg
             rw [E,List.drop_zero,List.take_take] at qn
             rwa [Nat.min_eq_left (by omega)] at qn)
           refine ⟨.slice (some ⟨r,0,none⟩) (n+k) c,_,_,?_,hp,?_⟩
           ·rw [y]
            simp only [addr_add,E,Nat.zero_add]
            rw [qG]
            simp only [Nat.add_zero]
            rfl
           ·have h2:=Rel.sliceE (G:=G) (o:=0) (n:=n+k) (c:=n+k) (Phi.add_self φ st.next (r,c - (n+k)))
            rw [show n+k+(c - (n+k))=c by omega] at h2
            exact h2
          ·exact Q ⟨dropB st.heap a.block,st.next,Nat.min st.low a.block⟩ old qy n _ c rfl (fun W1 hW=>qb W1 hW n c) hO U hn (by omega) (drop_post hi a.block) rfl B h
         ·cases h
     ·cases h
    ·cases h
   ·cases h
  ·cases h
 ·cases h
theorem evAppend_ok (O:Inv P G base φ st W) (hb:base≤W.heap.size) {g:Array TypeId} {ty:TypeId} {s S x X v:Value} (h:evAppend P G g.toList s x st=some (v,st')) (L:Fresh φ st st') (Q:Rel G φ s S) (Y:Rel G φ x X):
  SemOk P G base φ st W (Builtin.append_ g ty #[S,X]) v st':=by
 unfold evAppend at h
 split at h
 ·rename_i M K y
  have:g= #[M,K]:=by apply Array.ext';simpa using y
  subst this
  split at h
  ·rename_i elem u I E
   split at h
   ·rename_i size U z D B hz
    split at h
    ·rename_i J
     simp only [Bool.and_eq_true] at J
     obtain ⟨⟨⟨Z,h2⟩,N⟩,h4⟩:=J
     exact evAppend2_ok O hb I E D B hz Z (blt_ok h2) (Nat.le_of_ble_eq_true N) (Nat.eq_of_beq_eq_true h4) h L Q Y
    ·cases h
   ·cases h
  ·cases h
 ·cases h
theorem evCopy_ok (Q:Inv P G base φ st W) {t:TypeId} {B:Array TypeId} {ty:TypeId} (Y:B[0]? =some t) {d D x X v:Value} (h:evCopy P t d x st=some (v,st')) (hd:Rel G φ d D) (hx:Rel G φ x X):
  SemOk P G base φ st W (Builtin.copy_ B ty #[D,X]) v st':=by
 unfold evCopy at h
 split at h
 ·rename_i elem a n c S
  split at h
  ·rename_i size I
   obtain ⟨r,κ,qc,U,hD⟩:=hd.slice_inv
   have J: ∃E,D= .slice (some ⟨r,a.off,none⟩) n E:=by rcases hD with ⟨E,_,rfl⟩|⟨E,_,rfl⟩<;>exact ⟨_,rfl⟩
   obtain ⟨E,rfl⟩:=J
   split at h
   ·rename_i b m cx
    split at h
    ·rename_i xs N
     split at h
     ·rename_i qa hw
      cases h
      obtain ⟨r2,Z,O,L,hX⟩:=hx.slice_inv
      obtain ⟨Xs,M,qb,_,K⟩:=firstCells_ok Q N L
      obtain ⟨W',g,y,_⟩:=write_ok Q hw U M
      refine ⟨_,φ,W',?_,y,.free (d:=0) rfl⟩
      rcases hX with ⟨cc,_,rfl⟩|⟨cc,_,rfl⟩<;>
       simp [Builtin.copy_,Y,run_underlying S,Builtin.lenOf,run_sizeOf I,K W rfl,g]
     ·cases h
    ·cases h
   ·cases h
  ·cases h
 ·cases h
end
end

section
open Go Go.RowKit
section
variable {P:Program} {G base:Nat} {φ:Phi} {st st':St} {W:World}
def CallR (P:Program) (g:FuncId) (Args:Array Value) (W:World) (R:Value→World→Prop):Prop:=
 (∃V W',(callFunc g Args).run P W= .ok (.value V) W'∧R V W')∨(∃f h,(callFunc g Args).run P W= .ok (.enter f h) W∧Calls P f h W fun e W'=> ∃V,e= .returned V∧R V W')
def CallSound (P:Program) (G base:Nat) (T:World→Prop) (callf:CallF):Prop:=
 ∀(g:FuncId) (args:List Value) (st:St) (v:Value) (st':St) (φ:Phi) (W:World) (Args:Array Value),callf g args st=some (v,st')→Inv P G base φ st W→base≤W.heap.size→T W→Fresh φ st st'→RelL G φ args Args.toList→
  CallR P g Args W fun V W'=> ∃h,Post P G base φ st W st' h W'∧Rel G h v V
theorem wp_value {o:Oper} {A:Act} {W':World} {V:Value} {K:Act→World→Prop} {Q:Exit→Act→World→Prop} (h:(execOp A.eval o).run P W= .ok (.value V) W') (k:K (A.put o.dst V) W'):o.wp P A W K Q:=by
 unfold Oper.wp
 rw [h]
 exact k
theorem wp_skip' {o:Oper} {A:Act} {W':World} {K:Act→World→Prop} {Q:Exit→Act→World→Prop} (h:(execOp A.eval o).run P W= .ok .skip W') (k:K (A.put o.dst undef) W'):o.wp P A W K Q:=by
 unfold Oper.wp
 rw [h]
 exact k
theorem wp_callR {o:Oper} {A:Act} {g:FuncId} {Args:Array Value} {K:Act→World→Prop} {Q:Exit→Act→World→Prop} {R:Value→World→Prop} (h: ∀n W',(callFunc g Args).run P W= .ok n W'→(execOp A.eval o).run P W= .ok n W')
  (E:CallR P g Args W R) (k: ∀V W',R V W'→K (A.put o.dst V) W'):o.wp P A W K Q:=by
 rcases E with ⟨V,W',y,B⟩|⟨f,J,y,B⟩
 ·exact wp_value (h _ _ y) (k _ _ B)
 ·unfold Oper.wp
  rw [h _ _ y]
  refine Calls.mono B fun e W' D=> ?_
  obtain ⟨V,rfl,I⟩:=D
  exact k _ _ I
theorem RelL.map_ops {ts:Ts} {A:Act}: ∀{l:List Operand},(∀y∈l,Rel G φ (ρ ts y) (A.eval y))→RelL G φ (l.map (ρ ts)) (l.map A.eval)
 |[],_=> .nil
 |y::l,h=> .cons (h y (by simp)) (RelL.map_ops fun z g=>h z (by simp [g]))
theorem on1_ok {ts:Ts} {l:List Operand} {f:Value→Res} {r:Value×St} (h:on1 (l.map (ρ ts)) f=some r): ∃a,l=[a]∧f (ρ ts a)=some r:=by
 unfold on1 at h
 split at h
 ·rename_i x e
  match l,e with
  |[a],e=>simp at e;exact ⟨a,rfl,by rw [e];exact h⟩
 ·cases h
theorem on2_ok {ts:Ts} {l:List Operand} {f:Value→Value→Res} {r:Value×St} (h:on2 (l.map (ρ ts)) f=some r): ∃a b,l=[a,b]∧f (ρ ts a) (ρ ts b)=some r:=by
 unfold on2 at h
 split at h
 ·rename_i x y e
  match l,e with
  |[a,b],e=>simp at e;exact ⟨a,b,rfl,by rw [e.1,e.2];exact h⟩
 ·cases h
theorem tyAt_ok {g:Array TypeId} {f:TypeId→Res} {r:Value×St} (h:tyAt g f=some r): ∃t,g[0]? =some t∧f t=some r:=by
 unfold tyAt at h
 split at h
 ·rename_i t l e
  exact ⟨t,by rw [←Array.getElem?_toList,e];rfl,h⟩
 ·cases h
theorem tyAt2_ok {g:Array TypeId} {f:TypeId→Res} {r:Value×St} (h:tyAt2 g f=some r): ∃t u,g= #[t,u]∧f t=some r:=by
 unfold tyAt2 at h
 split at h
 ·rename_i t u e
  exact ⟨t,u,by apply Array.ext';simpa using e,h⟩
 ·cases h
theorem arr1 {args:Array Operand} {a:Operand} (h:args.toList=[a]):args= #[a]:=by apply Array.ext';simpa using h
theorem arr2 {args:Array Operand} {a b:Operand} (h:args.toList=[a,b]):args= #[a,b]:=by apply Array.ext';simpa using h
theorem calm_sound (U:Above G φ) {callf:CallF} {ts:Ts} {o:Oper} {A:Act} {v:Value} (S:calmB o.op=true) (h:evOp P G callf ts o st=some (v,st')) (B: ∀x∈o.op.operands,Rel G φ (ρ ts x) (A.eval x)):
  st'=st∧ ∃V,Rel G φ v V∧ ∀W,(execOp A.eval o).run P W= .ok (.value V) W:=by
 obtain ⟨dst,op,ty,pos,after,E⟩:=o
 unfold evOp opD at h
 have g: ∀{s:Sem Value} {v:Value},(st'=st∧CalmOk P G φ s v)→execOp A.eval ⟨dst,op,ty,pos,after,E⟩=(do pure (.value (←s)))→st'=st∧ ∃V,Rel G φ v V∧ ∀W,(execOp A.eval ⟨dst,op,ty,pos,after,E⟩).run P W= .ok (.value V) W:=by
  intro s v ⟨K,V,L,I⟩ X
  refine ⟨K,V,L,fun W=> ?_⟩
  rw [X]
  simp only [Sem.run_bind,I,Result.andThen_ok]
  rfl
 cases op<;>simp only [calmB] at S<;>first|cases S|skip
 case move x=>simp only [hMove] at h;cases h;exact ⟨rfl,_,B x (by simp [Op.operands]),fun W=>rfl⟩
 case assign x=>simp only [hMove] at h;cases h;exact ⟨rfl,_,B x (by simp [Op.operands]),fun W=>rfl⟩
 case pick c a b=>
  simp only [hPick] at h
  have:=evPick_ok (P:=P) h (B c (by simp [Op.operands])) (B a (by simp [Op.operands])) (B b (by simp [Op.operands]))
  obtain ⟨K,V,L,I⟩:=this
  refine ⟨K,V,L,fun W=> ?_⟩
  have I:=I W
  simp only [execOp,Sem.run_bind,Result.andThen] at I ⊢
  split at I
  ·simp only [Sem.run_pure] at I ⊢
   cases I
   rfl
  ·cases I
 case build t Q=>
  simp only [hBuild] at h
  exact g (evBuild_ok h (RelP.of_map (A:=A) fun y J=>B y.2 (by simp only [Op.operands];simp;exact ⟨y.1,by simpa using J⟩))) (by simp only [execOp];congr 2;apply Array.ext';simp)
 case nilCheck x=>
  simp only [hNil] at h
  obtain ⟨K,L,I⟩:=evNil_ok h (B x (by simp [Op.operands]))
  subst L
  refine ⟨K,_,B x (by simp [Op.operands]),fun W=> ?_⟩
  rcases I with ⟨a,N⟩|⟨t,u,N⟩|⟨f,F,C,N⟩<;>simp [execOp,N]
 case binOp op t x y yt=>simp only [hBin] at h;exact g (evBin_ok U (x:=x) (y:=y) h (B x (by simp [Op.operands])) (B y (by simp [Op.operands]))) rfl
 case unOp op t x=>
  simp only [hUn] at h
  exact g (evPure_ok (args:=[ρ ts x]) (Args:=[A.eval x]) (s:=fun l=>Op.unary op (l.getD 0 undef)) U h (.cons (B x (by simp [Op.operands])) .nil)) rfl
 case makeInterface t x=>simp only [hIface] at h;exact g (evIface_ok h (B x (by simp [Op.operands]))) rfl
 case makeFunc fn first D=>
  simp only [hFunc] at h
  cases h
  refine ⟨rfl,_,?_,fun W=>rfl⟩
  have K:RelL G φ (first.map (ρ ts)).toList (first.map A.eval).toList:=by
   rw [Array.toList_map,Array.toList_map];exact RelL.map_ops fun y J=>B y (by simp [Op.operands];exact .inl (by simpa using J))
  have L:RelL G φ (D.map (ρ ts)).toList (D.map A.eval).toList:=by
   rw [Array.toList_map,Array.toList_map];exact RelL.map_ops fun y J=>B y (by simp [Op.operands];exact .inr (by simpa using J))
  exact .func (relA.2 K).1 (relA.2 K).2 (relA.2 L).1 (relA.2 L).2
 case slice t x Z hi Y=>
  simp only [hSlice] at h
  exact g (evSlice_ok h (B x (by simp [Op.operands])) (RelO.map fun y J=>B y (by simp [Op.operands,J])) (RelO.map fun y J=>B y (by simp [Op.operands,J])) (RelO.map fun y J=>B y (by simp [Op.operands,J]))) rfl
 case fieldAddr s x f=>simp only [hFieldAddr] at h;exact g (evFieldAddr_ok h (B x (by simp [Op.operands]))) rfl
 case field t x f=>simp only [hField] at h;exact g (evField_ok h (B x (by simp [Op.operands]))) rfl
 case indexAddr t x O=>simp only [hIndexAddr] at h;exact g (evIndexAddr_ok h (B x (by simp [Op.operands])) (B O (by simp [Op.operands]))) rfl
 case index t x O=>simp only [hIndex] at h;exact g (evIndex_ok h (B x (by simp [Op.operands])) (B O (by simp [Op.operands]))) rfl
 case typeAssert x t0 M ok=>simp only [hAssert] at h;exact g (evAssert_ok h (B x (by simp [Op.operands]))) rfl
 case extract t i=>simp only [hExtract] at h;exact g (evExtract_ok h (B t (by simp [Op.operands]))) rfl
theorem calmT_sound (hG:Above G φ) {callf:CallF} {ts:Ts} {o:Oper} {A:Act} {v:Value} (y:calmT ts o.op=true) (h:evOp P G callf ts o st=some (v,st')) (N: ∀x∈o.op.operands,Rel G φ (ρ ts x) (A.eval x)):
  st'=st∧ ∃V,Rel G φ v V∧ ∀W,(execOp A.eval o).run P W= .ok (.value V) W:=by
 by_cases L:calmB o.op=true
 ·exact calm_sound hG L h N
 obtain ⟨dst,op,ty,pos,after,E⟩:=o
 cases op<;>first|exact absurd y L|skip
 case convert D g x=>
  simp only [calmT] at y
  split at y
  ·rename_i k n Y
   have Z:=N x (by simp [Op.operands])
   unfold evOp opD at h
   simp only [hConvert,Y] at h
   have h':evPure P G [.int k n] (convert D g ([Value.int k n].getD 0 undef)) st=some (v,st'):=by
    unfold evConvert at h
    split at h<;>first|exact h|(rename_i e;cases e)|(rename_i e _;cases e)|(rename_i e _ _;cases e)|skip
   rw [Y] at Z
   obtain ⟨O,V,U,M⟩:=evPure_ok (args:=[.int k n]) (Args:=[A.eval x]) (s:=fun l=>convert D g (l.getD 0 undef)) hG h' (.cons Z .nil)
   refine ⟨O,V,U,fun W=> ?_⟩
   have:=M W
   simp only [execOp,Sem.run_bind]
   change ((convert D g (A.eval x)).run P W).andThen _=_
   have e:(convert D g (A.eval x)).run P W= .ok V W:=this
   rw [e]
   rfl
  ·cases y
 case call c=>
  obtain ⟨B,args,K⟩:=c
  cases B with
  |value f=>exact absurd y L
  |invoke r n=>exact absurd y L
  |builtin b=>
   cases b<;>first|exact absurd y L|skip
   simp only [calmT] at y
   unfold evOp opD at h
   simp only [hCall,evCall] at h
   simp only [evBuiltin] at h
   obtain ⟨x,I,h⟩:=on1_ok h
   obtain ⟨t,S,J⟩:=tyAt_ok h
   have X:=arr1 I;subst X
   simp only at y
   split at y
   ·cases y
   ·rename_i Q
    have J:evLen P t (ρ ts x) st=some (v,st'):=by
     unfold evLenA at J
     split at J
     ·rename_i e;exact absurd e (Q _)
     ·exact J
    obtain ⟨O,V,U,M⟩:=evLen_ok (ty:=ty) S J (N x (by simp [Op.operands,Call.operands]))
    refine ⟨O,V,U,fun W=> ?_⟩
    have e:execOp A.eval ⟨dst,.call ⟨.builtin .len,#[x],K⟩,ty,pos,after,E⟩=(do pure (.value (←Builtin.len_ K ty #[A.eval x]))):=by simp [execOp,resolve,invoke,builtin]
    rw [e]
    simp only [Sem.run_bind,M W,Result.andThen_ok]
    rfl
theorem run_method {t:TypeId} {y:String} {g:FuncId} (h:methodB P t y=some g) (V:Value) (n:Nat) (W:World):(method (n+1) t V y).run P W= .ok (g,V) W:=by
 unfold methodB at h
 split at h
 ·rename_i i I
  split at h
  ·rename_i m J
   split at h
   ·rename_i f M K E
    have B:m.path= #[]:=by apply Array.ext';simpa using K
    split at h
    ·rename_i e D
     split at h
     ·cases h
      simp [method,typeInfo,I,J,B,follow,E,receiverAt,run_underlying D,Place.get]
     ·cases h
    ·rename_i d L D
     split at h
     ·cases h
     ·cases h
      simp only [method,Sem.run_bind,typeInfo,run_program,Result.andThen_ok,I,Sem.run_pure,J,B,follow,E,receiverAt,run_underlying D]
      cases d<;>first|rfl|exact absurd rfl (L _)
    ·cases h
   ·cases h
  ·cases h
 ·cases h
theorem evCall_ok {T:World→Prop} (S:Inv P G base φ st W) (hb:base≤W.heap.size) {callf:CallF} (qd:CallSound P G base T callf) (hT:T W) {ts:Ts} {c:Call} {ty:TypeId} {A:Act} {v:Value} {o:Oper} (ho:o.op= .call c) (qb:o.type=ty)
  (h:evCall P G callf ts c ty st=some (v,st')) (hf:Fresh φ st st') (hx: ∀x∈c.operands,Rel G φ (ρ ts x) (A.eval x)) {K:Act→World→Prop} {Q:Exit→Act→World→Prop}
  (k: ∀I V W',Post P G base φ st W st' I W'→Rel G I v V→K (A.put o.dst V) W'):o.wp P A W K Q:=by
 have B:RelL G φ (c.args.toList.map (ρ ts)) (c.args.toList.map A.eval):=RelL.map_ops fun y hy=>hx y (by simp only [Call.operands];exact Array.mem_append.2 (.inr (by simpa using hy)))
 have M:execOp A.eval o=(do let d ←resolve A.eval c o.type;invoke d.target d.args):=by unfold execOp;rw [ho]
 unfold evCall at h
 split at h
 ·rename_i f D
  split at h
  ·rename_i g first N qh
   have hF:=hx f (by simp [Call.operands,D])
   rw [qh] at hF
   obtain ⟨F,C,ql,qg,qj⟩:=hF.func_inv
   have hrel:RelL G φ (first.toList++c.args.toList.map (ρ ts)++N.toList) (F++c.args.map A.eval++C).toList:=by
    simp only [Array.toList_append,Array.toList_map]
    exact (qg.append B).append qj
   have qa:=qd _ _ _ _ _ _ _ _ h S hb hT hf hrel
   refine wp_callR (fun n W' hr=> ?_) qa fun V W' ⟨I,X,O⟩=>k I V W' X O
   rw [M]
   simp only [resolve,D,ql,Deferred.ofValue,Sem.run_bind,Sem.run_pure,Result.andThen_ok,invoke]
   exact hr
  ·cases h
 ·rename_i r qn D
  split at h
  ·rename_i t u qm
   split at h
   ·rename_i g hm
    have hR:=hx r (by simp [Call.operands,D])
    rw [qm] at hR
    obtain ⟨U,qi,hU⟩:=hR.iface_inv
    have hrel:RelL G φ (u::c.args.toList.map (ρ ts)) (#[U]++c.args.map A.eval).toList:=by
     simp only [Array.toList_append,Array.toList_map]
     exact .cons hU B
    have qa:=qd _ _ _ _ _ _ _ _ h S hb hT hf hrel
    refine wp_callR (fun n W' hr=> ?_) qa fun V W' ⟨I,X,O⟩=>k I V W' X O
    rw [M]
    have qc:P.types.size+Made.depth=(P.types.size+99)+1:=rfl
    have qe:=run_method (P:=P) hm U (P.types.size+99) W
    simp only [resolve,D,qi,Sem.run_bind,Sem.run_pure,Result.andThen_ok,invoke]
    have e1:(#[Value.iface t U]++c.args.map A.eval)[0]? =some (.iface t U):=by rw [Array.getElem?_append];rfl
    have e2:(#[Value.iface t U]++c.args.map A.eval).extract 1 (#[Value.iface t U]++c.args.map A.eval).size=c.args.map A.eval:=by
     apply Array.ext'
     simp
     exact List.take_of_length_le (by simp)
    rw [e1]
    simp only [e2,callMethod,Sem.run_bind,run_program,Result.andThen_ok,qc,qe]
    exact hr
   ·cases h
  ·cases h
 ·rename_i b D
  have done: ∀{s:Sem Value},SemOk P G base φ st W s v st'→(execOp A.eval o=do pure (.value (←s)))→o.wp P A W K Q:=by
   intro s ⟨V,I,W',X,O,h3⟩ he
   refine wp_value (W':=W') (V:=V) ?_ (k I V W' O h3)
   rw [he]
   simp only [Sem.run_bind,X,Result.andThen_ok]
   rfl
  have calm: ∀{s:Sem Value},(st'=st∧CalmOk P G φ s v)→(execOp A.eval o=do pure (.value (←s)))→o.wp P A W K Q:=by
   intro s ⟨X,V,O,h3⟩ he
   subst X
   exact done ⟨V,φ,W,h3 W,Post.refl S,O⟩ he
  have L: ∀l:List Operand,c.args.toList=l→execOp A.eval o=builtin b c.argTypes o.type (c.args.map fun| .const _=>true|_=>false) (l.map A.eval).toArray:=by
   intro l hl
   rw [M]
   simp only [resolve,D,invoke]
   have:c.args.map A.eval=(l.map A.eval).toArray:=by apply Array.ext';simp [hl]
   rw [this]
   rfl
  have hG:=S.above
  obtain ⟨qf,args,Y⟩:=c
  simp only at*
  subst D
  have J: ∀x∈args.toList,Rel G φ (ρ ts x) (A.eval x):=fun x qk=>hx x (by simp [Call.operands];simpa using qk)
  cases b<;>simp only [evBuiltin] at h<;>first|cases h;done|skip
  case append=>
   obtain ⟨x,y,B,h⟩:=on2_ok h
   have E:=arr2 B;subst E
   exact done (evAppend_ok (ty:=o.type) S hb h hf (J x (by simp)) (J y (by simp))) (by rw [L _ B];rfl)
  case copy=>
   obtain ⟨x,y,B,h⟩:=on2_ok h
   obtain ⟨t,Z,O⟩:=tyAt_ok h
   have E:=arr2 B;subst E
   exact done (evCopy_ok (ty:=o.type) S Z O (J x (by simp)) (J y (by simp))) (by rw [L _ B];rfl)
  case len=>
   obtain ⟨x,B,h⟩:=on1_ok h
   obtain ⟨t,Z,O⟩:=tyAt_ok h
   have E:=arr1 B;subst E
   obtain ⟨rfl,V,h3,h4⟩:=evLenA_ok (ty:=o.type) S Z O (J x (by simp))
   exact done ⟨V,φ,W,h4,Post.refl S,h3⟩ (by rw [L _ B];rfl)
  case unsafeSliceData=>
   obtain ⟨x,B,h⟩:=on1_ok h
   have E:=arr1 B;subst E
   exact calm (evSliceData_ok (ts:=Y) (ty:=o.type) h (J x (by simp))) (by rw [L _ B];rfl)
  case unsafeString=>
   obtain ⟨x,y,B,h⟩:=on2_ok h
   obtain ⟨t,u,rfl,O⟩:=tyAt2_ok h
   have E:=arr2 B;subst E
   exact done (evUnsafeString_ok (it:=u) (ty:=o.type) S O (J x (by simp)) (J y (by simp))) (by rw [L _ B];rfl)
  case min=>
   have:=evPure_ok (args:=args.toList.map (ρ ts)) (Args:=args.toList.map A.eval) (s:=fun l=>Builtin.min_ Y ty l.toArray) hG h B
   exact calm this (by rw [L _ rfl,qb];rfl)
  case max=>
   have:=evPure_ok (args:=args.toList.map (ρ ts)) (Args:=args.toList.map A.eval) (s:=fun l=>Builtin.max_ Y ty l.toArray) hG h B
   exact calm this (by rw [L _ rfl,qb];rfl)
theorem op_sound {T:World→Prop} (E:Inv P G base φ st W) (L:base≤W.heap.size) {callf:CallF} (U:CallSound P G base T callf) (hT:T W) {ts:Ts} {o:Oper} {A:Act} {v:Value}
  (h:evOp P G callf ts o st=some (v,st')) (J:Fresh φ st st') (D: ∀x∈o.op.operands,Rel G φ (ρ ts x) (A.eval x)) {K:Act→World→Prop} {Q:Exit→Act→World→Prop}
  (k: ∀I V W',Post P G base φ st W st' I W'→Rel G I v V→K (A.put o.dst V) W'):o.wp P A W K Q:=by
 by_cases Z:calmB o.op=true
 ·obtain ⟨rfl,V,M,g⟩:=calm_sound E.above Z h D
  exact wp_value (g W) (k φ V W (Post.refl E) M)
 have done: ∀{s:Sem Value},SemOk P G base φ st W s v st'→(execOp A.eval o=do pure (.value (←s)))→o.wp P A W K Q:=by
  intro s ⟨V,I,W',h1,h2,h3⟩ he
  refine wp_value (W':=W') (V:=V) ?_ (k I V W' h2 h3)
  rw [he]
  simp only [Sem.run_bind,h1,Result.andThen_ok]
  rfl
 obtain ⟨dst,op,ty,pos,after,N⟩:=o
 have h0:=h
 unfold evOp opD at h
 cases op<;>simp only [calmB,not_true_eq_false] at Z<;>simp only [hNone] at h<;>first|cases h;done|skip
 case alloc e=>simp only [hAlloc] at h;exact done (evAlloc_ok E L h J) rfl
 case box e x=>simp only [hBox] at h;exact done (evBox_ok E L h J (D x (by simp [Op.operands]))) rfl
 case buildSlice t qb Y=>
  simp only [hBuildSlice] at h
  exact done (evBuildSlice_ok E L h J (RelP.of_map (A:=A) fun y S=>D y.2 (by simp only [Op.operands];simp;exact ⟨y.1,by simpa using S⟩))) (by simp only [execOp];congr 2;apply Array.ext';simp)
 case load t a=>
  simp only [hLoad] at h
  obtain ⟨rfl,V,M,g⟩:=evLoad_ok E h (D a (by simp [Op.operands]))
  exact done ⟨V,φ,W,g,Post.refl E,M⟩ rfl
 case store t a x=>
  simp only [hStore] at h
  obtain ⟨rfl,W',g,B⟩:=evStore_ok E h (D a (by simp [Op.operands])) (D x (by simp [Op.operands]))
  refine wp_skip' (W':=W') ?_ (k φ undef W' B (.free (d:=1) rfl))
  simp only [execOp,Sem.run_bind,g,Result.andThen_ok]
  rfl
 case makeMap t r=>simp only [hMakeMap] at h;exact done (evMakeMap_ok E L h J (RelO.map fun y S=>D y (by simp [Op.operands,S]))) rfl
 case lookup t x ix ok=>
  simp only [hLookup] at h
  obtain ⟨rfl,V,M,g⟩:=evLookup_ok E h (D x (by simp [Op.operands])) (D ix (by simp [Op.operands]))
  exact done ⟨V,φ,W,g,Post.refl E,M⟩ rfl
 case mapUpdate t m O x=>
  simp only [hMapUpdate] at h
  obtain ⟨rfl,W',g,B⟩:=evMapUpdate_ok E h (D m (by simp [Op.operands])) (D O (by simp [Op.operands])) (D x (by simp [Op.operands]))
  refine wp_skip' (W':=W') ?_ (k φ undef W' B (.free (d:=1) rfl))
  simp only [execOp,Sem.run_bind,g,Result.andThen_ok]
  rfl
 case insert t m O x=>
  simp only [hMapUpdate] at h
  obtain ⟨rfl,W',g,B⟩:=evMapUpdate_ok E h (D m (by simp [Op.operands])) (D O (by simp [Op.operands])) (D x (by simp [Op.operands]))
  refine wp_skip' (W':=W') ?_ (k φ undef W' B (.free (d:=1) rfl))
  simp only [execOp,Sem.run_bind,g,Result.andThen_ok]
  rfl
 case convert qa dst x=>simp only [hConvert] at h;exact done (evConvert_ok E L h J (D x (by simp [Op.operands]))) rfl
 case makeSlice t l c=>simp only [hMakeSlice] at h;exact done (evMakeSlice_ok E L h J (D l (by simp [Op.operands])) (D c (by simp [Op.operands]))) rfl
 case range t x=>simp only [hRange] at h;exact done (evRange_ok E L h J (D x (by simp [Op.operands]))) rfl
 case next it s=>
  simp only [hNext] at h
  cases s
  ·cases h
  ·exact done (evNext_ok E h (D it (by simp [Op.operands]))) rfl
 case call c=>
  simp only [hCall] at h
  exact evCall_ok E L U hT rfl rfl h J (fun x X=>D x (by simpa [Op.operands] using X)) k
end
end

section
open Go Go.RowKit
theorem Tr.get_e (k:Nat):Tr.get .e k=undef:=rfl
theorem Tr.get_n (l:Tr) (v:Value) (r:Tr) (k:Nat):Tr.get (.n l v r) k=if k=0 then v else if k % 2=1 then l.get (k/2) else r.get (k/2 - 1):=by
 have e:Tr.get (.n l v r) k=br (Nat.beq k 0) v (br (Nat.beq (Nat.mod k 2) 1) (l.get (Nat.div k 2)) (r.get (Nat.sub (Nat.div k 2) 1))):=rfl
 rw [e]
 by_cases h:k=0
 ·rw [if_pos h,beq_yes h]
 ·rw [if_neg h,beq_no h]
  by_cases g:k % 2=1
  ·rw [if_pos g,show Nat.beq (Nat.mod k 2) 1=true from beq_yes g];rfl
  ·rw [if_neg g,show Nat.beq (Nat.mod k 2) 1=false from beq_no g];rfl
theorem Tr.get_split (t:Tr) (k:Nat):t.get k=if k=0 then t.val else if k % 2=1 then t.left.get (k/2) else t.right.get (k/2 - 1):=by
 cases t with
 |e=>
  have:Tr.get .e k=undef:=rfl
  rw [this]
  show undef=if k=0 then undef else if k % 2=1 then Tr.get .e (k/2) else Tr.get .e (k/2 - 1)
  split
  ·rfl
  ·split<;>rfl
 |n l v r=>exact Tr.get_n l v r k
theorem Tr.put_succ (f:Nat) (t:Tr) (k:Nat) (v:Value):Tr.put (f+1) t k v=if k=0 then .n t.left v t.right else if k % 2=1 then .n (Tr.put f t.left (k/2) v) t.val t.right else .n t.left t.val (Tr.put f t.right (k/2 - 1) v):=by
 have e:Tr.put (f+1) t k v=br (Nat.beq k 0) (.n t.left v t.right) (br (Nat.beq (Nat.mod k 2) 1) (.n (Tr.put f t.left (Nat.div k 2) v) t.val t.right) (.n t.left t.val (Tr.put f t.right (Nat.sub (Nat.div k 2) 1) v))):=rfl
 rw [e]
 by_cases h:k=0
 ·rw [if_pos h,beq_yes h]
 ·rw [if_neg h,beq_no h]
  by_cases g:k % 2=1
  ·rw [if_pos g,show Nat.beq (Nat.mod k 2) 1=true from beq_yes g];rfl
  ·rw [if_neg g,show Nat.beq (Nat.mod k 2) 1=false from beq_no g];rfl
theorem Tr.get_put: ∀(f:Nat) (t:Tr) (k:Nat) (v:Value) (j:Nat),k+2≤2^f→(Tr.put f t k v).get j=if k=j then v else t.get j:=by
 intro f
 induction f with
 |zero=>intro t k v j h;simp at h
 |succ f E=>
  intro t k v j h
  rw [Nat.pow_succ] at h
  rw [Tr.put_succ]
  by_cases B:k=0
  ·rw [if_pos B,Tr.get_n,Tr.get_split t j]
   subst B
   by_cases y:j=0
   ·subst y;simp
   ·simp [y,show ¬(0=j) from fun e=>y e.symm]
  ·rw [if_neg B]
   by_cases D:k % 2=1
   ·rw [if_pos D,Tr.get_n,Tr.get_split t j]
    by_cases y:j=0
    ·subst y;rw [if_pos rfl,if_neg B,if_pos rfl]
    ·rw [if_neg y]
     by_cases g:j % 2=1
     ·rw [if_pos g,E _ _ _ _ (by omega),if_neg y,if_pos g]
      by_cases e:k=j
      ·subst e;simp
      ·rw [if_neg e,if_neg (by omega)]
     ·rw [if_neg g,if_neg y,if_neg g,if_neg (by omega)]
   ·rw [if_neg D,Tr.get_n,Tr.get_split t j]
    by_cases y:j=0
    ·subst y;rw [if_pos rfl,if_neg B,if_pos rfl]
    ·rw [if_neg y]
     by_cases g:j % 2=1
     ·rw [if_pos g,if_neg y,if_pos g,if_neg (by omega)]
     ·rw [if_neg g,E _ _ _ _ (by omega),if_neg y,if_neg g]
      by_cases e:k=j
      ·subst e;simp
      ·rw [if_neg e,if_neg (by omega)]
theorem get_ofArgs (args:List Value) (h:args.length≤4000) (j:Nat):(ofArgs args).get j=args.getD j undef:=by
 have key: ∀(l:List Value) (k:Nat) (t:Tr),k+l.length≤4000→ ∀j,(List.rec (motive:=fun _=>Nat→Tr→Tr) (fun _ t=>t) (fun v _ g k t=>g (Nat.add k 1) (t.put 12 k v)) l k t).get j=if k≤j∧j<k+l.length then l.getD (j - k) undef else t.get j:=by
  intro l
  induction l with
  |nil=>intro k t _ j;simp;omega
  |cons v l g=>
   intro k t I j
   have y:k+1+l.length≤4000:=by simp at I;omega
   have:=g (k+1) (t.put 12 k v) y j
   show (List.rec (motive:=fun _=>Nat→Tr→Tr) (fun _ t=>t) (fun v _ g k t=>g (Nat.add k 1) (t.put 12 k v)) l (k+1) (t.put 12 k v)).get j=_
   rw [this,Tr.get_put 12 t k v j (by omega)]
   simp only [List.length_cons]
   by_cases B:k=j
   ·subst B
    rw [if_neg (by omega),if_pos rfl,if_pos (by omega)]
    simp
   ·rw [if_neg B]
    by_cases D:k+1≤j∧j<k+1+l.length
    ·rw [if_pos D,if_pos (by omega)]
     obtain ⟨d,rfl⟩: ∃d,j=k+1+d:=⟨j - (k+1),by omega⟩
     rw [show k+1+d - (k+1)=d by omega,show k+1+d - k=d+1 by omega]
     simp
    ·rw [if_neg D,if_neg (by omega)]
 have:=key args 0 .e (by omega) j
 unfold ofArgs
 rw [this]
 by_cases E:j<args.length
 ·rw [if_pos (by omega)];simp
 ·rw [if_neg (by omega),Tr.get_e]
  simp [List.getD,List.getElem?_eq_none (Nat.le_of_not_lt E)]
def RelT (G:Nat) (φ:Phi) (m:Nat) (ts:Ts) (A:Act):Prop:=A.tmps.size=m∧m≤4000∧ ∀t,Rel G φ (ts.get t) (A.tmps.getD t undef)
theorem rel_undef {G:Nat} {φ:Phi}:Rel G φ undef undef:= .free (d:=1) rfl
theorem RelT.mono {G:Nat} {φ y:Phi} {m:Nat} {ts:Ts} {A:Act} (h:RelT G φ m ts A) (g:φ.le y):RelT G y m ts A:=⟨h.1,h.2.1,fun t=>(h.2.2 t).mono g⟩
theorem get_putT {m:Nat} {ts:Ts} {d:Option Tmp} {v:Value} (g:m≤4000) (t:Nat):(putT m ts d v).get t=if d=some t∧t<m then v else ts.get t:=by
 unfold putT
 cases d with
 |none=>simp
 |some d=>
  show (br (Nat.blt d m) (ts.put 12 d v) ts).get t=_
  by_cases h:d<m
  ·rw [show Nat.blt d m=true from Nat.ble_eq_true_of_le h]
   show (ts.put 12 d v).get t=_
   rw [Tr.get_put 12 ts d v t (Nat.le_trans (Nat.add_le_add_right (Nat.le_of_lt (Nat.lt_of_lt_of_le h g)) 2) (by decide))]
   by_cases e:d=t
   ·subst e;simp [h]
   ·simp [e]
  ·have D:Nat.blt d m=false:=by
    cases y:Nat.blt d m
    ·rfl
    ·exact absurd (blt_ok y) h
   rw [D]
   show ts.get t=_
   rw [if_neg]
   rintro ⟨e,B⟩
   cases e
   exact h B
theorem getD_put {A:Act} {d:Option Tmp} {V:Value} (t:Nat):(A.put d V).tmps.getD t undef=if d=some t∧t<A.tmps.size then V else A.tmps.getD t undef:=by
 unfold Act.put
 cases d with
 |none=>simp
 |some d=>
  simp only [Array.getD_eq_getD_getElem?]
  by_cases e:d=t
  ·subst e
   by_cases h:d<A.tmps.size
   ·simp [h]
   ·simp [h]
  ·rw [Array.getElem?_setIfInBounds_ne e]
   simp [e]
theorem RelT.put {G:Nat} {φ:Phi} {m:Nat} {ts:Ts} {A:Act} (h:RelT G φ m ts A) {v V:Value} (g:Rel G φ v V) (d:Option Tmp):RelT G φ m (putT m ts d v) (A.put d V):=by
 refine ⟨?_,h.2.1,fun t=> ?_⟩
 ·rw [←h.1];unfold Act.put;cases d<;>simp
 ·rw [get_putT h.2.1,getD_put,h.1]
  split
  ·exact g
  ·exact h.2.2 t
theorem Act.put_def (A:Act) (d:Option Tmp) (V:Value):(A.put d V).defers=A.defers:=by unfold Act.put;cases d<;>rfl
theorem operand_rel {G:Nat} {φ:Phi} {m:Nat} {ts:Ts} {A:Act} (h:RelT G φ m ts A) {x:Operand} (y:operandB G x=true):Rel G φ (ρ ts x) (A.eval x):=by
 cases x with
 |tmp t=>exact h.2.2 t
 |const v=>exact .free (d:=6) y
 |global g=>exact free_ptr (blt_ok y)
 |func f=>exact .free (d:=1) rfl
theorem consts_ok {G:Nat} {ops:Array Oper} (h:constsB G ops=true) {o:Oper} (y:o∈ops.toList) {x:Operand} (g:x∈o.op.operands):operandB G x=true:=by
 unfold constsB at h
 rw [List.all_eq_true] at h
 have:=h o y
 rw [List.all_eq_true] at this
 exact this x (by simpa using g)
theorem Rel.bool_inv {G:Nat} {φ:Phi} {v:Value} {b:Bool} (h:Rel G φ v (.bool b)):v= .bool b:=by
 cases h with
 |free _=>rfl
theorem want_ok {G:Nat} {φ:Phi} {ops:Array Oper} {o:Oper} {ts:Ts} {A:Act} (h: ∀j w d,o.guard=some (j,w)→(ops[j]?).bind (·.dst)=some d→Rel G φ (ts.get d) (A.tmps.getD d undef)):Region.wanted o (yielded ops A.tmps)=wantB ops ts o:=by
 unfold Region.wanted wantB
 cases D:o.guard with
 |none=>rfl
 |some p=>
  obtain ⟨j,w⟩:=p
  have e:yielded ops A.tmps j=yieldB ops ts j:=by
   unfold yielded yieldB
   cases I:(ops[j]?).bind (·.dst) with
   |none=>rfl
   |some d=>
    have g:=h j w d D I
    simp only [Option.bind_some]
    have E:A.tmps.getD d undef=(A.tmps[d]?).getD undef:=by simp
    rw [E] at g
    cases B:A.tmps[d]? with
    |none=>
     rw [B] at g
     cases y:ts.get d with
     |bool b=>rw [y] at g;have:=g.bool;simp [undef] at this
     |_=>rfl
    |some V=>
     rw [B] at g
     simp only [Option.getD_some] at g
     cases y:ts.get d with
     |bool b=>rw [y] at g;rw [g.bool]
     |_=>
      rw [y] at g
      cases V with
      |bool b=>have:=g.bool_inv;simp at this
      |_=>rfl
  simp only [e]
  cases yieldB ops ts j with
  |none=>simp
  |some b=>cases b<;>cases w<;>rfl
end

section
open Go Go.RowKit
section
variable {P:Program} {G base:Nat} {T:World→Prop}
def ExRel:Ex→Exit→Prop
 | .normal,.normal=>True
 | .exit i,.exit j=>i=j
 | .ret,.ret=>True
 |_,_=>False
def After (P:Program) (G base:Nat) (m:Nat) (φ:Phi) (st:St) (W:World) (A:Act) (ex:Ex) (ts':Ts) (st':St) (e:Exit) (h:Act) (W':World):Prop:=
 ExRel ex e∧ ∃g,Post P G base φ st W st' g W'∧RelT G g m ts' h∧h.defers=A.defers
abbrev FreshU (φ:Phi) (st:St):Prop:= ∀b,st.next≤b→φ b=none
theorem FreshU.post {φ g:Phi} {st st':St} {W W':World} (h:FreshU φ st) (B:Post P G base φ st W st' g W'):FreshU g st':=by
 intro b D
 cases e:g b with
 |none=>rfl
 |some x=>
  rcases B.new b x e with y|y
  ·rw [h b (Nat.le_trans B.next D)] at y;cases y
  ·omega
theorem Post.trans' {φ B g:Phi} {st st' y:St} {W W' D:World} (h:Post P G base φ st W st' B W') (E:FreshU φ st) (k:Post P G base B st' W' y g D):Post P G base φ st W y g D:=
 h.trans (fun b I _=>E b I) k
def Stays (base:Nat) (T:World→Prop):Prop:= ∀W W',Below base W W'→T W→T W'
def RecSound (P:Program) (G base:Nat) (T:World→Prop) (g:Rec):Prop:=
 ∀(m:Nat) (c:Code) (ts:Ts) (st:St) (ex:Ex) (ts':Ts) (st':St) (φ:Phi) (W:World) (A:Act),g m c ts st=some (ex,ts',st')→Inv P G base φ st W→base≤W.heap.size→T W→FreshU φ st→RelT G φ m ts A→
  c.wp P (After P G base m φ st W A ex ts' st') A W
theorem evOps_cons (callf:CallF) (m:Nat) (ops:Array Oper) (o:Oper) (l:List Oper) (ts:Ts) (st:St):
  evOps P G callf m ops (o::l) ts st=if wantB ops ts o=true then evOpsK m o (evOps P G callf m ops l) ts (evOp P G callf ts o st) else evOps P G callf m ops l (putT m ts o.dst undef) st:=by
 have e:evOps P G callf m ops (o::l) ts st=br (wantB ops ts o) (evOpsK m o (evOps P G callf m ops l) ts (evOp P G callf ts o st)) (evOps P G callf m ops l (putT m ts o.dst undef) st):=rfl
 rw [e]
 cases wantB ops ts o<;>rfl
theorem evOps_sound (hT:Stays base T) {callf:CallF} (qa:CallSound P G base T callf) {m:Nat} {ops:Array Oper} (hc:constsB G ops=true) {ts':Ts} {st':St} {E:Phi} {I:St} {K:World} {A0:Act} (h0:Inv P G base E I K) (O:base≤K.heap.size) (S:FreshU E I) (Y:T K)
  {Q:Exit→Act→World→Prop} (hQ: ∀D A' W',Post P G base E I K st' D W'→RelT G D m ts' A'→A'.defers=A0.defers→Q .normal A' W'):
  ∀(l:List Oper) (i:Nat) (ts:Ts) (st:St) (φ:Phi) (W:World) (A:Act),ops.toList.drop i=l→evOps P G callf m ops l ts st=some (ts',st')→Post P G base E I K st φ W→RelT G φ m ts A→A.defers=A0.defers→
   wpOps P ops Q (List.range' i l.length) A W:=by
 intro l
 induction l with
 |nil=>
  intro i ts st φ W A _ h J L X
  have h:some (ts,st)=some (ts',st'):=h
  cases h
  exact hQ φ A W J L X
 |cons o l ih=>
  intro i ts st φ W A g h J L X
  have M:ops[i]? =some o:=by
   have h1:(ops.toList.drop i)[0]? =some o:=by rw [g];rfl
   rw [List.getElem?_drop] at h1
   simpa using h1
  have N:o∈ops.toList:=by
   have:o∈ops.toList.drop i:=by rw [g];simp
   exact List.mem_of_mem_drop this
  have y:ops.toList.drop (i+1)=l:=by
   have:(ops.toList.drop i).drop 1=l:=by rw [g];rfl
   rwa [List.drop_drop] at this
  have hw:=want_ok (G:=G) (φ:=φ) (ops:=ops) (o:=o) (ts:=ts) (A:=A) fun j w d _ _=>L.2.2 d
  have Z:base≤W.heap.size:=Nat.le_trans O J.size
  have qb:T W:=hT K W (J.below h0 O) Y
  rw [evOps_cons] at h
  simp only [List.length_cons,List.range'_succ,wpOps,M]
  rw [hw]
  by_cases B:wantB ops ts o=true
  ·rw [if_pos B] at h ⊢
   unfold evOpsK at h
   split at h
   ·rename_i v qc he
    refine .inl (op_sound J.inv Z qa qb he (fun b hb=>(S.post J) b hb) (fun x hx=>operand_rel L (consts_ok hc N hx)) fun D V W' U hv=> ?_)
    exact ih (i+1) _ _ D W' _ y h (J.trans' S U) ((L.mono U.le).put hv _) ((Act.put_def _ _ _).trans X)
   ·cases h
  ·rw [if_neg B] at h ⊢
   exact ih (i+1) _ _ φ W _ y h J (L.put rel_undef _) ((Act.put_def _ _ _).trans X)
def OrcSound (P:Program) (G base:Nat) (T:World→Prop) (orc:Orc):Prop:=
 ∀(g:FuncId) (args:List Value) (st:St) (v:Value) (φ:Phi) (W:World) (Args:Array Value),orc g args st.heap=some v→Inv P G base φ st W→base≤W.heap.size→T W→RelL G φ args Args.toList→
  CallR P g Args W fun V W'=>Rel G φ v V∧Below W.heap.size W W'
def NoNum (P:Program):Prop:= ∀(g:FuncId) (fn:Func),P.funcs[g]? =some fn→(fn.name== "runtime.NumGoroutine")=false
theorem below_post {φ:Phi} {st:St} {W W':World} (g:Inv P G base φ st W) (h:Below W.heap.size W W'):Post P G base φ st W st φ W':=by
 refine ⟨.rfl,fun _ _ h=> .inl h,fun b r y E D=>(by rw [E] at D;cases D),?_,Nat.le_refl _,Nat.le_refl _,fun _ _ _=>rfl,fun r I _=>h.block r I,h.size,h.os,h.tape,h.output⟩
 exact ⟨fun b r y B=>by have:=g.dom b r y B;exact ⟨this.1,this.2.1,Nat.lt_of_lt_of_le this.2.2 h.size⟩,g.wf,g.srt,fun b o r y J B=>(g.obj b o r y J B).mono .rfl (h.block r (g.dom b r y B).2.2),g.inj,g.low⟩
theorem cut_post {φ D:Phi} {st st':St} {W W':World} (g:Post P G base φ st W st' D W'):Post P G base φ st W ⟨cutB st'.heap st.next,st'.next,st'.low⟩ D W':=by
 have B:=g.inv
 have y: ∀c o,look (cutB st'.heap st.next) c=some o→look st'.heap c=some o:=fun c o h=>by
  rw [look_cutB B.srt] at h
  split at h
  ·exact h
  ·cases h
 refine ⟨g.le,g.new,g.newr,?_,g.next,g.low,?_,g.frame,g.size,g.os,g.tape,g.output⟩
 ·exact ⟨B.dom,fun c o h=>B.wf c o (y c o h),B.srt.sublist (sub_cutB _ _),fun c o r I h=>B.obj c o r I (y c o h),fun c d o q r I l K L=>B.inj c d o q r I l (y c o K) (y d q L),B.low⟩
 ·intro c J E
  show look (cutB st'.heap st.next) c=_
  rw [look_cutB B.srt,if_pos J]
  exact g.same c J E
theorem low_post {φ D:Phi} {st st':St} {W W':World} (g:Post P G base φ ⟨st.heap,st.next,st.next⟩ W st' D W'):Post P G base φ st W ⟨st'.heap,st'.next,Nat.min st.low st'.low⟩ D W':=by
 have y:Nat.min st.low st'.low≤st'.low:=Nat.min_le_right _ _
 refine ⟨g.le,g.new,?_,⟨g.inv.dom,g.inv.wf,g.inv.srt,g.inv.obj,g.inv.inj,g.inv.low⟩,g.next,Nat.min_le_left _ _,fun b K Q=>g.same b K (Nat.lt_of_lt_of_le Q y),fun r L B=>g.frame r L fun b I K S=>Nat.lt_of_lt_of_le (B b I K S) y,g.size,g.os,g.tape,g.output⟩
 intro b r I M N
 rcases g.newr b r I M N with h|⟨c,l,O,J,E⟩
 ·exact .inl h
 ·exact .inr ⟨c,l,O,Nat.le_trans y J,E⟩
theorem Inv.mark {φ:Phi} {st:St} {W:World} (h:Inv P G base φ st W) (l:Nat):Inv P G base φ ⟨st.heap,st.next,l⟩ W:=⟨h.dom,h.wf,h.srt,h.obj,h.inj,h.low⟩
def resF (A:Act) (x:ResultVar):Sem Value:=
 match x with
 | .tmp t=>pure (A.tmps.getD t undef)
 | .cell a t=>do loadVar t (←asAddr (A.tmps.getD a undef))
theorem resB_ok {φ:Phi} {st:St} {W:World} (M:Inv P G base φ st W) {m:Nat} {ts:Ts} {A:Act} (J:RelT G φ m ts A): ∀{rs:List ResultVar} {l:List Value},resB P st.heap ts rs=some l→
  ∃L,RelL G φ l L∧(rs.mapM (resF A)).run P W= .ok L W:=by
 intro rs
 induction rs with
 |nil=>intro l h;simp only [resB] at h;cases h;exact ⟨[],.nil,rfl⟩
 |cons x rs I=>
  intro l h
  cases x with
  |tmp t=>
   simp only [resB] at h
   split at h
   ·rename_i r B
    cases h
    obtain ⟨L,D,g⟩:=I B
    refine ⟨_,.cons (J.2.2 t) D,?_⟩
    have E:(resF A (.tmp t)).run P W= .ok (A.tmps.getD t undef) W:=rfl
    simp only [List.mapM_cons,Sem.run_bind,Sem.run_pure,Result.andThen_ok,E,g]
   ·cases h
  |cell a t=>
   simp only [resB] at h
   split at h
   ·rename_i v r K B
    cases h
    obtain ⟨L,D,g⟩:=I B
    obtain ⟨V,N,Q,O,y⟩:=loadB_ok M K (J.2.2 a)
    refine ⟨_,.cons N D,?_⟩
    have E:(resF A (.cell a t)).run P W= .ok V W:=by simp [resF,O,asAddr,y]
    simp only [List.mapM_cons,Sem.run_bind,Sem.run_pure,Result.andThen_ok,E,g]
   ·cases h
theorem results_ok {φ:Phi} {st:St} {W:World} (E:Inv P G base φ st W) {m:Nat} {ts:Ts} {A:Act} (D:RelT G φ m ts A) {fn:Func} {l:List Value} (h:resB P st.heap ts fn.results.toList=some l):
  ∃V,Rel G φ (retB l) V∧(results fn A.tmps).run P W= .ok V W:=by
 obtain ⟨L,g,y⟩:=resB_ok E D h
 have e:(results fn A.tmps).run P W= .ok (if h:L.toArray.size=1 then L.toArray[0] else .tuple L.toArray) W:=by
  unfold results
  rw [Array.mapM_eq_mapM_toList]
  change Sem.run P (do
   let vs ←List.toArray<$>List.mapM (resF A) fn.results.toList
   pure (if h:vs.size=1 then vs[0] else .tuple vs)) W=_
  simp only [Sem.run_bind,Sem.run_map,y,Result.andThen_ok]
  rfl
 rw [e]
 match l,g with
 |[],g=>rw [g.nil_inv];exact ⟨_,Rel.tupleL (l:=[]) (L:=[]) .nil,rfl⟩
 |[v],g=>
  obtain ⟨V,K,rfl,I,B⟩:=g.cons_inv
  rw [B.nil_inv]
  exact ⟨V,I,rfl⟩
 |v::w::l,g=>
  have J: ¬(L.toArray.size=1):=by
   have:=g.1
   simp at this ⊢
   omega
  rw [dif_neg J]
  exact ⟨_,Rel.tupleL g,rfl⟩
theorem evEnter_sound (_hT:Stays base T) (hN:NoNum P) {L:Rec} (S:RecSound P G base T L) {g:FuncId} {args:List Value} {st:St} {v:Value} {st':St} {φ:Phi} {W:World} {Args:Array Value}
  (h:evEnter P G L g args st=some (v,st')) (hi:Inv P G base φ st W) (hb:base≤W.heap.size) (qe:T W) (hf:FreshU φ st) (ha:RelL G φ args Args.toList):
  (callFunc g Args).run P W= .ok (.enter g Args) W∧Calls P g Args W fun e W'=> ∃V,e= .returned V∧ ∃B,Post P G base φ st W st' B W'∧Rel G B v V:=by
 unfold evEnter at h
 split at h
 ·cases h
 ·rename_i fn M
  split at h
  ·cases h
  ·rename_i U D
   split at h
   ·rename_i hc
    rw [Bool.and_eq_true] at hc
    have qi:=Nat.le_of_ble_eq_true hc.1
    have qc:=Nat.le_of_ble_eq_true hc.2
    refine ⟨?_,?_⟩
    ·have hn:=hN g fn M
     have qj:fn.body.isNone=false:=by rw [D];rfl
     have qh: ¬fn.name= "runtime.NumGoroutine" :=by simpa using hn
     simp [callFunc,M,qh,D]
    ·have J:Args.size=args.length:=by rw [ha.1];simp
     have qf:RelT G φ fn.ntmps (ofArgs args) {tmps:=Args++Array.replicate (fn.ntmps - Args.size) undef,defers:=[]}:=by
      refine ⟨by simp;omega,qc,fun t=> ?_⟩
      rw [get_ofArgs args (by omega)]
      show Rel G φ _ ((Args++Array.replicate (fn.ntmps - Args.size) undef).getD t undef)
      by_cases Y:t<args.length
      ·have h1:=ha.2 t Y
       have h2:(Args++Array.replicate (fn.ntmps - Args.size) undef).getD t undef=Args.toList.getD t undef:=by
        simp [Array.getD_eq_getD_getElem?,Array.getElem?_append,J,Y,List.getD]
       rw [h2]
       exact h1
      ·have h1:args.getD t undef=undef:=by simp [List.getD,List.getElem?_eq_none (Nat.le_of_not_lt Y)]
       have h2:(Args++Array.replicate (fn.ntmps - Args.size) undef).getD t undef=undef:=by
        simp only [Array.getD_eq_getD_getElem?,Array.getElem?_append,J,if_neg Y,Array.getElem?_replicate]
        split<;>rfl
       rw [h1,h2]
       exact rel_undef
     generalize K:L fn.ntmps U (ofArgs args) ⟨st.heap,st.next,st.next⟩=qb at h
     have fin: ∀(ex:Ex) (N:Ts) (y:St),qb=some (ex,N,y)→(ex= .normal∨ex= .ret)→(match resB P y.heap N fn.results.toList with
       |some l=>match pf G 6 (retB l)&&Nat.ble st.next y.low with
        |true=>some (retB l,(⟨cutB y.heap st.next,y.next,Nat.min st.low y.low⟩:St))
        |false=>some (retB l,⟨y.heap,y.next,Nat.min st.low y.low⟩)
       |none=>none)=some (v,st')→Calls P g Args W fun e W'=> ∃V,e= .returned V∧ ∃B,Post P G base φ st W st' B W'∧Rel G B v V:=by
      intro ex N y qa qd h
      rw [qa] at K
      have qg:=S _ _ _ _ _ _ _ φ W _ K (hi.mark _) hb qe hf qf
      refine calls_of_wp M D (Code.wp_mono ?_ qg)
      rintro e A' W' ⟨he,B,hp,O,hd⟩
      split at h
      ·rename_i l hl
       obtain ⟨V,Z,I⟩:=results_ok hp.inv O hl
       have X:=low_post hp
       have key: ∃V,(results fn A'.tmps).run P W'= .ok V W'∧ ∃E,Post P G base φ st W st' E W'∧Rel G E v V:=by
        split at h
        ·rename_i hq
         cases h
         exact ⟨V,I,B,cut_post X,Z⟩
        ·cases h
         exact ⟨V,I,B,X,Z⟩
       obtain ⟨V,I,E,Q,Z⟩:=key
       rcases qd with rfl|rfl<;>cases e<;>first|exact he.elim|exact ⟨hd,V,I,V,rfl,E,Q,Z⟩
      ·cases h
     unfold evRet at h
     split at h
     ·exact fin _ _ _ rfl (.inl rfl) h
     ·exact fin _ _ _ rfl (.inr rfl) h
     ·cases h
   ·cases h
end
end

section
open Go Go.RowKit
section
variable {P:Program} {G base:Nat} {T:World→Prop}
def DrawnSound (P:Program) (G base:Nat) (T:World→Prop) (callf:CallF):Prop:=
 ∀(m:Nat) (ops:Array Oper) (ts:Ts) (st:St) (ts':Ts) (st':St) (φ:Phi) (W:World) (A:Act) (id:Nat),constsB G ops=true→regionB ops=true→evDrawn P G callf m ops ops.toList 0 [] ts st=some (ts',st')→
  Inv P G base φ st W→base≤W.heap.size→T W→FreshU φ st→RelT G φ m ts A→(Code.region id ops true).wp P (After P G base m φ st W A .normal ts' st') A W
theorem callF_sound (U:Stays base T) (X:NoNum P) {orc:Orc} (ho:OrcSound P G base T orc) {D:Rec} (y:RecSound P G base T D):CallSound P G base T (evCallF P G orc D):=by
 intro g args st v st' φ W Args h J L B N K
 unfold evCallF at h
 split at h
 ·rename_i v' M
  cases h
  rcases ho g args st v φ W Args M J L B K with ⟨V,W',E,I,O⟩|⟨f,Q,E,I⟩
  ·exact .inl ⟨V,W',E,φ,below_post J O,I⟩
  ·refine .inr ⟨f,Q,E,Calls.mono I ?_⟩
   rintro e W' ⟨V,Y,Z,S⟩
   exact ⟨V,Y,φ,below_post J S,Z⟩
 ·obtain ⟨E,I⟩:=evEnter_sound U X y h J L B N K
  exact .inr ⟨g,Args,E,I⟩
theorem range_zero (n:Nat):List.range n=List.range' 0 n:=List.range_eq_range'
theorem seq_next (hT:Stays base T) {D:Rec} {m:Nat} {st:St} {ex:Ex} {ts':Ts} {st':St} {φ:Phi} {W:World} {A:Act} (hi:Inv P G base φ st W) (hb:base≤W.heap.size) (S:T W) (hf:FreshU φ st) (I:RecSound P G base T D):
  ∀(b:Code) (r:ResC),evSeq D m b r=some (ex,ts',st')→(∃J y g,r=some (J,y,g)∧ ∀e B W1,After P G base m φ st W A J y g e B W1→
   match e with
   | .normal=>b.wp P (After P G base m φ st W A ex ts' st') B W1
   |e=>After P G base m φ st W A ex ts' st' e B W1):=by
 intro b r h
 unfold evSeq at h
 split at h
 ·rename_i y g
  refine ⟨.normal,y,g,rfl,?_⟩
  rintro e B W1 ⟨O,L,E,M,K⟩
  cases e<;>first|exact O.elim|skip
  have hw:=I _ _ _ _ _ _ _ L W1 B h E.inv (Nat.le_trans hb E.size) (hT W W1 (E.below hi hb) S) (hf.post E) M
  refine Code.wp_mono ?_ hw
  rintro e A2 W2 ⟨Q,U,Y,X,Z⟩
  exact ⟨Q,U,E.trans' hf Y,X,Z.trans K⟩
 ·rename_i N
  refine ⟨ex,ts',st',h,?_⟩
  intro e B W1 ha
  cases e with
  |normal=>
   have O:=ha.1
   cases ex with
   |normal=>exact absurd h (N _ _)
   |_=>exact O.elim
  |_=>exact ha
theorem codeD_sound (hT:Stays base T) (hN:NoNum P) {orc:Orc} (ho:OrcSound P G base T orc) {B:Rec} (y:RecSound P G base T B) (hd:DrawnSound P G base T (evCallF P G orc B))
  (Y: ∀(m:Nat) (b:Code) (ts:Ts) (st:St) (ex:Ex) (ts':Ts) (st':St) (φ:Phi) (W:World) (A:Act),codeD (.loop b) P G orc B m ts st=some (ex,ts',st')→Inv P G base φ st W→base≤W.heap.size→T W→FreshU φ st→RelT G φ m ts A→
   (Code.loop b).wp P (After P G base m φ st W A ex ts' st') A W):
  RecSound P G base T fun m c ts st=>codeD c P G orc B m ts st:=by
 intro m c ts st ex ts' st' φ W A h E M D L I
 have qf:=callF_sound hT hN ho y
 have next:=seq_next hT (m:=m) (A:=A) E M D L y (ex:=ex) (ts':=ts') (st':=st')
 cases c with
 |skip=>
  have h:some (Ex.normal,ts,st)=some (ex,ts',st'):=h
  cases h
  exact wp_skip ⟨trivial,φ,Post.refl E,I,rfl⟩
 |label l=>
  have h:some (Ex.normal,ts,st)=some (ex,ts',st'):=h
  cases h
  exact wp_label ⟨trivial,φ,Post.refl E,I,rfl⟩
 |exit id=>
  have h:some (Ex.exit id,ts,st)=some (ex,ts',st'):=h
  cases h
  exact wp_exit ⟨rfl,φ,Post.refl E,I,rfl⟩
 |ret=>
  have h:some (Ex.ret,ts,st)=some (ex,ts',st'):=h
  cases h
  exact wp_ret ⟨trivial,φ,Post.refl E,I,rfl⟩
 |seq a b=>
  have h:evSeq B m b (B m a ts st)=some (ex,ts',st'):=h
  obtain ⟨qh,X,U,qb,hn⟩:=next b _ h
  refine wp_seq (Code.wp_mono ?_ (y _ _ _ _ _ _ _ φ W A qb E M D L I))
  intro e A1 W1 S
  have:=hn e A1 W1 S
  cases e<;>exact this
 |cond x a b=>
  have h:evCond B m a b (ρ ts x) ts st=some (ex,ts',st'):=h
  have O: ∀t,ρ ts x= .bool t→A.eval x= .bool t:=by
   intro t ht
   cases x with
   |tmp k=>have:=I.2.2 k;change ts.get k= .bool t at ht;rw [ht] at this;exact this.bool
   |const v=>exact ht
   |global g=>cases ht
   |func f=>cases ht
  unfold evCond at h
  split at h
  ·rename_i e;exact wp_cond_true (O _ e) (y _ _ _ _ _ _ _ φ W A h E M D L I)
  ·rename_i e;exact wp_cond_false (O _ e) (y _ _ _ _ _ _ _ φ W A h E M D L I)
  ·cases h
 |block id b=>
  have h:evBlock id (B m b ts st)=some (ex,ts',st'):=h
  unfold evBlock at h
  split at h
  ·rename_i k X U N
   have hw:=y _ _ _ _ _ _ _ φ W A N E M D L I
   refine wp_block (Code.wp_mono ?_ hw)
   rintro e A1 W1 ⟨O,J⟩
   cases e<;>first|exact O.elim|skip
   rename_i j
   have O:k=j:=O
   subst O
   split at h
   ·rename_i Z
    have Z:=Nat.eq_of_beq_eq_true Z
    cases h
    simp only [Exit.inBlock,Z,if_true]
    exact ⟨trivial,J⟩
   ·rename_i Z
    have Z:k≠id:=Nat.ne_of_beq_eq_false Z
    cases h
    simp only [Exit.inBlock,Z,if_false]
    exact ⟨rfl,J⟩
  ·rename_i qc
   have hw:=y _ _ _ _ _ _ _ φ W A h E M D L I
   refine wp_block (Code.wp_mono ?_ hw)
   intro e A1 W1 S
   cases e with
   |exit j=>
    have O:=S.1
    cases ex with
    |exit k=>exact absurd h (qc _ _ _)
    |_=>exact O.elim
   |_=>exact S
 |loop b=>exact Y m b ts st ex ts' st' φ W A h E M D L I
 |scope b=>
  have h:B m b ts st=some (ex,ts',st'):=h
  refine wp_scope_straight (Code.wp_mono ?_ (y _ _ _ _ _ _ _ φ W A h E M D L I))
  intro e A1 W1 S
  cases e with
  |goto l=>have:=S.1;cases ex<;>exact this.elim
  |_=>exact S
 |region id ops Q=>
  have h:evRegion P G orc B m ops Q ts st=some (ex,ts',st'):=h
  have hc:constsB G ops=true:=by
   cases hc:constsB G ops
   ·unfold evRegion at h;rw [hc] at h;cases h
   ·rfl
  unfold evRegion at h
  rw [hc] at h
  cases Q with
  |false=>
   simp only at h
   cases N:evOps P G (evCallF P G orc B) m ops ops.toList ts st with
   |none=>rw [N] at h;cases h
   |some r=>
    obtain ⟨X,U⟩:=r
    rw [N] at h
    cases h
    refine wp_region ?_
    rw [range_zero]
    have qa:ops.size=ops.toList.length:=by simp
    rw [qa]
    exact evOps_sound hT qf hc E M L D (fun qe A' W' hp qd qg=>⟨trivial,qe,hp,qd,qg⟩) ops.toList 0 ts st φ W A (by simp) N (Post.refl E) I rfl
  |true=>
   simp only at h
   cases K:regionB ops with
   |false=>rw [K] at h;cases h
   |true=>
    rw [K] at h
    simp only at h
    cases N:evDrawn P G (evCallF P G orc B) m ops ops.toList 0 [] ts st with
    |none=>rw [N] at h;cases h
    |some r=>
     obtain ⟨X,U⟩:=r
     rw [N] at h
     cases h
     exact hd m ops ts st _ _ φ W A id hc K N E M D L I
 |_=>cases h
theorem least {p:Nat→Prop} (h: ∃n,p n): ∃n,p n∧ ∀k,k<n→ ¬p k:=by
 obtain ⟨n,E⟩:=h
 induction n using Nat.strongRecOn with
 |_ n D=>
  by_cases B: ∃k,k<n∧p k
  ·obtain ⟨k,y,g⟩:=B
   exact D k y g
  ·exact ⟨n,E,fun k y g=>B ⟨k,y,g⟩⟩
open Classical in
noncomputable def leastN (p:Nat→Prop):Nat:=if h: ∃n,p n then (least h).choose else 0
theorem leastN_le {p:Nat→Prop} {n:Nat} (h:p n):leastN p≤n:=by
 have g: ∃n,p n:=⟨n,h⟩
 unfold leastN
 rw [dif_pos g]
 have:=(least g).choose_spec
 rcases Nat.lt_or_ge n (least g).choose with B|y
 ·exact absurd h (this.2 n B)
 ·exact y
theorem leastN_spec {p:Nat→Prop} (h: ∃n,p n):p (leastN p):=by
 unfold leastN
 rw [dif_pos h]
 exact (least h).choose_spec.1
theorem ec_succ (orc:Orc) (n:Nat) (m:Nat) (c:Code) (ts:Ts) (st:St):ec P G orc (n+1) m c ts st=codeD c P G orc (ec P G orc n) m ts st:=rfl
theorem loop_sound (hT:Stays base T) {orc:Orc} {n:Nat} (S: ∀k,k≤n→RecSound P G base T (ec P G orc k)) (m:Nat) (b:Code) (ts:Ts) (st:St) (ex:Ex) (ts':Ts) (st':St) (φ:Phi) (W:World) (A:Act)
  (h:codeD (.loop b) P G orc (ec P G orc n) m ts st=some (ex,ts',st')) (hi:Inv P G base φ st W) (hb:base≤W.heap.size) (qd:T W) (hf:FreshU φ st) (hr:RelT G φ m ts A):
  (Code.loop b).wp P (After P G base m φ st W A ex ts' st') A W:=by
 let R:Act→World→Nat→Prop:=fun a w k=>k≤n+1∧ ∃D B g,ec P G orc k m (.loop b) D B=some (ex,ts',st')∧Post P G base φ st W B g w∧RelT G g m D a∧a.defers=A.defers
 refine wp_loop (fun a w=> ∃k,R a w k) (fun a w=>leastN (R a w)) ⟨n+1,Nat.le_refl _,ts,st,φ,h,Post.refl hi,hr,rfl⟩ ?_
 intro a w qc
 obtain ⟨hk,D,B,g,y,I,O,N⟩:=leastN_spec qc
 generalize qf:leastN (R a w)=k at hk y
 cases k with
 |zero=>cases y
 |succ k=>
  have y:evSeq (ec P G orc k) m (.loop b) (ec P G orc k m b D B)=some (ex,ts',st'):=y
  have E:=S k (by omega)
  have X:base≤w.heap.size:=Nat.le_trans hb I.size
  have U:T w:=hT W w (I.below hi hb) qd
  have Q:=hf.post I
  unfold evSeq at y
  split at y
  ·rename_i qe st2 qb
   refine Code.wp_mono ?_ (E _ _ _ _ _ _ _ g w a qb I.inv X U Q O)
   rintro e a2 Z ⟨Y,J,L,K,M⟩
   cases e<;>first|exact Y.elim|skip
   have hR:R a2 Z k:=⟨by omega,qe,st2,J,y,I.trans' hf L,K,M.trans N⟩
   refine ⟨⟨k,hR⟩,?_⟩
   have:=leastN_le hR
   show leastN (R a2 Z)<k+1
   omega
  ·rename_i qa
   refine Code.wp_mono ?_ (E _ _ _ _ _ _ _ g w a y I.inv X U Q O)
   rintro e a2 Z ⟨Y,J,L,K,M⟩
   have ha:After P G base m φ st W A ex ts' st' e a2 Z:=⟨Y,J,I.trans' hf L,K,M.trans N⟩
   cases e with
   |normal=>
    cases ex with
    |normal=>exact absurd y (qa _ _)
    |_=>exact Y.elim
   |_=>exact ha
theorem ec_sound (B:Stays base T) (D:NoNum P) {orc:Orc} (E:OrcSound P G base T orc) (I: ∀rec,RecSound P G base T rec→DrawnSound P G base T (evCallF P G orc rec)) (n:Nat):RecSound P G base T (ec P G orc n):=by
 induction n using Nat.strongRecOn with
 |_ n y=>
  cases n with
  |zero=>intro m c ts st ex ts' st' φ W A h;cases h
  |succ n=>
   have g:=y n (Nat.lt_succ_self n)
   exact codeD_sound B D E g (I _ g) (loop_sound B fun k J=>y k (by omega))
end
end

section
open Go Go.RowKit
section
variable {P:Program} {G base:Nat} {T:World→Prop}
theorem cellsAt_congr {g h:Hp} {a:Addr} (n:Nat) (e:look h a.block=look g a.block):cellsAt h a n=cellsAt g a n:=by
 unfold cellsAt;rw [e]
theorem loadB_congr {g h:Hp} {t:TypeId} {v:Value} (e:look h (blockOf v)=look g (blockOf v)):loadB P h t v=loadB P g t v:=by
 unfold loadB
 cases v with
 |pointer a=>
  cases a with
  |none=>rfl
  |some a=>
   have y:look h a.block=look g a.block:=e
   simp only [cellsAt_congr _ y]
 |_=>rfl
theorem kind_rd {ts:Ts} {o:Oper} {w:Bool} {b:Nat} (h:kindOf ts o.op w= .rd b):(∃t a,o.op= .load t a∧b=blockOf (ρ ts a))∨(∃g dst x a n c,o.op= .convert g dst x∧ρ ts x= .slice (some a) n c∧b=a.block):=by
 obtain ⟨d,op,ty,pos,after,y⟩:=o
 cases op<;>simp only [kindOf] at h<;>first|(cases w<;>simp at h;done)|skip
 case load t a=>cases h;exact .inl ⟨t,a,rfl,rfl⟩
 case convert g dst x=>
  split at h
  ·rename_i a n c B
   cases h
   exact .inr ⟨g,dst,x,a,n,c,rfl,B,rfl⟩
  ·cases w<;>simp at h
theorem rd_eval {callf:CallF} {ts:Ts} {o:Oper} {w:Bool} {b:Nat} (N:kindOf ts o.op w= .rd b) {st st2 s:St} {v:Value} (h:evOp P G callf ts o st=some (v,s)) (e:look st2.heap b=look st.heap b):
  s=st∧evOp P G callf ts o st2=some (v,st2):=by
 rcases kind_rd N with ⟨t,a,y,rfl⟩|⟨g,dst,x,a,n,c,y,K,rfl⟩
 ·unfold evOp at h ⊢
  rw [y] at h ⊢
  simp only [opD,hLoad,evLoad] at h ⊢
  rw [loadB_congr e]
  split at h
  ·cases h;exact ⟨rfl,rfl⟩
  ·cases h
 ·unfold evOp at h ⊢
  rw [y] at h ⊢
  simp only [opD,hConvert,K] at h ⊢
  have key: ∀st:St,evConvert P G g dst (.slice (some a) n c) st=(match P.underlying g,P.underlying dst with
   |some (.slice e),some .string=>match P.underlying e with|some (.int .u8)=>evToString a n st|_=>none
   |_,_=>none):=by
   intro st
   have L:evPure P G [.slice (some a) n c] (convert g dst (.slice (some a) n c)) st=none:=by
    unfold evPure
    simp [pf]
   unfold evConvert
   split
   ·rename_i h;cases h
   ·rename_i E Q S O I B D;cases D;rw [I,B];rfl
   ·rename_i h;cases h
   ·rename_i h;cases h
   ·rename_i I B D U
    rw [L]
    split
    ·rename_i E J;exact absurd rfl (B _ _ _ _ E J)
    ·rfl
  rw [key] at h ⊢
  have M: ∀k,cellsAt st2.heap a k=cellsAt st.heap a k:=fun k=>cellsAt_congr k e
  split at h
  ·split at h
   ·unfold evToString at h ⊢
    rw [M]
    split at h
    ·split at h
     ·cases h;exact ⟨rfl,rfl⟩
     ·cases h
    ·cases h
   ·cases h
  ·cases h
theorem kind_wr {ts:Ts} {o:Oper} {w:Bool} {b:Nat} (g:kindOf ts o.op w= .wr b): ∃t a x,o.op= .store t a x∧b=blockOf (ρ ts a):=by
 obtain ⟨d,op,ty,pos,after,h⟩:=o
 cases op<;>simp only [kindOf] at g<;>first|(cases w<;>simp at g;done)|skip
 case store t a x=>cases g;exact ⟨t,a,x,rfl,rfl⟩
 case convert y dst x=>
  split at g
  ·cases g
  ·cases w<;>simp at g
theorem wr_look {callf:CallF} {ts:Ts} {o:Oper} {w:Bool} {b:Nat} (J:kindOf ts o.op w= .wr b) {st s:St} {v:Value} (h:evOp P G callf ts o st=some (v,s)) (c:Nat) (y:c≠b):look s.heap c=look st.heap c:=by
 obtain ⟨t,a,x,I,rfl⟩:=kind_wr J
 unfold evOp at h
 rw [I] at h
 simp only [opD,hStore,evStore] at h
 split at h
 ·rename_i B n D K
  split at h
  ·split at h
   ·rename_i E g
    cases h
    unfold writeB at g
    split at g
    ·split at g
     ·cases g
      show look (putB st.heap B.block _) c=_
      rw [look_putB,if_neg]
      intro e
      rw [D] at y
      exact y e.symm
     ·cases g
    ·cases g
   ·cases h
  ·cases h
 ·cases h
theorem kind_quiet {ts:Ts} {o:Oper} {w:Bool} (g:kindOf ts o.op w= .quiet):w=false:=by
 obtain ⟨d,op,ty,pos,after,h⟩:=o
 cases w
 ·rfl
 ·cases op<;>simp only [kindOf] at g<;>first|cases g;done|skip
  case convert y dst x=>split at g<;>cases g
theorem kind_not_calm {ts:Ts} {o:Op} {w:Bool}:kindOf ts o w≠ .calm:=by
 cases o<;>simp only [kindOf]<;>first|(cases w<;>simp;done)|skip
 all_goals (split<;>first|(simp;done)|(cases w<;>simp;done))
theorem masksB_acc: ∀(l:List Oper) (g:List Nat),∃r,masksB l g=g++r∧r.length=l.length
 |[],g=>⟨[],by simp [masksB],rfl⟩
 |o::l,g=>by
  obtain ⟨r,h,y⟩:=masksB_acc l (g++[maskB g o])
  exact ⟨maskB g o::r,by simp [masksB,h],by simp [y]⟩
theorem masksB_get: ∀(l:List Oper) (g:List Nat) (i:Nat) (o:Oper),l[i]? =some o→(masksB l g)[g.length+i]? =some (maskB ((masksB l g).take (g.length+i)) o)
 |[],g,i,o,h=>by simp at h
 |p::l,g,i,o,h=>by
  cases i with
  |zero=>
   simp at h
   subst h
   obtain ⟨r,y,_⟩:=masksB_acc l (g++[maskB g p])
   have e:masksB (p::l) g=g++([maskB g p]++r):=by simp [masksB,y]
   rw [e]
   simp
  |succ i=>
   have:=masksB_get l (g++[maskB g p]) i o (by simpa using h)
   simp only [List.length_append,List.length_cons,List.length_nil] at this
   rw [show g.length+(i+1)=g.length+(0+1)+i by omega]
   exact this
theorem maskB_bit (l:List Nat) (o:Oper) (j:Nat) (h:(maskB l o).testBit j=true): ∃e∈o.after,Region.binds .any e=true∧(j=e.on∨(l.getD e.on 0).testBit j=true):=by
 have key: ∀(y:List Edge) (s:Nat),(y.foldl (fun s e=>match Region.binds .any e with|true=>s|||2^e.on|||l.getD e.on 0|false=>s) s).testBit j=true→s.testBit j=true∨ ∃e∈y,Region.binds .any e=true∧(j=e.on∨(l.getD e.on 0).testBit j=true):=by
  intro y
  induction y with
  |nil=>intro s h;exact .inl h
  |cons e y K=>
   intro s h
   simp only [List.foldl_cons] at h
   rcases K _ h with g|⟨J,D,E⟩
   ·cases B:Region.binds .any e with
    |false=>rw [B] at g;exact .inl g
    |true=>
     rw [B] at g
     simp only [Nat.testBit_or,Bool.or_eq_true] at g
     rcases g with (g|g)|g
     ·exact .inl g
     ·refine .inr ⟨e,by simp,B,.inl ?_⟩
      rw [Nat.testBit_two_pow] at g
      simpa using (of_decide_eq_true g).symm
     ·exact .inr ⟨e,by simp,B,.inr g⟩
   ·exact .inr ⟨J,by simp [D],E⟩
 unfold maskB at h
 rcases key o.after.toList 0 h with g|⟨e,I,E⟩
 ·simp at g
 ·exact ⟨e,by simpa using I,E⟩
theorem anc_ok {ops:Array Oper} {p:Nat→Prop} (N: ∀(i:Nat) (o:Oper),ops[i]? =some o→ ∀e∈o.after,Region.binds .any e=true→e.on<i)
  (J: ∀(i:Nat) (o:Oper),ops[i]? =some o→p i→ ∀e∈o.after,Region.binds .any e=true→p e.on):
  ∀(i:Nat) (o:Oper),ops[i]? =some o→(∀e∈o.after,Region.binds .any e=true→p e.on)→ ∀j,ancB ops i j=true→p j∧j<i:=by
 intro i
 induction i using Nat.strongRecOn with
 |_ i Q=>
  intro o L B j I
  have y:=masksB_get ops.toList [] i o (by simpa using L)
  simp only [List.length_nil,Nat.zero_add] at y
  unfold ancB at I
  have S:(masksB ops.toList []).getD i 0=maskB ((masksB ops.toList []).take i) o:=by simp [List.getD,y]
  rw [S] at I
  obtain ⟨e,K,M,h⟩:=maskB_bit _ _ _ I
  have g:=N i o L e K M
  rcases h with rfl|h
  ·exact ⟨B e K M,g⟩
  ·have O:((masksB ops.toList []).take i).getD e.on 0=(masksB ops.toList []).getD e.on 0:=by
    simp [List.getD,g]
   rw [O] at h
   have E:e.on<ops.size:=by
    have:=(Array.getElem?_eq_some_iff.1 L).1
    omega
   have D:ops[e.on]? =some ops[e.on]:=Array.getElem?_eq_getElem E
   obtain ⟨U,X⟩:=Q e.on g _ D (J _ _ D (B e K M)) j h
   exact ⟨U,by omega⟩
structure StepR (P:Program) (G:Nat) (callf:CallF) (m:Nat) (ops:Array Oper) (tsF:Nat→Ts) (stF:Nat→St) (vF:Nat→Value) (kF:Nat→Kind) (j:Nat) (o:Oper):Prop where
 ts:tsF (j+1)=putT m (tsF j) o.dst (vF j)
 how:(wantB ops (tsF j) o=false∧vF j=undef∧stF (j+1)=stF j∧kF j= .calm)∨
  (wantB ops (tsF j) o=true∧calmT (tsF j) o.op=true∧(∃s,evOp P G callf (tsF j) o (stF j)=some (vF j,s))∧stF (j+1)=stF j∧kF j= .calm)∨
  (wantB ops (tsF j) o=true∧ ∃s,evOp P G callf (tsF j) o ⟨(stF j).heap,(stF j).next,(stF j).next⟩=some (vF j,s)∧kF j=kindOf (tsF j) o.op (!Nat.ble (stF j).next s.low)∧
   stF (j+1)=⟨s.heap,s.next,Nat.min (stF j).low s.low⟩∧(stF j).next≤s.next)
def pairB (ops:Array Oper) (kF:Nat→Kind) (k j:Nat):Prop:=Kind.free (kF k) (kF j)=true∨ancB ops j k=true
theorem freeB_ok {ops:Array Oper} {i:Nat} {k:Kind}: ∀{ks:List (Nat×Kind)},freeB ops i k ks=true→ ∀p∈ks,Kind.free p.2 k=true∨ancB ops i p.1=true
 |[],_,p,g=>by cases g
 |(j,c)::l,h,p,g=>by
  simp only [freeB,Bool.and_eq_true,Bool.or_eq_true] at h
  rcases List.mem_cons.1 g with rfl|g
  ·exact h.1
  ·exact freeB_ok h.2 p g
theorem free_calm_right (c:Kind):Kind.free c .calm=true:=by cases c<;>rfl
theorem free_calm_left (c:Kind):Kind.free .calm c=true:=by cases c<;>rfl
theorem drawn_run {callf:CallF} {m:Nat} {ops:Array Oper} {ts':Ts} {st':St}: ∀(l:List Oper) (i:Nat) (ks:List (Nat×Kind)) (ts:Ts) (st:St),ops.toList.drop i=l→evDrawn P G callf m ops l i ks ts st=some (ts',st')→
  ∃(tsF:Nat→Ts) (stF:Nat→St) (vF:Nat→Value) (kF:Nat→Kind),tsF i=ts∧stF i=st∧tsF (i+l.length)=ts'∧stF (i+l.length)=st'∧
   ∀j o,i≤j→ops[j]? =some o→StepR P G callf m ops tsF stF vF kF j o∧(∀p∈ks,Kind.free p.2 (kF j)=true∨ancB ops j p.1=true)∧ ∀k,i≤k→k<j→pairB ops kF k j:=by
 intro l
 induction l with
 |nil=>
  intro i ks ts st O h
  have h:some (ts,st)=some (ts',st'):=h
  cases h
  refine ⟨fun _=>ts',fun _=>st',fun _=>undef,fun _=> .calm,rfl,rfl,rfl,rfl,fun j o Z ho=> ?_⟩
  have K:j<ops.size:=(Array.getElem?_eq_some_iff.1 ho).1
  have U:ops.toList.length≤i:=by
   rcases Nat.lt_or_ge i ops.toList.length with h|h
   ·rw [List.drop_eq_getElem_cons h] at O;cases O
   ·exact h
  simp at U
  omega
 |cons o l ih=>
  intro i ks ts st O h
  have L:ops[i]? =some o:=by
   have K:(ops.toList.drop i)[0]? =some o:=by rw [O];rfl
   rw [List.getElem?_drop] at K
   simpa using K
  have qd:ops.toList.drop (i+1)=l:=by
   have:(ops.toList.drop i).drop 1=l:=by rw [O];rfl
   rwa [List.drop_drop] at this
  have y: ∀(v:Value) (D:Kind) (B:St) (g:List (Nat×Kind)),evDrawn P G callf m ops l (i+1) g (putT m ts o.dst v) B=some (ts',st')→(∀p∈ks,p∈g)→(D= .calm∨(i,D)∈g)→(∀p∈ks,Kind.free p.2 D=true∨ancB ops i p.1=true)→
    ((wantB ops ts o=false∧v=undef∧B=st∧D= .calm)∨(wantB ops ts o=true∧calmT ts o.op=true∧(∃s,evOp P G callf ts o st=some (v,s))∧B=st∧D= .calm)∨
     (wantB ops ts o=true∧ ∃s,evOp P G callf ts o ⟨st.heap,st.next,st.next⟩=some (v,s)∧D=kindOf ts o.op (!Nat.ble st.next s.low)∧B=⟨s.heap,s.next,Nat.min st.low s.low⟩∧st.next≤s.next))→
    ∃(tsF:Nat→Ts) (stF:Nat→St) (vF:Nat→Value) (kF:Nat→Kind),tsF i=ts∧stF i=st∧tsF (i+(o::l).length)=ts'∧stF (i+(o::l).length)=st'∧
     ∀j o,i≤j→ops[j]? =some o→StepR P G callf m ops tsF stF vF kF j o∧(∀p∈ks,Kind.free p.2 (kF j)=true∨ancB ops j p.1=true)∧ ∀k,i≤k→k<j→pairB ops kF k j:=by
   intro v D B g N qc qb J how
   obtain ⟨tsF,stF,vF,kF,K,U,h3,h4,h5⟩:=ih (i+1) g _ _ qd N
   refine ⟨fun j=>if j=i then ts else tsF j,fun j=>if j=i then st else stF j,fun j=>if j=i then v else vF j,fun j=>if j=i then D else kF j,by simp,by simp,?_,?_,?_⟩
   ·simp only [List.length_cons]
    rw [if_neg (by omega),show i+(l.length+1)=i+1+l.length by omega]
    exact h3
   ·simp only [List.length_cons]
    rw [if_neg (by omega),show i+(l.length+1)=i+1+l.length by omega]
    exact h4
   ·intro j o' Z I
    by_cases M:j=i
    ·subst M
     rw [L] at I
     cases I
     refine ⟨⟨?_,?_⟩,?_,fun k K U=>by omega⟩
     ·simp only [if_true]
      rw [if_neg (by omega)]
      exact K
     ·simp only [if_true]
      rw [if_neg (by omega),U]
      exact how
     ·simpa using J
    ·obtain ⟨hs,E,hk⟩:=h5 j o' (by omega) I
     refine ⟨⟨?_,?_⟩,?_,?_⟩
     ·simp only [if_neg M]
      rw [if_neg (by omega)]
      exact hs.ts
     ·simp only [if_neg M]
      rw [if_neg (by omega)]
      exact hs.how
     ·intro p qa
      simp only [if_neg M]
      exact E p (qc p qa)
     ·intro k qe Y
      unfold pairB
      simp only [if_neg M]
      by_cases Q:k=i
      ·subst Q
       simp only [if_true]
       rcases qb with rfl|hm
       ·exact .inl (free_calm_left _)
       ·exact E _ hm
      ·rw [if_neg Q]
       exact hk k (by omega) Y
  simp only [evDrawn] at h
  split at h
  ·rename_i S
   split at h
   ·rename_i hc
    split at h
    ·rename_i v s N
     exact y v .calm st ks h (fun p E=>E) (.inl rfl) (fun p _=> .inl (free_calm_right _)) (.inr (.inl ⟨S,hc,⟨s,N⟩,rfl,rfl⟩))
    ·cases h
   ·rename_i hc
    split at h
    ·rename_i v s N
     split at h
     ·rename_i X
      rw [Bool.and_eq_true] at X
      exact y v _ _ _ h (fun p E=>List.mem_cons_of_mem _ E) (.inr List.mem_cons_self) (freeB_ok X.1) (.inr (.inr ⟨S,s,N,rfl,rfl,Nat.le_of_ble_eq_true X.2⟩))
     ·cases h
    ·cases h
  ·rename_i S
   exact y undef .calm st ks h (fun p E=>E) (.inl rfl) (fun p _=> .inl (free_calm_right _)) (.inl ⟨S,rfl,rfl,rfl⟩)
end
end

section
open Go Go.RowKit
section
variable {P:Program} {G base:Nat} {T:World→Prop}
theorem wp_ends {o:Oper} {A:Act} {W:World} {K:Act→World→Prop} (h:o.wp P A W K fun _ _ _=>False): ∃a w,K a w:=by
 unfold Oper.wp Oper.upon at h
 split at h
 ·exact ⟨_,_,h⟩
 ·exact ⟨_,_,h⟩
 ·exact ⟨_,_,h⟩
 ·obtain ⟨e,y,D,g,_⟩:=h []
  cases e with
  |returned v=>exact ⟨_,_,g⟩
  |panicked c=>exact g.elim
  |outgrown=>obtain ⟨_,_,B⟩:=g;exact B.elim
 ·obtain ⟨v,y,g,_⟩:=h default []
  exact ⟨_,_,g⟩
 ·exact h.elim
 ·exact h.elim
theorem Inv.heap_eq {φ:Phi} {st:St} {W:World} (h:Inv P G base φ st W) (l:Nat):Inv P G base φ ⟨st.heap,st.next,l⟩ W:=h.mark l
theorem step_sound {callf:CallF} (M:CallSound P G base T callf) {m:Nat} {ops:Array Oper} {tsF:Nat→Ts} {stF:Nat→St} {vF:Nat→Value} {kF:Nat→Kind} {j:Nat} {o:Oper}
  (hs:StepR P G callf m ops tsF stF vF kF j o) {φ:Phi} {W:World} {A:Act} (O:Inv P G base φ (stF j) W) (S:base≤W.heap.size) (N:T W) (hf:FreshU φ (stF j)) (U: ∀x∈o.op.operands,Rel G φ (ρ (tsF j) x) (A.eval x))
  (L:wantB ops (tsF j) o=true) {K:Act→World→Prop} {Q:Exit→Act→World→Prop} (k: ∀y V W',Post P G base φ (stF j) W (stF (j+1)) y W'→Rel G y (vF j) V→
   (kF j= .quiet→ ∀b,b<(stF j).next→look (stF (j+1)).heap b=look (stF j).heap b)→(stF j).next≤(stF (j+1)).next→K (A.put o.dst V) W'):o.wp P A W K Q:=by
 rcases hs.how with ⟨X,_⟩|⟨_,hc,⟨s,J⟩,g,I⟩|⟨_,s,J,I,g,hn⟩
 ·rw [L] at X;cases X
 ·obtain ⟨_,V,hV,E⟩:=calmT_sound O.above hc J U
  refine wp_value (E W) (k φ V W ?_ hV (fun h=>by rw [I] at h;cases h) ?_)
  ·rw [g];exact Post.refl O
  ·rw [g];exact Nat.le_refl _
 ·refine op_sound (O.mark _) S M N J (fun b S=>hf b S) U fun y V W' Y hv=> ?_
  refine k y V W' ?_ hv ?_ ?_
  ·rw [g];exact low_post Y
  ·intro Z b B
   rw [g]
   have D:(stF j).next≤s.low:=by
    rw [Z] at I
    have L:=kind_quiet I.symm
    have:Nat.ble (stF j).next s.low=true:=by simpa using L
    exact Nat.le_of_ble_eq_true this
   exact Y.same b B (Nat.lt_of_lt_of_le B D)
  ·rw [g];exact hn
theorem lex_facts (hT:Stays base T) {callf:CallF} (qa:CallSound P G base T callf) {m:Nat} {ops:Array Oper} (hc:constsB G ops=true) {tsF:Nat→Ts} {stF:Nat→St} {vF:Nat→Value} {kF:Nat→Kind}
  (hs: ∀j o,ops[j]? =some o→StepR P G callf m ops tsF stF vF kF j o) {φ:Phi} {W:World} {A:Act} (hi:Inv P G base φ (stF 0) W) (hb:base≤W.heap.size) (qb:T W) (hf:FreshU φ (stF 0)) (hr:RelT G φ m (tsF 0) A):
  ∀j,j≤ops.size→(∃B W' U,Inv P G base B (stF j) W'∧base≤W'.heap.size∧T W'∧FreshU B (stF j)∧RelT G B m (tsF j) U)∧
   ∀i,i<j→(kF i= .quiet→ ∀b,b<(stF i).next→look (stF (i+1)).heap b=look (stF i).heap b)∧(stF i).next≤(stF (i+1)).next:=by
 intro j
 induction j with
 |zero=>intro _;exact ⟨⟨φ,W,A,hi,hb,qb,hf,hr⟩,fun i h=>by omega⟩
 |succ j ih=>
  intro hj
  obtain ⟨⟨B,W',U,J,E,N,O,L⟩,D⟩:=ih (by omega)
  have ho:ops[j]? =some ops[j]:=Array.getElem?_eq_getElem (by omega)
  have I:=hs j _ ho
  have Q:ops[j]∈ops.toList:=by simp
  have fin:(∃g y M,Inv P G base g (stF (j+1)) y∧base≤y.heap.size∧T y∧FreshU g (stF (j+1))∧RelT G g m (tsF (j+1)) M)∧
    (kF j= .quiet→ ∀b,b<(stF j).next→look (stF (j+1)).heap b=look (stF j).heap b)∧(stF j).next≤(stF (j+1)).next:=by
   by_cases Z:wantB ops (tsF j) ops[j]=true
   ·obtain ⟨_,_,h⟩:=wp_ends (step_sound (A:=U) qa I J E N O (fun x hx=>operand_rel L (consts_ok hc Q hx)) Z
     (K:=fun _ _=>(∃g y M,Inv P G base g (stF (j+1)) y∧base≤y.heap.size∧T y∧FreshU g (stF (j+1))∧RelT G g m (tsF (j+1)) M)∧
      (kF j= .quiet→ ∀b,b<(stF j).next→look (stF (j+1)).heap b=look (stF j).heap b)∧(stF j).next≤(stF (j+1)).next)
     (fun g V y S X hq hn=>⟨⟨g,y,_,S.inv,Nat.le_trans E S.size,hT _ _ (S.below J E) N,O.post S,by rw [I.ts];exact (L.mono S.le).put X _⟩,hq,hn⟩))
    exact h
   ·rcases I.how with ⟨_,X,he,hk⟩|⟨Y,_⟩|⟨Y,_⟩
    ·rw [he]
     exact ⟨⟨B,W',U.put ops[j].dst undef,J,E,N,O,by rw [I.ts,X];exact L.put rel_undef _⟩,⟨fun h=>(by rw [hk] at h;cases h),Nat.le_refl _⟩⟩
    ·exact absurd Y Z
    ·exact absurd Y Z
  refine ⟨fin.1,fun i qd=> ?_⟩
  by_cases qc:i=j
  ·subst qc;exact fin.2
  ·exact D i (by omega)
end
end

section
open Go Go.RowKit
section
variable {P:Program} {G base:Nat} {T:World→Prop}
theorem low_weaken {φ B:Phi} {st st':St} {W W':World} {l:Nat} (g:Post P G base φ st W st' B W') (D:l≤st'.low):Post P G base φ st W ⟨st'.heap,st'.next,l⟩ B W':=by
 refine ⟨g.le,g.new,?_,g.inv.mark l,g.next,Nat.le_trans D g.low,fun b L K=>g.same b L (Nat.lt_of_lt_of_le K D),fun r M y=>g.frame r M fun b I L S=>Nat.lt_of_lt_of_le (y b I L S) D,g.size,g.os,g.tape,g.output⟩
 intro b r I N O
 rcases g.newr b r I N O with h|⟨c,k,Q,J,E⟩
 ·exact .inl h
 ·exact .inr ⟨c,k,Q,Nat.le_trans D J,E⟩
theorem nodupB_ok: ∀{l:List Nat},nodupB l=true→l.Pairwise (· ≠ ·)
 |[],_=> .nil
 |x::l,h=>by
  simp only [nodupB,Bool.and_eq_true,Bool.not_eq_true'] at h
  refine List.pairwise_cons.2 ⟨fun y g e=> ?_,nodupB_ok h.2⟩
  have:l.any (Nat.beq x)=true:=List.any_eq_true.2 ⟨y,g,beq_yes e⟩
  rw [this] at h
  exact absurd h.1 (by simp)
structure RegOk (ops:Array Oper):Prop where
 dst: ∀(i j:Nat) (o p:Oper) (d:Tmp),ops[i]? =some o→ops[j]? =some p→o.dst=some d→p.dst=some d→i=j
 on: ∀(i:Nat) (o:Oper),ops[i]? =some o→ ∀e∈o.after,Region.binds .any e=true→e.on<i
 sees: ∀(i j:Nat) (o p:Oper) (d:Tmp),ops[i]? =some o→ops[j]? =some p→p.dst=some d→d∈o.looksAt ops→i≠j→ancB ops i j=true∨ancB ops j i=true
theorem regionB_ok {ops:Array Oper} (h:regionB ops=true):RegOk ops:=by
 unfold regionB at h
 rw [Bool.and_eq_true] at h
 obtain ⟨U,Y⟩:=h
 have E: ∀i,i<ops.size→_:=fun i L=>List.all_eq_true.1 Y i (List.mem_range.2 L)
 have K: ∀{i:Nat} {o:Oper},ops[i]? =some o→i<ops.size:=fun h=>(Array.getElem?_eq_some_iff.1 h).1
 refine ⟨?_,?_,?_⟩
 ·intro i j o p d B I D y
  have J:=List.pairwise_filterMap.1 (nodupB_ok U)
  have J:=List.pairwise_iff_getElem.1 J
  have key: ∀(i j:Nat) (o p:Oper),ops[i]? =some o→ops[j]? =some p→o.dst=some d→p.dst=some d→ ¬i<j:=by
   intro i j o p B I D y O
   have L:=K B
   have M:=K I
   have S:ops.toList[i]'(by simpa using L)=o:=by
    have:=Array.getElem?_eq_getElem L
    rw [B] at this
    simpa using (Option.some.inj this).symm
   have Q:ops.toList[j]'(by simpa using M)=p:=by
    have:=Array.getElem?_eq_getElem M
    rw [I] at this
    simpa using (Option.some.inj this).symm
   have:=J i j (by simpa using L) (by simpa using M) O
   rw [S,Q] at this
   exact this d D d y rfl
  rcases Nat.lt_trichotomy i j with h|h|h
  ·exact absurd h (key i j o p B I D y)
  ·exact h
  ·exact absurd h (key j i p o I B y D)
 ·intro i o B e X Z
  have:=E i (K B)
  rw [B] at this
  simp only [Bool.and_eq_true] at this
  have g:=Array.all_eq_true_iff_forall_mem.1 this.1.1 e X
  rw [Z] at g
  simp only [Bool.not_true,Bool.false_or] at g
  exact blt_ok g
 ·intro i j o p d B I y hd N
  have:=E i (K B)
  rw [B] at this
  simp only [Bool.and_eq_true] at this
  have g:=List.all_eq_true.1 this.2 j (List.mem_range.2 (K I))
  rw [I] at g
  simp only [y,Bool.or_eq_true,Bool.not_eq_true'] at g
  rcases g with ((g|g)|g)|g
  ·have:(o.looksAt ops).any (Nat.beq d)=true:=List.any_eq_true.2 ⟨d,hd,beq_yes rfl⟩
   rw [this] at g
   cases g
  ·exact absurd (Nat.eq_of_beq_eq_true g) N
  ·exact .inl g
  ·exact .inr g
def Firm:Kind→Prop
 | .quiet| .wr _| .any=>True
 |_=>False
theorem filter_lt {p q:Nat→Bool} {i:Nat}: ∀{l:List Nat},i∈l→p i=true→q i=false→(∀j,q j=true→p j=true)→(l.filter q).length<(l.filter p).length
 |x::l,h,I,E,g=>by
  have J:(l.filter q).length≤(l.filter p).length:=by
   clear h
   induction l with
   |nil=>exact Nat.le_refl _
   |cons y l K=>
    simp only [List.filter_cons]
    cases D:q y
    ·cases p y<;>simp<;>omega
    ·simp [g y D];exact K
  rcases List.mem_cons.1 h with rfl|h
  ·simp only [List.filter_cons,I,E]
   simp
   omega
  ·have:=filter_lt h I E g
   simp only [List.filter_cons]
   cases B:q x
   ·cases p x<;>simp<;>omega
   ·simp [g x B];exact this
theorem rd_live {callf:CallF} {ts:Ts} {o:Oper} {w:Bool} {b:Nat} (I:kindOf ts o.op w= .rd b) {st s:St} {v:Value} (h:evOp P G callf ts o st=some (v,s)): ∃q,look st.heap b=some q:=by
 cases L:look st.heap b with
 |some q=>exact ⟨q,rfl⟩
 |none=>
  exfalso
  obtain ⟨_,g⟩:=rd_eval (st2:=⟨[],st.next,st.low⟩) I h (by rw [L];rfl)
  rcases kind_rd I with ⟨t,a,D,rfl⟩|⟨B,dst,x,a,n,c,D,J,rfl⟩
  ·unfold evOp at g
   rw [D] at g
   simp only [opD,hLoad,evLoad,loadB] at g
   have E: ∀(a:Addr) (n:Nat),cellsAt [] a n=none:=by
    intro a n
    unfold cellsAt
    split
    ·rfl
    ·rfl
   simp only [E] at g
   split at g
   ·rename_i y
    split at y
    ·split at y<;>cases y
    ·cases y
   ·cases g
  ·have E: ∀(a:Addr) (n:Nat),cellsAt [] a n=none:=by
    intro a n
    unfold cellsAt
    split
    ·rfl
    ·rfl
   have K:evPure P G [.slice (some a) n c] (convert B dst (.slice (some a) n c)) ⟨[],st.next,st.low⟩=none:=by
    unfold evPure
    simp [pf]
   unfold evOp at g
   rw [D] at g
   simp only [opD,hConvert,J] at g
   unfold evConvert at g
   split at g
   ·rename_i e;cases e
   ·split at g
    ·unfold evToString at g
     rw [E] at g
     cases g
    ·cases g
   ·rename_i e;cases e
   ·rename_i e;cases e
   ·rw [K] at g;cases g
end
end

section
open Go Go.RowKit
section
variable {P:Program} {G base:Nat} {T:World→Prop}
theorem firm_not {k:Kind} (h: ¬Firm k):k= .calm∨ ∃b,k= .rd b:=by
 cases k with
 |calm=>exact .inl rfl
 |rd b=>exact .inr ⟨b,rfl⟩
 |_=>exact absurd trivial h
theorem firm_pair {k l:Kind} (h:Firm k) (g:Firm l):Kind.free k l=false:=by
 cases k<;>first|exact h.elim|skip
 all_goals cases l<;>first|exact g.elim|rfl
theorem rd_pair {k:Kind} {b:Nat} (h:Firm k) (g:Kind.free k (.rd b)=true∨Kind.free (.rd b) k=true):k= .quiet∨ ∃c,k= .wr c∧b≠c:=by
 cases k with
 |calm=>exact h.elim
 |rd b=>exact h.elim
 |quiet=>exact .inl rfl
 |any=>rcases g with h|h<;>cases h
 |wr c=>
  refine .inr ⟨c,rfl,?_⟩
  rintro rfl
  rcases g with h|h
  ·simp only [Kind.free,beq_yes rfl] at h;cases h
  ·simp only [Kind.free,beq_yes rfl] at h;cases h
structure Lex (P:Program) (G:Nat) (callf:CallF) (m:Nat) (ops:Array Oper) (tsF:Nat→Ts) (stF:Nat→St) (vF:Nat→Value) (kF:Nat→Kind):Prop where
 step: ∀j o,ops[j]? =some o→StepR P G callf m ops tsF stF vF kF j o
 pair: ∀j o,ops[j]? =some o→ ∀k,k<j→pairB ops kF k j
 quiet: ∀i,i<ops.size→kF i= .quiet→ ∀b,b<(stF i).next→look (stF (i+1)).heap b=look (stF i).heap b
 mono: ∀i,i<ops.size→(stF i).next≤(stF (i+1)).next
 wf: ∀i,i≤ops.size→ ∀b q,look (stF i).heap b=some q→G≤b∧b<(stF i).next
 low: ∀i,i≤ops.size→G≤(stF i).next
section
variable {callf:CallF} {m:Nat} {ops:Array Oper} {tsF:Nat→Ts} {stF:Nat→St} {vF:Nat→Value} {kF:Nat→Kind}
theorem Lex.calm (L:Lex P G callf m ops tsF stF vF kF) {i:Nat} (J:i<ops.size) (I: ¬Firm (kF i)):
  (stF (i+1)).heap=(stF i).heap∧(stF (i+1)).next=(stF i).next∧(stF (i+1)).low≤(stF i).low:=by
 have B:=L.step i _ (Array.getElem?_eq_getElem J)
 rcases B.how with ⟨_,_,h,_⟩|⟨_,_,_,h,_⟩|⟨_,s,D,g,y,_⟩
 ·rw [h];exact ⟨rfl,rfl,Nat.le_refl _⟩
 ·rw [h];exact ⟨rfl,rfl,Nat.le_refl _⟩
 ·rcases firm_not I with h|⟨b,h⟩
  ·rw [h] at g;exact absurd g.symm kind_not_calm
  ·rw [h] at g
   obtain ⟨E,_⟩:=rd_eval (st2:=⟨(stF i).heap,(stF i).next,(stF i).next⟩) g.symm D rfl
   rw [y,E]
   exact ⟨rfl,rfl,Nat.min_le_left _ _⟩
theorem Lex.lowM (L:Lex P G callf m ops tsF stF vF kF) {i:Nat} (B:i<ops.size):(stF (i+1)).low≤(stF i).low:=by
 have y:=L.step i _ (Array.getElem?_eq_getElem B)
 rcases y.how with ⟨_,_,h,_⟩|⟨_,_,_,h,_⟩|⟨_,s,_,_,g,_⟩
 ·rw [h];exact Nat.le_refl _
 ·rw [h];exact Nat.le_refl _
 ·rw [g];exact Nat.min_le_left _ _
theorem Lex.range (L:Lex P G callf m ops tsF stF vF kF) {i:Nat}: ∀{j:Nat},i≤j→j≤ops.size→(∀k,i≤k→k<j→ ¬Firm (kF k))→
  (stF j).heap=(stF i).heap∧(stF j).next=(stF i).next∧(stF j).low≤(stF i).low:=by
 intro j
 induction j with
 |zero=>intro h _ _;rw [show i=0 by omega];exact ⟨rfl,rfl,Nat.le_refl _⟩
 |succ j D=>
  intro h E g
  by_cases y:i=j+1
  ·rw [y];exact ⟨rfl,rfl,Nat.le_refl _⟩
  ·obtain ⟨a,b,c⟩:=D (by omega) (by omega) fun k B I=>g k B (by omega)
   obtain ⟨d,e,f⟩:=L.calm (i:=j) (by omega) (g j (by omega) (by omega))
   exact ⟨d.trans a,e.trans b,Nat.le_trans f c⟩
theorem Lex.next (L:Lex P G callf m ops tsF stF vF kF) {i:Nat}: ∀{j:Nat},i≤j→j≤ops.size→(stF i).next≤(stF j).next:=by
 intro j
 induction j with
 |zero=>intro h _;rw [show i=0 by omega];exact Nat.le_refl _
 |succ j y=>
  intro h B
  by_cases g:i=j+1
  ·rw [g];exact Nat.le_refl _
  ·exact Nat.le_trans (y (by omega) (by omega)) (L.mono j (by omega))
theorem Lex.same (L:Lex P G callf m ops tsF stF vF kF) {i b:Nat} (S:b<(stF i).next): ∀{j:Nat},i≤j→j≤ops.size→
  (∀k,i≤k→k<j→Firm (kF k)→kF k= .quiet∨ ∃c,kF k= .wr c∧b≠c)→look (stF j).heap b=look (stF i).heap b:=by
 intro j
 induction j with
 |zero=>intro h _ _;rw [show i=0 by omega]
 |succ j N=>
  intro h U K
  by_cases E:i=j+1
  ·rw [E]
  ·have I:=N (by omega) (by omega) fun k I X=>K k I (by omega)
   have g:j<ops.size:=by omega
   refine Eq.trans ?_ I
   by_cases J:Firm (kF j)
   ·rcases K j (by omega) (by omega) J with M|⟨c,Q,D⟩
    ·exact L.quiet j g M b (Nat.lt_of_lt_of_le S (L.next (by omega) (by omega)))
    ·have O:=L.step j _ (Array.getElem?_eq_getElem g)
     rcases O.how with ⟨_,_,h,_⟩|⟨_,_,_,h,_⟩|⟨_,s,E,y,B,_⟩
     ·rw [h]
     ·rw [h]
     ·rw [Q] at y
      rw [B]
      exact wr_look y.symm E b D
   ·rw [(L.calm g J).1]
theorem Lex.dst (L:Lex P G callf m ops tsF stF vF kF) (R:RegOk ops) (E:m≤4000) {k:Nat} {o:Oper} {t:Tmp} (y:ops[k]? =some o) (B:o.dst=some t) (K:t<m):
  ∀{j:Nat},k<j→j≤ops.size→(tsF j).get t=vF k:=by
 intro j
 induction j with
 |zero=>intro h _;omega
 |succ j I=>
  intro h M
  have D:=L.step j _ (Array.getElem?_eq_getElem (show j<ops.size by omega))
  rw [D.ts,get_putT E]
  by_cases g:k=j
  ·subst g
   have e:ops[k]'(by omega)=o:=by
    have:=Array.getElem?_eq_getElem (xs:=ops) (i:=k) (by omega)
    rw [y] at this
    exact (Option.some.inj this).symm
   rw [e,if_pos ⟨B,K⟩]
  ·rw [if_neg]
   ·exact I (by omega) (by omega)
   ·rintro ⟨J,_⟩
    exact g (R.dst k j o _ t y (Array.getElem?_eq_getElem (by omega)) B J)
theorem Lex.old (L:Lex P G callf m ops tsF stF vF kF) (B:m≤4000) {t:Tmp}: ∀{j:Nat},j≤ops.size→(∀k o,k<j→ops[k]? =some o→o.dst=some t→ ¬t<m)→(tsF j).get t=(tsF 0).get t:=by
 intro j
 induction j with
 |zero=>intro _ _;rfl
 |succ j I=>
  intro J g
  have y:=L.step j _ (Array.getElem?_eq_getElem (show j<ops.size by omega))
  rw [y.ts,get_putT B,if_neg]
  ·exact I (by omega) fun k o h=>g k o (by omega)
  ·rintro ⟨D,E⟩
   exact g j _ (by omega) (Array.getElem?_eq_getElem (by omega)) D E
theorem ready_mem {listed:Array Bool} {i:Nat} (J:listed.size=ops.size) (h:i∈Region.ready .any ops listed):
  ∃o,ops[i]? =some o∧listed.getD i false=false∧ ∀e∈o.after,Region.binds .any e=true→listed.getD e.on false=true:=by
 unfold Region.ready at h
 rw [List.mem_filter,List.mem_range] at h
 obtain ⟨E,h⟩:=h
 rw [Bool.and_eq_true] at h
 refine ⟨ops[i],Array.getElem?_eq_getElem E,?_,?_⟩
 ·have B:=h.1
  have g:i<listed.size:=by omega
  simp only [Array.getD_eq_getD_getElem?,Array.getElem?_eq_getElem g,Option.getD_some,Bool.not_eq_true'] at B ⊢
  exact B
 ·intro e I K
  have y:=h.2
  rw [Array.getElem?_eq_getElem E] at y
  simp only [Option.map_some,Option.getD_some] at y
  have D:=Array.all_eq_true_iff_forall_mem.1 y e I
  rw [K] at D
  simpa using D
theorem ready_nil {listed:Array Bool} (R:RegOk ops) (I:listed.size=ops.size) (h:Region.ready .any ops listed=[]): ∀i,i<ops.size→listed.getD i false=true:=by
 intro i
 induction i using Nat.strongRecOn with
 |_ i K=>
  intro y
  cases e:listed.getD i false with
  |true=>rfl
  |false=>
   have D:i∈Region.ready .any ops listed:=by
    unfold Region.ready
    rw [List.mem_filter,List.mem_range]
    refine ⟨y,?_⟩
    have g:i<listed.size:=by omega
    have E:listed.getD i true=false:=by
     simp only [Array.getD_eq_getD_getElem?,Array.getElem?_eq_getElem g,Option.getD_some] at e ⊢
     exact e
    rw [E,Array.getElem?_eq_getElem y]
    simp only [Bool.not_false,Bool.true_and,Option.map_some,Option.getD_some]
    refine Array.all_eq_true_iff_forall_mem.2 fun x J=> ?_
    cases L:Region.binds .any x with
    |false=>rfl
    |true=>
     have B:=R.on i _ (Array.getElem?_eq_getElem y) x J L
     rw [K _ B (by omega)]
     rfl
   rw [h] at D
   cases D
theorem ready_full {listed:Array Bool} (D:listed.size=ops.size) (h: ∀i,i<ops.size→listed.getD i false=true):Region.ready .any ops listed=[]:=by
 unfold Region.ready
 rw [List.filter_eq_nil_iff]
 intro i y
 rw [List.mem_range] at y
 have:=h i y
 have g:i<listed.size:=by omega
 have B:listed.getD i true=true:=by
  simp only [Array.getD_eq_getD_getElem?,Array.getElem?_eq_getElem g,Option.getD_some] at this ⊢
  exact this
 rw [B]
 simp
structure Mid (P:Program) (G base m:Nat) (ops:Array Oper) (tsF:Nat→Ts) (stF:Nat→St) (vF:Nat→Value) (kF:Nat→Kind) (φ:Phi) (W:World) (A:Act) (f:Nat) (ψ:Phi) (listed:Array Bool) (a:Act) (w:World):Prop where
 size:listed.size=ops.size
 le:f≤ops.size
 closed: ∀i o,ops[i]? =some o→listed.getD i false=true→ ∀e∈o.after,Region.binds .any e=true→listed.getD e.on false=true
 firm: ∀j,j<ops.size→Firm (kF j)→(listed.getD j false=true↔j<f)
 post:Post P G base φ (stF 0) W (stF f) ψ w
 tmps:a.tmps.size=m
 defers:a.defers=A.defers
 done: ∀j o t,ops[j]? =some o→o.dst=some t→t<m→listed.getD j false=true→Rel G ψ (vF j) (a.tmps.getD t undef)
 rest: ∀t,(∀j o,ops[j]? =some o→o.dst=some t→listed.getD j false=true→ ¬t<m)→Rel G ψ ((tsF 0).get t) (a.tmps.getD t undef)
theorem getD_set {listed:Array Bool} {i:Nat} (g:i<listed.size) (j:Nat):(listed.setIfInBounds i true).getD j false=if i=j then true else listed.getD j false:=by
 simp only [Array.getD_eq_getD_getElem?]
 by_cases e:i=j
 ·subst e;simp [g]
 ·rw [Array.getElem?_setIfInBounds_ne e,if_neg e]
theorem Mid.after {φ:Phi} {W:World} {A:Act} {f:Nat} {X:Phi} {listed:Array Bool} {a:Act} {w:World} (M:Mid P G base m ops tsF stF vF kF φ W A f X listed a w) (R:RegOk ops) {i:Nat} {o:Oper} (K:ops[i]? =some o)
  (O: ∀e∈o.after,Region.binds .any e=true→listed.getD e.on false=true) (_hnl:listed.getD i false=false) {N:Nat} {D:Phi} {V:Value} {w':World} (J:X.le D) (U:N≤ops.size)
  (I: ∀j,j<ops.size→Firm (kF j)→((i=j∨listed.getD j false=true)↔j<N)) (hp:Post P G base φ (stF 0) W (stF N) D w') (hv:Rel G D (vF i) V):
  Mid P G base m ops tsF stF vF kF φ W A N D (listed.setIfInBounds i true) (a.put o.dst V) w':=by
 have Q:i<listed.size:=by rw [M.size];exact (Array.getElem?_eq_some_iff.1 K).1
 have B:=fun j=>getD_set Q j
 refine ⟨by simpa using M.size,U,?_,?_,hp,?_,(Act.put_def _ _ _).trans M.defers,?_,?_⟩
 ·intro j p y E e Z hb
  rw [B] at E ⊢
  have:listed.getD e.on false=true:=by
   by_cases g:i=j
   ·subst g;rw [K] at y;cases y;exact O e Z hb
   ·rw [if_neg g] at E;exact M.closed j p y E e Z hb
  rw [this]
  split<;>rfl
 ·intro j hj hk
  rw [B,←I j hj hk]
  by_cases g:i=j
  ·rw [if_pos g];exact ⟨fun _=> .inl g,fun _=>rfl⟩
  ·rw [if_neg g]
   exact ⟨.inr,fun h=>h.resolve_left g⟩
 ·rw [←M.tmps];unfold Act.put;cases o.dst<;>simp
 ·intro j p t y L Y E
  rw [getD_put,M.tmps]
  by_cases g:i=j
  ·subst g
   rw [K] at y
   cases y
   rw [if_pos ⟨L,Y⟩]
   exact hv
  ·rw [B,if_neg g] at E
   rw [if_neg]
   ·exact (M.done j p t y L Y E).mono J
   ·rintro ⟨S,_⟩
    exact g (R.dst i j o p t K y S L)
 ·intro t hn
  rw [getD_put,M.tmps,if_neg]
  ·refine (M.rest t fun j p y L E=>hn j p y L ?_).mono J
   rw [B,E]
   split<;>rfl
  ·rintro ⟨S,h2⟩
   exact hn i o K S (by rw [B,if_pos rfl]) h2
theorem Mid.fin {φ:Phi} {W:World} {A:Act} {f:Nat} {K:Phi} {listed:Array Bool} {a:Act} {w:World} (M:Mid P G base m ops tsF stF vF kF φ W A f K listed a w) (L:Lex P G callf m ops tsF stF vF kF) (R:RegOk ops) (J:m≤4000)
  (y: ∀i,i<ops.size→listed.getD i false=true):After P G base m φ (stF 0) W A .normal (tsF ops.size) (stF ops.size) .normal a w:=by
 have h: ∀k,f≤k→k<ops.size→ ¬Firm (kF k):=fun k B g U=>by
  have:=(M.firm k g U).1 (y k g)
  omega
 obtain ⟨B,g,I⟩:=L.range M.le (Nat.le_refl _) h
 have Q:=low_weaken M.post I
 have e:(⟨(stF f).heap,(stF f).next,(stF ops.size).low⟩:St)=stF ops.size:=by rw [←B,←g]
 rw [e] at Q
 refine ⟨trivial,K,Q,⟨M.tmps,J,fun t=> ?_⟩,M.defers⟩
 by_cases E:t<m∧ ∃(j:Nat) (p:Oper),ops[j]? =some p∧p.dst=some t
 ·obtain ⟨N,j,p,D,S⟩:=E
  have O:=(Array.getElem?_eq_some_iff.1 D).1
  rw [L.dst R J D S N O (Nat.le_refl _)]
  exact M.done j p t D S N (y j O)
 ·have h: ∀(k:Nat) (o:Oper),ops[k]? =some o→o.dst=some t→ ¬t<m:=fun k o B g I=>E ⟨I,k,o,B,g⟩
  rw [L.old J (Nat.le_refl _) fun k o _ B g=>h k o B g]
  exact M.rest t fun j o B g _=>h j o B g
theorem Mid.step (hT:Stays base T) (qy:CallSound P G base T callf) (hc:constsB G ops=true) {φ:Phi} {W:World} {A:Act} (hi:Inv P G base φ (stF 0) W) (hb:base≤W.heap.size) (qI:T W) (hf:FreshU φ (stF 0))
  {f:Nat} {ψ:Phi} {listed:Array Bool} {a:Act} {w:World} (M:Mid P G base m ops tsF stF vF kF φ W A f ψ listed a w) (L:Lex P G callf m ops tsF stF vF kF) (R:RegOk ops) (hm:m≤4000) {i:Nat} (hr:i∈Region.ready .any ops listed)
  {Q:Exit→Act→World→Prop} {K:Act→World→Prop} (k: ∀f' ψ' a' w',Mid P G base m ops tsF stF vF kF φ W A f' ψ' (listed.setIfInBounds i true) a' w'→K a' w'):wpOp P ops Q i K a w:=by
 obtain ⟨o,ho,U,qd⟩:=ready_mem M.size hr
 have J:i<ops.size:=(Array.getElem?_eq_some_iff.1 ho).1
 have qs:o∈ops.toList:=by
  have:=Array.mem_of_getElem? ho
  simpa using this
 have hs:=L.step i o ho
 have qi: ∀j,ancB ops i j=true→listed.getD j false=true∧j<i:=anc_ok (p:=fun j=>listed.getD j false=true) R.on (fun j p D hl=>M.closed j p D hl) i o ho qd
 have S: ∀(j:Nat) (p:Oper),ops[j]? =some p→ancB ops j i=true→listed.getD j false=false∧i<j:=by
  intro j p D ha
  have I:=(anc_ok (p:=fun _=>True) R.on (fun _ _ _ _ _ _ _=>trivial) j p D (fun _ _ _=>trivial) i ha).2
  refine ⟨?_,I⟩
  cases hl:listed.getD j false with
  |false=>rfl
  |true=>
   have:=(anc_ok (p:=fun j=>listed.getD j false=true) R.on (fun j p D hl=>M.closed j p D hl) j p D (M.closed j p D hl) i ha).1
   rw [U] at this
   cases this
 have qg: ∀t,t∈o.looksAt ops→Rel G ψ ((tsF i).get t) (a.tmps.getD t undef):=by
  intro t ht
  by_cases qz:t<m∧ ∃(j:Nat) (p:Oper),ops[j]? =some p∧p.dst=some t
  ·obtain ⟨qC,j,p,D,hd⟩:=qz
   have hj:j<ops.size:=(Array.getElem?_eq_some_iff.1 D).1
   have qc:i≤j→listed.getD j false=false→Rel G ψ ((tsF i).get t) (a.tmps.getD t undef):=by
    intro qk qH
    rw [L.old hm (Nat.le_of_lt J) fun k q hk hq qm _=>by have:=R.dst k j q p t hq D qm hd;omega]
    refine M.rest t fun k q hq qm hl _=> ?_
    have:=R.dst k j q p t hq D qm hd
    subst this
    rw [qH] at hl
    cases hl
   by_cases qk:i=j
   ·subst qk;exact qc (Nat.le_refl _) U
   ·rcases R.sees i j o p t ho D hd ht qk with h|h
    ·obtain ⟨hl,qf⟩:=qi j h
     rw [L.dst R hm D hd qC qf (Nat.le_of_lt J)]
     exact M.done j p t D hd qC hl
    ·obtain ⟨hl,qf⟩:=S j p D h
     exact qc (Nat.le_of_lt qf) hl
  ·have qj: ∀(k:Nat) (o:Oper),ops[k]? =some o→o.dst=some t→ ¬t<m:=fun k o I Y h3=>qz ⟨h3,k,o,I,Y⟩
   rw [L.old hm (Nat.le_of_lt J) fun k o _ I Y=>qj k o I Y]
   exact M.rest t fun j o I Y _=>qj j o I Y
 have hw:Region.wanted o (yielded ops a.tmps)=wantB ops (tsF i) o:=want_ok (φ:=ψ) fun j w d hg hd=>qg d (by
  unfold Oper.looksAt
  rw [hg]
  simp only [hd]
  simp)
 have hx: ∀x∈o.op.operands,Rel G ψ (ρ (tsF i) x) (a.eval x):=by
  intro x qw
  have qt:=consts_ok hc qs qw
  cases x with
  |tmp t=>
   refine qg t ?_
   unfold Oper.looksAt
   refine List.mem_append_left _ (List.mem_filterMap.2 ⟨.tmp t,by simpa using qw,rfl⟩)
  |const v=>exact .free (d:=6) qt
  |global g=>exact free_ptr (blt_ok qt)
  |func f=>exact .free (d:=1) rfl
 have qA:base≤w.heap.size:=Nat.le_trans hb M.post.size
 have qx:T w:=hT W w (M.post.below hi hb) qI
 have qo:=hf.post M.post
 have N: ¬Firm (kF i)→ ∀j,j<ops.size→Firm (kF j)→((i=j∨listed.getD j false=true)↔j<f):=by
  intro hk j hj y
  rw [←M.firm j hj y]
  constructor
  ·rintro (rfl|h)
   ·exact absurd y hk
   ·exact h
  ·exact .inr
 unfold wpOp
 simp only [ho]
 rw [hw]
 by_cases B:wantB ops (tsF i) o=true
 ·rw [if_pos B]
  refine .inl ?_
  by_cases hk:Firm (kF i)
  · -- all that is firm ahead of it has been carried out,and nothing that is firm behind it
   have X: ∀j,j<i→Firm (kF j)→listed.getD j false=true:=by
    intro j hj y
    rcases L.pair i o ho j hj with h|h
    ·rw [firm_pair y hk] at h;cases h
    ·exact (qi j h).1
   have qe: ∀j,i<j→j<ops.size→Firm (kF j)→listed.getD j false=false:=by
    intro j hj Z y
    have D:ops[j]? =some ops[j]:=Array.getElem?_eq_getElem Z
    rcases L.pair j _ D i hj with h|h
    ·rw [firm_pair hk y] at h;cases h
    ·exact (S j _ D h).1
   have qr:f≤i:=by
    rcases Nat.lt_or_ge i f with h|h
    ·have:=(M.firm i J hk).2 h
     rw [U] at this
     cases this
    ·exact h
   have qj: ∀k,f≤k→k<i→ ¬Firm (kF k):=fun k I Y qv=>by
    have:=(M.firm k (by omega) qv).1 (X k Y qv)
    omega
   obtain ⟨I,Y,h3⟩:=L.range qr (Nat.le_of_lt J) qj
   have D:=low_weaken M.post h3
   have e:(⟨(stF f).heap,(stF f).next,(stF i).low⟩:St)=stF i:=by rw [←I,←Y]
   rw [e] at D
   refine step_sound qy hs D.inv qA qx (hf.post D) hx B fun qn V W' qh hv _ _=> ?_
   refine k (i+1) qn _ W' (M.after R ho qd U qh.le (by omega) ?_ (D.trans' hf qh) hv)
   intro j hj y
   rcases Nat.lt_trichotomy j i with h|h|h
   ·exact ⟨fun _=>by omega,fun _=> .inr (X j h y)⟩
   ·exact ⟨fun _=>by omega,fun _=> .inl h.symm⟩
   ·refine ⟨?_,fun _=>by omega⟩
    rintro (E|E)
    ·omega
    ·rw [qe j h hj y] at E;cases E
  ·rcases hs.how with ⟨I,_⟩|⟨_,qq,⟨s,he⟩,qE,qD⟩|⟨_,s,he,O,qE,hn⟩
   ·rw [B] at I;cases I
   ·obtain ⟨_,V,hV,qB⟩:=calmT_sound M.post.inv.above qq he hx
    exact wp_value (qB w) (k f ψ _ w (M.after R ho qd U .rfl M.le (N hk) M.post hV))
   ·rcases firm_not hk with h|⟨b,h⟩
    ·rw [h] at O;exact absurd O.symm kind_not_calm
    ·rw [h] at O
     have qK:b<(stF f).next:=by
      have hG:G≤(stF f).next:=L.low f M.le
      rcases kind_rd O.symm with ⟨t,x,qa,ql⟩|⟨qM,dst,x,ad,n,c,qa,qG,ql⟩
      ·have hrel:=hx x (by rw [qa];simp [Op.operands])
       rw [ql]
       cases hv:ρ (tsF i) x with
       |pointer ad=>
        cases ad with
        |none=>
         obtain ⟨q,hq⟩:=rd_live O.symm he
         have:=(L.wf i (Nat.le_of_lt J) b q hq).1
         rw [ql,hv] at this
         have h0:blockOf (.pointer none)=0:=rfl
         rw [h0] at this ⊢
         have:=L.low f M.le
         unfold evOp at he
         rw [qa] at he
         simp only [opD,hLoad,evLoad,hv,loadB] at he
         cases he
        |some ad=>
         rw [hv] at hrel
         rcases hrel.ptr_inv with ⟨qf,_⟩|⟨r,κ,_,qb,_⟩
         ·exact Nat.lt_of_lt_of_le qf hG
         ·show ad.block<_
          rcases Nat.lt_or_ge ad.block (stF f).next with E|E
          ·exact E
          ·rw [qo _ E] at qb;cases qb
       |_=>
        unfold evOp at he
        rw [qa] at he
        simp only [opD,hLoad,evLoad,hv,loadB] at he
        cases he
      ·have hrel:=hx x (by rw [qa];simp [Op.operands])
       rw [qG] at hrel
       obtain ⟨r,κ,_,qb,_⟩:=hrel.slice_inv
       rw [ql]
       rcases Nat.lt_or_ge ad.block (stF f).next with E|E
       ·exact E
       ·rw [qo _ E] at qb;cases qb
     have qp:look (stF f).heap b=look (stF i).heap b:=by
      rcases Nat.lt_or_ge i f with qJ|qr
      ·obtain ⟨q,hq⟩:=rd_live O.symm he
       refine L.same (L.wf i (Nat.le_of_lt J) b q hq).2 (Nat.le_of_lt qJ) M.le fun j I Y y=> ?_
       have Z:j<ops.size:=Nat.lt_of_lt_of_le Y M.le
       have qL:=(M.firm j Z y).2 Y
       have qk:i≠j:=by rintro rfl;exact hk y
       have D:ops[j]? =some ops[j]:=Array.getElem?_eq_getElem Z
       rcases L.pair j _ D i (by omega) with E|E
       ·rw [h] at E;exact rd_pair y (.inr E)
       ·have:=(S j _ D E).1
        rw [qL] at this
        cases this
      ·refine (L.same qK qr (Nat.le_of_lt J) fun j I Y y=> ?_).symm
       have Z:j<ops.size:=by omega
       rcases L.pair i o ho j Y with E|E
       ·rw [h] at E;exact rd_pair y (.inl E)
       ·have:=(M.firm j Z y).1 (qi j E).1
        omega
     obtain ⟨_,qF⟩:=rd_eval (st2:=stF f) O.symm he qp
     refine op_sound M.post.inv qA qy qx qF (fun b hb=>qo b hb) hx fun qn V W' qh hv=> ?_
     exact k f qn _ W' (M.after R ho qd U qh.le M.le (N hk) (M.post.trans' hf qh) hv)
 ·rw [if_neg B]
  rcases hs.how with ⟨_,hv,_,qD⟩|⟨I,_⟩|⟨I,_⟩
  ·have hk: ¬Firm (kF i):=by rw [qD];exact fun h=>h
   exact k f ψ _ w (M.after R ho qd U .rfl M.le (N hk) M.post (by rw [hv];exact rel_undef))
  ·exact absurd I B
  ·exact absurd I B
end
theorem drawn_sound (hT:Stays base T) (hM:P.follows .mixedOrders=true) {callf:CallF} (X:CallSound P G base T callf):DrawnSound P G base T callf:=by
 intro m ops ts st ts' st' φ W A id hc Q he hi hb Z hf K
 have R:=regionB_ok Q
 obtain ⟨tsF,stF,vF,kF,qg,qe,qa,qb,I⟩:=drawn_run ops.toList 0 [] ts st rfl he
 have N:0+ops.toList.length=ops.size:=by simp
 rw [N] at qa qb
 subst qg qe qa qb
 have E: ∀j o,ops[j]? =some o→StepR P G callf m ops tsF stF vF kF j o:=fun j o O=>(I j o (Nat.zero_le _) O).1
 have g:=lex_facts hT X hc E hi hb Z hf K
 have L:Lex P G callf m ops tsF stF vF kF:=⟨E,fun j o O k hk=>(I j o (Nat.zero_le _) O).2.2 k (Nat.zero_le _) hk,
  fun i y hq=>((g (i+1) y).2 i (Nat.lt_succ_self i)).1 hq,fun i y=>((g (i+1) y).2 i (Nat.lt_succ_self i)).2,
  fun i y b q hq=>by obtain ⟨⟨qf,W',A',h1,_⟩,_⟩:=g i y;exact h1.wf b q hq,
  fun i y=>by obtain ⟨⟨qf,W',A',h1,_⟩,_⟩:=g i y;exact h1.low⟩
 have hm:=K.2.1
 refine wp_region_any hM ?_
 have qc: ∀(fuel f:Nat) (ψ:Phi) (listed:Array Bool) (a:Act) (w:World),Mid P G base m ops tsF stF vF kF φ W A f ψ listed a w→((List.range ops.size).filter fun j=> !listed.getD j false).length≤fuel→
   wpAny P .any ops (After P G base m φ (stF 0) W A .normal (tsF ops.size) (stF ops.size)) fuel listed a w:=by
  intro fuel
  induction fuel with
  |zero=>
   intro f ψ listed a w M J
   have D: ∀i,i<ops.size→listed.getD i false=true:=by
    intro i y
    cases e:listed.getD i false with
    |true=>rfl
    |false=>
     have:i∈(List.range ops.size).filter fun j=> !listed.getD j false:=List.mem_filter.2 ⟨List.mem_range.2 y,by rw [e];rfl⟩
     rw [List.eq_nil_of_length_eq_zero (Nat.le_zero.1 J)] at this
     cases this
   exact ⟨ready_full M.size D,M.fin L R hm D⟩
  |succ fuel ih=>
   intro f ψ listed a w M J
   refine ⟨fun K=>M.fin L R hm (ready_nil R M.size K),fun i U=> ?_⟩
   refine M.step hT X hc hi hb Z hf L R hm U fun f' qd a' w' M'=>ih f' qd _ a' w' M' ?_
   obtain ⟨o,O,qh,_⟩:=ready_mem M.size U
   have Y:i<ops.size:=(Array.getElem?_eq_some_iff.1 O).1
   have S:i<listed.size:=by rw [M.size];exact Y
   have:=filter_lt (p:=fun j=> !listed.getD j false) (q:=fun j=> !(listed.setIfInBounds i true).getD j false) (i:=i) (l:=List.range ops.size) (List.mem_range.2 Y) (by simp [qh]) (by rw [getD_set S];simp)
    (fun j hj=>by rw [getD_set S] at hj;split at hj<;>simp_all)
   omega
 refine qc ops.size 0 φ _ A _ ⟨by simp,Nat.zero_le _,?_,?_,below_post hi ((Below.refl _ W).drew),K.1,rfl,?_,?_⟩ ?_
 ·intro i o _ B;simp [Array.getD_eq_getD_getElem?,Array.getElem?_replicate] at B;split at B<;>simp at B
 ·intro j hj _
  constructor
  ·intro B;simp [Array.getD_eq_getD_getElem?,Array.getElem?_replicate] at B;split at B<;>simp at B
  ·intro h;omega
 ·intro j o t _ _ _ B;simp [Array.getD_eq_getD_getElem?,Array.getElem?_replicate] at B;split at B<;>simp at B
 ·intro t _;exact K.2.2 t
 ·have:=List.length_filter_le (fun j=> !(Array.replicate ops.size false).getD j false) (List.range ops.size)
  rw [List.length_range] at this
  exact this
end
end

section
open Go Go.RowKit
section
variable {P:Program} {G base:Nat} {T:World→Prop}
theorem ec_all (h:Stays base T) (y:NoNum P) (D:P.follows .mixedOrders=true) {orc:Orc} (B:OrcSound P G base T orc) (n:Nat):RecSound P G base T (ec P G orc n):=
 ec_sound h y B (fun _ g=>drawn_sound h D (callF_sound h y B g)) n
theorem runF_sound (E:Stays base T) (B:NoNum P) (N:P.follows .mixedOrders=true) {orc:Orc} (Q:OrcSound P G base T orc) {n:Nat} {f:FuncId} {args:List Value} {v:Value}
  (h:runF P G orc n f args=some v) (K:args.all (pf G 6)=true) (J:pf G 6 v=true) (W:World) (X:W.heap.size=base) (g:T W):
  Calls P f args.toArray W fun e D=>e= .returned v∧Below W.heap.size W D:=by
 unfold runF at h
 split at h
 ·rename_i Y st' M
  cases h
  have y:Inv P G base (fun _=>none) ⟨[],G,G⟩ W:=⟨fun _ _ _ h=>(by cases h),fun _ _ h=>(by cases h),List.Pairwise.nil,fun _ _ _ _ h=>(by cases h),fun _ _ _ _ _ _ _ h=>(by cases h),Nat.le_refl _⟩
  obtain ⟨_,S⟩:=evEnter_sound E B (ec_all E B N Q n) (Args:=args.toArray) M y (by omega) g (fun _ _=>rfl) (RelL.of_free K)
  refine Calls.mono S ?_
  rintro e D ⟨V,rfl,U,I,L⟩
  have O:=L.eq_of_pf I.inv.above 6 J
  subst O
  have:=I.below y (by omega)
  rw [X]
  exact ⟨rfl,this⟩
 ·cases h
def noArg (v:Value):List Value→Option Value
 |[]=>some v
 |_=>none
noncomputable def orcAdd (orc:Orc) (f:FuncId) (v:Value):Orc:=fun g args h=>br (Nat.beq g f) (noArg v args) (orc g args h)
theorem OrcSound.add {orc:Orc} (N:OrcSound P G base T orc) {f:FuncId} {v:Value} (K:pf G 6 v=true) (B: ∀W,(callFunc f #[]).run P W= .ok (.enter f #[]) W)
  (O: ∀W,base≤W.heap.size→T W→Calls P f #[] W fun e E=>e= .returned v∧Below W.heap.size W E):OrcSound P G base T (orcAdd orc f v):=by
 intro g args st u φ W Args h L I y D
 unfold orcAdd at h
 by_cases e:g=f
 ·subst e
  rw [beq_yes rfl] at h
  have h:noArg v args=some u:=h
  cases args with
  |nil=>
   cases h
   have J:Args= #[]:=by
    have:=D.nil_inv
    apply Array.ext'
    simpa using this
   subst J
   refine .inr ⟨g,#[],B W,Calls.mono (O W I y) ?_⟩
   rintro e E ⟨rfl,M⟩
   exact ⟨v,rfl,.free K,M⟩
  |cons _ _=>cases h
 ·rw [beq_no e] at h
  exact N g args st u φ W Args h L I y D
end
end

section
open Go Go.RowKit
section
variable {P:Program} {G base:Nat} {T:World→Prop}
abbrev OrcH:=List Value→Hp→Option Value
noncomputable def orcWith (orc:Orc) (f:FuncId) (k:OrcH):Orc:=fun g args h=>br (Nat.beq g f) (k args h) (orc g args h)
def orcNone:Orc:=fun _ _ _=>none
def OrcFn (P:Program) (G base:Nat) (T:World→Prop) (f:FuncId) (k:OrcH):Prop:=
 ∀(args:List Value) (st:St) (v:Value) (φ:Phi) (W:World) (Args:Array Value),k args st.heap=some v→Inv P G base φ st W→base≤W.heap.size→T W→RelL G φ args Args.toList→
  CallR P f Args W fun V W'=>Rel G φ v V∧Below W.heap.size W W'
theorem orcNone_sound:OrcSound P G base T orcNone:=fun _ _ _ _ _ _ _ h=>by cases h
theorem OrcSound.with {orc:Orc} (I:OrcSound P G base T orc) {f:FuncId} {k:OrcH} (J:OrcFn P G base T f k):OrcSound P G base T (orcWith orc f k):=by
 intro g args st v φ W Args h D E y B
 unfold orcWith at h
 by_cases e:g=f
 ·subst e
  rw [beq_yes rfl] at h
  exact J args st v φ W Args h D E y B
 ·rw [beq_no e] at h
  exact I g args st v φ W Args h D E y B
theorem args1 {φ:Phi} {a:Value} {Args:Array Value} (h:RelL G φ [a] Args.toList): ∃A,Args= #[A]∧Rel G φ a A:=by
 obtain ⟨A,L,e,g,y⟩:=h.cons_inv
 rw [y.nil_inv] at e
 exact ⟨A,Array.ext' (by simpa using e),g⟩
theorem args2 {φ:Phi} {a b:Value} {Args:Array Value} (h:RelL G φ [a,b] Args.toList): ∃A B,Args= #[A,B]∧Rel G φ a A∧Rel G φ b B:=by
 obtain ⟨A,L,e,y,D⟩:=h.cons_inv
 obtain ⟨B,M,g,I,E⟩:=D.cons_inv
 rw [g,E.nil_inv] at e
 exact ⟨A,B,Array.ext' (by simpa using e),y,I⟩
theorem args0 {φ:Phi} {Args:Array Value} (h:RelL G φ [] Args.toList):Args= #[]:=Array.ext' (by simpa using h.nil_inv)
def idxB:List UInt8→Nat→Nat→Int
 |[],_,_=> -1
 |c::l,x,i=>match Nat.beq c.toNat x with|true=>i|false=>idxB l x (i+1)
def cntB:List UInt8→Nat→Nat→Nat
 |[],_,n=>n
 |c::l,x,n=>match Nat.beq c.toNat x with|true=>cntB l x (n+1)|false=>cntB l x n
def prefB:List UInt8→List UInt8→Bool
 |[],_=>true
 |_::_,[]=>false
 |a::l,b::m=>match Nat.beq a.toNat b.toNat with|true=>prefB l m|false=>false
def idxS:List UInt8→List UInt8→Nat→Int
 |[],t,i=>match t with|[]=>i|_::_=> -1
 |c::l,t,i=>match prefB t (c::l) with|true=>i|false=>idxS l t (i+1)
def digs:Nat→Nat→List UInt8→Option (List UInt8)
 |0,_,_=>none
 |f+1,n,g=>match Nat.ble n 9 with|true=>some (UInt8.ofNat (48+n)::g)|false=>digs f (n/10) (UInt8.ofNat (48+n % 10)::g)
def joinB:List (List UInt8)→List UInt8→List UInt8
 |[],_=>[]
 |[x],_=>x
 |x::y::l,p=>x++(p++joinB (y::l) p)
def ctzB:Nat→Nat→Nat→Nat
 |0,_,i=>i
 |f+1,x,i=>match Nat.beq (x % 2) 1 with|true=>i|false=>ctzB f (x/2) (i+1)
def lenB:Nat→Nat→Nat→Nat
 |0,_,i=>i
 |f+1,x,i=>match Nat.beq x 0 with|true=>i|false=>lenB f (x/2) (i+1)
theorem idxB_ok (x:UInt8): ∀(l:List UInt8) (i:Nat),idxB l x.toNat i=if Lib.indexByte l x= -1 then -1 else Lib.indexByte l x+i
 |[],i=>rfl
 |c::l,i=>by
  unfold idxB Lib.indexByte
  have E:=Lib.indexByte_ge l x
  by_cases e:c=x
  ·subst e
   rw [beq_yes rfl]
   simp
  ·have D:c.toNat≠x.toNat:=fun h=>e (UInt8.toNat_inj.1 h)
   rw [beq_no D,idxB_ok x l (i+1)]
   have y:(c==x)=false:=by simpa using e
   simp only [y,Bool.false_eq_true,if_false]
   by_cases g:Lib.indexByte l x= -1
   ·simp [g]
   ·have B:(Lib.indexByte l x== -1)=false:=by simpa using g
    simp only [B,if_neg g,Bool.false_eq_true,if_false]
    rw [if_neg (by omega)]
    push_cast
    omega
theorem idxB_zero (x:UInt8) (l:List UInt8):idxB l x.toNat 0=Lib.indexByte l x:=by
 rw [idxB_ok];split
 ·rename_i h;exact h.symm
 ·simp
theorem cntB_ok (x:UInt8): ∀(l:List UInt8) (n:Nat),cntB l x.toNat n=n+Lib.countByte l x
 |[],n=>rfl
 |c::l,n=>by
  unfold cntB Lib.countByte
  rw [List.count_cons]
  by_cases e:c=x
  ·subst e
   rw [beq_yes rfl]
   simp only [beq_self_eq_true,if_true]
   rw [cntB_ok c l (n+1)]
   show _=n+(l.count c+1)
   unfold Lib.countByte
   omega
  ·have y:c.toNat≠x.toNat:=fun h=>e (UInt8.toNat_inj.1 h)
   rw [beq_no y]
   have g:(c==x)=false:=by simpa using e
   simp only [g,Bool.false_eq_true,if_false,Nat.add_zero]
   exact cntB_ok x l n
theorem prefB_ok: ∀(t l:List UInt8),prefB t l=t.isPrefixOf l
 |[],_=>by simp [prefB]
 |_::_,[]=>by simp [prefB]
 |a::t,b::l=>by
  unfold prefB
  by_cases e:a=b
  ·subst e
   rw [beq_yes rfl]
   simp only [List.isPrefixOf,beq_self_eq_true,Bool.true_and]
   exact prefB_ok t l
  ·have y:a.toNat≠b.toNat:=fun h=>e (UInt8.toNat_inj.1 h)
   rw [beq_no y]
   have g:(a==b)=false:=by simpa using e
   simp [List.isPrefixOf,g]
theorem idxS_ok (t:List UInt8): ∀(l:List UInt8) (i:Nat),idxS l t i=if Lib.index l t= -1 then -1 else Lib.index l t+i
 |[],i=>by
  unfold idxS Lib.index
  cases t<;>simp
 |c::l,i=>by
  unfold idxS Lib.index
  have B:=Lib.index_ge l t
  rw [prefB_ok]
  cases h:t.isPrefixOf (c::l) with
  |true=>simp
  |false=>
   simp only [Bool.false_eq_true,if_false]
   rw [idxS_ok t l (i+1)]
   by_cases g:Lib.index l t= -1
   ·simp [g]
   ·have y:(Lib.index l t== -1)=false:=by simpa using g
    simp only [y,if_neg g,Bool.false_eq_true,if_false]
    rw [if_neg (by omega)]
    push_cast
    omega
theorem idxS_zero (t l:List UInt8):idxS l t 0=Lib.index l t:=by
 rw [idxS_ok];split
 ·rename_i h;exact h.symm
 ·simp
theorem digs_ok: ∀(f n:Nat) (g r:List UInt8),digs f n g=some r→r=Lib.decDigits n++g
 |0,_,_,_,h=>by cases h
 |f+1,n,g,r,h=>by
  unfold digs at h
  rw [Lib.decDigits]
  by_cases e:n≤9
  ·rw [Nat.ble_eq_true_of_le e] at h
   cases h
   rw [dif_pos (by omega)]
   rfl
  ·have y:Nat.ble n 9=false:=by
    cases B:Nat.ble n 9
    ·rfl
    ·exact absurd (Nat.le_of_ble_eq_true B) e
   rw [y] at h
   rw [dif_neg (by omega),digs_ok f _ _ _ h]
   simp
theorem joinB_ok: ∀(l:List (List UInt8)) (p:List UInt8),joinB l p=Lib.join l p
 |[],_=>rfl
 |[x],p=>by simp [joinB,Lib.join,List.intercalate]
 |x::y::l,p=>by
  unfold joinB
  rw [joinB_ok (y::l) p]
  simp [Lib.join,List.intercalate]
theorem ctzB_ok: ∀(f x i:Nat),ctzB f x i=i+Lib.ctzFrom f x
 |0,_,_=>rfl
 |f+1,x,i=>by
  unfold ctzB Lib.ctzFrom
  by_cases e:x % 2=1
  ·rw [beq_yes e,if_pos e];rfl
  ·rw [beq_no e,if_neg e];show ctzB f (x/2) (i+1)=_;rw [ctzB_ok f];omega
theorem lenB_ok: ∀(f x i:Nat),lenB f x i=i+Lib.bitLenAux f x
 |0,_,_=>rfl
 |f+1,x,i=>by
  unfold lenB Lib.bitLenAux
  by_cases e:x=0
  ·rw [beq_yes e,if_pos e];rfl
  ·rw [beq_no e,if_neg e];show lenB f (x/2) (i+1)=_;rw [lenB_ok f];omega
end
end

noncomputable section
open Go Go.RowKit Go.Proofs
section
variable {P:Program} {G base:Nat} {T:World→Prop}
def oNoEscape:OrcH:=fun args _=>match args with|[x]=>some x|_=>none
def oIndexByte:OrcH:=fun args _=>match args with
 |[.string s,.int .u8 (.ofNat n)]=>(match Nat.blt n 256 with|true=>some (.int .i64 (idxB s.data.toList n 0))|false=>none)
 |_=>none
def oCount:OrcH:=fun args _=>match args with
 |[.string s,.int .u8 (.ofNat n)]=>(match Nat.blt n 256 with|true=>some (.int .i64 (.ofNat (cntB s.data.toList n 0)))|false=>none)
 |_=>none
def oIndex:OrcH:=fun args _=>match args with
 |[.string s,.string t]=>(match Nat.blt s.size 4294967281 with|true=>some (.int .i64 (idxS s.data.toList t.data.toList 0))|false=>none)
 |_=>none
def oLen:OrcH:=fun args _=>match args with
 |[.int .u64 (.ofNat n)]=>(match Nat.blt n 18446744073709551616 with|true=>some (.int .i64 (.ofNat (lenB 64 n 0)))|false=>none)
 |_=>none
def oCtz:OrcH:=fun args _=>match args with
 |[.int .u64 (.ofNat n)]=>(match Nat.blt n 18446744073709551616 with|true=>some (.int .i64 (.ofNat (match Nat.beq n 0 with|true=>64|false=>ctzB 64 n 0)))|false=>none)
 |_=>none
def oItoa:OrcH:=fun args _=>match args with
 |[.int .i64 (.ofNat n)]=>(match Nat.blt n 9223372036854775808,digs 20 n [] with|true,some l=>some (.string ⟨l.toArray⟩)|_,_=>none)
 |_=>none
def oTz:OrcH:=fun args _=>match args with
 |[.int .u64 (.ofNat n)]=>(match Nat.beq n 16 with|true=>some (.int .i64 4)|false=>(match Nat.beq n 8 with|true=>some (.int .i64 3)|false=>none))
 |_=>none
def oReplace:OrcH:=fun args _=>match args with
 |[.string s,.string o,.string n]=>(match Nat.blt s.size 4294967281&&Nat.blt 0 o.size&&Nat.ble (s.size+Lib.countB s o*n.size) 1000000 with|true=>some (.string ⟨(Lib.replaceAll s.data.toList o.data.toList n.data.toList).toArray⟩)|false=>none)
 |_=>none
def strsB:List Value→Option (List ByteArray)
 |[]=>some []
 | .string s::l=>(match strsB l with|some m=>some (s::m)|none=>none)
 |_=>none
def oJoin:OrcH:=fun args h=>match args with
 |[.slice (some a) n c,.string g]=>(match cellsAt h a n with
  |some cs=>(match strsB cs,Nat.ble n (c/2)&&Nat.ble n 1000000 with
   |some xs,true=>(match Nat.ble (joinB (xs.map (·.data.toList)) g.data.toList).length 1000000 with|true=>some (.string ⟨(joinB (xs.map (·.data.toList)) g.data.toList).toArray⟩)|false=>none)
   |_,_=>none)
  |none=>none)
 |_=>none
theorem value_callR {f:FuncId} {Args:Array Value} {W:World} {V v:Value} {φ:Phi} (h:(callFunc f Args).run P W= .ok (.value V) W) (g:Rel G φ v V):
  CallR P f Args W fun V W'=>Rel G φ v V∧Below W.heap.size W W':= .inl ⟨V,W,h,g,Below.refl _ _⟩
theorem calls_callR {f:FuncId} {Args:Array Value} {W:World} {V v:Value} {φ:Phi} (g:Enters P f) (h:Calls P f Args W fun e W'=>e= .returned V∧Below W.heap.size W W') (y:Rel G φ v V):
  CallR P f Args W fun V W'=>Rel G φ v V∧Below W.heap.size W W':= .inr ⟨f,Args,g Args W,h.mono fun _ _ h=>⟨V,h.1,y,h.2⟩⟩
theorem oNoEscape_ok {f:FuncId} {fn:Func} (B:P.funcs[f]? =some fn) (g:(fn.name== "runtime.NumGoroutine")=false) (K:fn.body.isNone=true) (L:Extern.findNext fn=none) (I:Extern.find fn=some Extern.AbiNoEscape.same):OrcFn P G base T f oNoEscape:=by
 intro args st v φ W Args h M E y D
 match args,h with
 |[x],h=>
  cases h
  obtain ⟨X,rfl,J⟩:=args1 D
  refine value_callR (V:=X) ?_ J
  rw [run_callFunc_extern B g K L I,Lib.run_noEscape]
  rfl
theorem u8_nat {n:Nat} (h:n<256):((Int.ofNat n).toNat.toUInt8).toNat=n:=by
 show (UInt8.ofNat n).toNat=n
 simp;omega
theorem oIndexByte_ok {f:FuncId} {fn:Func} (E:P.funcs[f]? =some fn) (g:(fn.name== "runtime.NumGoroutine")=false) (N:fn.body.isNone=true) (O:Extern.findNext fn=none) (K:Extern.find fn=some Extern.BytealgIndexByte.indexByte):OrcFn P G base T f oIndexByte:=by
 intro args st v φ W Args h Q J D I
 unfold oIndexByte at h
 split at h
 ·rename_i s n
  split at h
  ·rename_i y
   cases h
   obtain ⟨A,B,rfl,L,M⟩:=args2 I
   cases L.string
   cases M.int
   have y:=blt_ok y
   refine value_callR (V:= .int .i64 (Lib.indexByte s.data.toList (Int.ofNat n).toNat.toUInt8)) ?_ ?_
   ·rw [run_callFunc_extern E g N O K,Lib.run_indexByteString]
    rfl
   ·have e:=idxB_zero (Int.ofNat n).toNat.toUInt8 s.data.toList
    rw [u8_nat y] at e
    rw [e]
    exact .free (d:=0) rfl
  ·cases h
 ·cases h
theorem oCount_ok {f:FuncId} {fn:Func} (E:P.funcs[f]? =some fn) (g:(fn.name== "runtime.NumGoroutine")=false) (N:fn.body.isNone=true) (O:Extern.findNext fn=none) (K:Extern.find fn=some Extern.BytealgCount.count):OrcFn P G base T f oCount:=by
 intro args st v φ W Args h Q J D I
 unfold oCount at h
 split at h
 ·rename_i s n
  split at h
  ·rename_i y
   cases h
   obtain ⟨A,B,rfl,L,M⟩:=args2 I
   cases L.string
   cases M.int
   have y:=blt_ok y
   refine value_callR (V:= .int .i64 (Lib.countByte s.data.toList (Int.ofNat n).toNat.toUInt8)) ?_ ?_
   ·rw [run_callFunc_extern E g N O K,Lib.run_countString]
    rfl
   ·have e:=cntB_ok (Int.ofNat n).toNat.toUInt8 s.data.toList 0
    rw [u8_nat y,Nat.zero_add] at e
    rw [e]
    exact .free (d:=0) rfl
  ·cases h
 ·cases h
theorem oIndex_ok {f:FuncId} (I:Enters P f) (L: ∀(s t:ByteArray) (W:World),T W→s.size<4294967281→Calls P f #[.string s,.string t] W fun e w'=>e= .returned (.int .i64 (Lib.index s.data.toList t.data.toList))∧w'=W):OrcFn P G base T f oIndex:=by
 intro args st v φ W Args h M E g D
 unfold oIndex at h
 split at h
 ·rename_i s t
  split at h
  ·rename_i y
   cases h
   obtain ⟨A,B,rfl,J,K⟩:=args2 D
   cases J.string
   cases K.string
   refine calls_callR I ((L s t W g (blt_ok y)).mono fun _ _ h=>⟨h.1,h.2▸Below.refl _ _⟩) ?_
   rw [idxS_zero]
   exact .free (d:=0) rfl
  ·cases h
 ·cases h
theorem oLen_ok {f:FuncId} (D:Enters P f) (I: ∀(x:Int) (W:World),0≤x→x≤18446744073709551615→Calls P f #[.int .u64 x] W fun e w'=>e= .returned (.int .i64 (Lib.bitLen x.toNat))∧w'=W):OrcFn P G base T f oLen:=by
 intro args st v φ W Args h K B J y
 unfold oLen at h
 split at h
 ·rename_i n
  split at h
  ·rename_i g
   cases h
   obtain ⟨A,rfl,E⟩:=args1 y
   cases E.int
   have g:=blt_ok g
   refine calls_callR D ((I (Int.ofNat n) W (Int.natCast_nonneg n) (by show (n:Int)≤_;omega)).mono fun _ _ h=>⟨h.1,h.2▸Below.refl _ _⟩) ?_
   rw [lenB_ok,Nat.zero_add]
   exact .free (d:=0) rfl
  ·cases h
 ·cases h
theorem oCtz_ok {f:FuncId} (E:Enters P f) (J: ∀(x:Nat) (W:World),T W→x<18446744073709551616→Calls P f #[.int .u64 x] W fun e w'=>e= .returned (.int .i64 (Lib.ctz 64 x))∧w'=W):OrcFn P G base T f oCtz:=by
 intro args st v φ W Args h K D y B
 unfold oCtz at h
 split at h
 ·rename_i n
  split at h
  ·rename_i g
   cases h
   obtain ⟨A,rfl,I⟩:=args1 B
   cases I.int
   refine calls_callR E ((J n W y (blt_ok g)).mono fun _ _ h=>⟨h.1,h.2▸Below.refl _ _⟩) ?_
   have e:(match Nat.beq n 0 with|true=>64|false=>ctzB 64 n 0)=Lib.ctz 64 n:=by
    unfold Lib.ctz
    by_cases e:n=0
    ·rw [beq_yes e,if_pos e]
    ·rw [beq_no e,if_neg e]
     show ctzB 64 n 0=_
     rw [ctzB_ok,Nat.zero_add]
   rw [e]
   exact .free (d:=0) rfl
  ·cases h
 ·cases h
theorem oItoa_ok {f:FuncId} (E:Enters P f) (K: ∀(n:Int) (W:World),T W→ -9223372036854775808≤n→n≤9223372036854775807→Calls P f #[.int .i64 n] W fun e w'=>e= .returned (.string ⟨(Lib.itoa n).toArray⟩)∧Below W.heap.size W w'):OrcFn P G base T f oItoa:=by
 intro args st v φ W Args h M D y B
 unfold oItoa at h
 split at h
 ·rename_i n
  split at h
  ·rename_i l g L
   cases h
   obtain ⟨A,rfl,J⟩:=args1 B
   cases J.int
   have g:=blt_ok g
   refine calls_callR E ((K (Int.ofNat n) W y (by show _≤(n:Int);omega) (by show (n:Int)≤_;omega))) ?_
   ·have e:=digs_ok 20 n [] l L
    rw [List.append_nil] at e
    have I:Lib.itoa (Int.ofNat n)=l:=by
     unfold Lib.itoa
     rw [if_neg (by show ¬(n:Int)<0;omega),e]
     rfl
    rw [I]
    exact .free (d:=0) rfl
  ·cases h
 ·cases h
theorem oTz_ok {f:FuncId} (B:Enters P f) (I: ∀W,T W→Calls P f #[.int .u64 8] W fun e w'=>e= .returned (.int .i64 3)∧w'=W) (y: ∀W,T W→Calls P f #[.int .u64 16] W fun e w'=>e= .returned (.int .i64 4)∧w'=W):OrcFn P G base T f oTz:=by
 intro args st v φ W Args h K E g D
 unfold oTz at h
 split at h
 ·rename_i n
  obtain ⟨A,rfl,J⟩:=args1 D
  cases J.int
  by_cases e:n=16
  ·subst e
   cases h
   exact calls_callR B ((y W g).mono fun _ _ h=>⟨h.1,h.2▸Below.refl _ _⟩) (.free (d:=0) rfl)
  ·rw [beq_no e] at h
   by_cases e:n=8
   ·subst e
    cases h
    exact calls_callR B ((I W g).mono fun _ _ h=>⟨h.1,h.2▸Below.refl _ _⟩) (.free (d:=0) rfl)
   ·rw [beq_no e] at h
    cases h
 ·cases h
theorem args3 {φ:Phi} {a b c:Value} {Args:Array Value} (h:RelL G φ [a,b,c] Args.toList): ∃A B C,Args= #[A,B,C]∧Rel G φ a A∧Rel G φ b B∧Rel G φ c C:=by
 obtain ⟨A,L,e,J,N⟩:=h.cons_inv
 obtain ⟨B,M,I,E,O⟩:=N.cons_inv
 obtain ⟨C,K,g,y,D⟩:=O.cons_inv
 rw [I,g,D.nil_inv] at e
 exact ⟨A,B,C,Array.ext' (by simpa using e),J,E,y⟩
theorem oReplace_ok {f:FuncId} (J:Enters P f) (M: ∀(s o n:ByteArray) (W:World),T W→s.size<4294967281→1≤o.size→s.size+Lib.countB s o*n.size≤140737488355328→
   Calls P f #[.string s,.string o,.string n] W fun e w'=>e= .returned (.string ⟨(Lib.replaceAll s.data.toList o.data.toList n.data.toList).toArray⟩)∧Below W.heap.size W w'):OrcFn P G base T f oReplace:=by
 intro args st v φ W Args h N I y D
 unfold oReplace at h
 split at h
 ·rename_i s o n
  split at h
  ·rename_i g
   cases h
   rw [Bool.and_eq_true,Bool.and_eq_true] at g
   obtain ⟨A,B,C,rfl,K,L,E⟩:=args3 D
   cases K.string
   cases L.string
   cases E.string
   have O:=Nat.le_of_ble_eq_true g.2
   exact calls_callR J (M s o n W y (blt_ok g.1.1) (blt_ok g.1.2) (by omega)) (.free (d:=0) rfl)
  ·cases h
 ·cases h
theorem strsB_ok: ∀{l:List Value} {m:List ByteArray},strsB l=some m→l=m.map .string
 |[],m,h=>by cases h;rfl
 | .string s::l,m,h=>by
  unfold strsB at h
  split at h
  ·rename_i y g
   cases h
   rw [strsB_ok g]
   rfl
  ·cases h
 | .bool _::_,_,h=>by cases h
 | .int _ _::_,_,h=>by cases h
 | .float _ _::_,_,h=>by cases h
 | .complex _ _ _::_,_,h=>by cases h
 | .pointer _::_,_,h=>by cases h
 | .slice _ _ _::_,_,h=>by cases h
 | .map _::_,_,h=>by cases h
 | .chan _::_,_,h=>by cases h
 | .func _ _ _::_,_,h=>by cases h
 | .nilFunc::_,_,h=>by cases h
 | .iface _ _::_,_,h=>by cases h
 | .nilIface::_,_,h=>by cases h
 | .agg _::_,_,h=>by cases h
 | .tuple _::_,_,h=>by cases h
theorem oJoin_ok {f:FuncId} (X:Enters P f) (hc: ∀(bk o c:Nat) (xs:List ByteArray) (y:ByteArray) (w:World),(∀(j:Nat) x,xs[j]? =some x→w.cell? ⟨bk,o+j,none⟩=some (.string x))→bk<w.heap.size→xs.length≤140737488355328→xs.length≤c→
   (Lib.join (xs.map (·.data.toList)) y.data.toList).length≤140737488355328→Calls P f #[.slice (some ⟨bk,o,none⟩) xs.length c,.string y] w fun e w'=>e= .returned (.string ⟨(Lib.join (xs.map (·.data.toList)) y.data.toList).toArray⟩)∧Below w.heap.size w w'):OrcFn P G base T f oJoin:=by
 intro args st v φ W Args h K qb qc ha
 unfold oJoin at h
 split at h
 ·rename_i a n c y
  split at h
  ·rename_i cs Q
   split at h
   ·rename_i xs S E
    rw [Bool.and_eq_true] at E
    have qa:=Nat.le_of_ble_eq_true E.1
    have Z:=Nat.le_of_ble_eq_true E.2
    split at h
    ·rename_i D
     cases h
     have D:=Nat.le_of_ble_eq_true D
     obtain ⟨A,B,rfl,h1,h2⟩:=args2 ha
     cases h2.string
     obtain ⟨r,κ,qd,N,hA⟩:=h1.slice_inv
     obtain ⟨L,hL,O,_,I⟩:=cellsAt_ok K Q N
     have Y:=strsB_ok S
     have J:L=xs.map .string:=by
      refine hL.eq_of_pf K.above (d:=0) ?_|>.trans Y
      rw [Y]
      simp [pf]
     have hn:xs.length=n:=by rw [←O,J];simp
     have g: ∀(j:Nat) x,xs[j]? =some x→W.cell? ⟨r,a.off+j,none⟩=some (.string x):=by
      intro j x hj
      have:=I j (.string x) (by rw [J];simp [hj])
      rwa [addr_add] at this
     rw [joinB_ok] at D ⊢
     rcases hA with ⟨U,M,rfl⟩|⟨U,M,rfl⟩
     ·subst hn
      exact calls_callR X (hc r a.off U xs y W g (K.dom _ _ _ N).2.2 (by omega) (by omega) (by omega)) (.free (d:=0) rfl)
     ·subst hn
      exact calls_callR X (hc r a.off (U+κ) xs y W g (K.dom _ _ _ N).2.2 (by omega) (by omega) (by omega)) (.free (d:=0) rfl)
    ·cases h
   ·cases h
  ·cases h
 ·cases h
theorem oFn_ok {f:FuncId} {k:OrcH} (E:Enters P f) (h: ∀args hp v,k args hp=some v→args.all (pf G 6)=true∧pf G 6 v=true∧ ∀W,base≤W.heap.size→T W→Calls P f args.toArray W fun e w'=>e= .returned v∧Below W.heap.size W w'):OrcFn P G base T f k:=by
 intro args st v φ W Args M J g y B
 obtain ⟨I,L,D⟩:=h args st.heap v M
 have e:=B.eq_of_pf J.above I
 have K:Args=args.toArray:=Array.ext' (by simpa using e)
 subst K
 exact calls_callR E (D W g y) (.free L)
def eqL (l:List UInt8):List UInt8→Bool:=
 List.rec (motive:=fun _=>List UInt8→Bool) (fun m=>List.rec (motive:=fun _=>Bool) true (fun _ _ _=>false) m)
  (fun x _ g m=>List.rec (motive:=fun _=>Bool) false (fun y m _=>Bool.rec (motive:=fun _=>Bool) false (g m) (Nat.beq x.toNat y.toNat)) m) l
theorem eqL_ok: ∀{l m:List UInt8},eqL l m=true→l=m
 |[],[],_=>rfl
 |[],_::_,h=>by cases h
 |_::_,[],h=>by cases h
 |x::l,y::m,h=>by
  have e:eqL (x::l) (y::m)=Bool.rec (motive:=fun _=>Bool) false (eqL l m) (Nat.beq x.toNat y.toNat):=rfl
  rw [e] at h
  by_cases g:x.toNat=y.toNat
  ·rw [beq_yes g] at h
   rw [UInt8.toNat_inj.1 g,eqL_ok h]
  ·rw [beq_no g] at h;cases h
abbrev Memo:=List (List UInt8×Value)
def memoL (t:Memo) (s:List UInt8):Option Value:=
 List.rec (motive:=fun _=>Option Value) none (fun x _ g=>Bool.rec (motive:=fun _=>Option Value) g (some x.2) (eqL x.1 s)) t
theorem memoL_ok: ∀{t:Memo} {s:List UInt8} {v:Value},memoL t s=some v→(s,v)∈t
 |[],_,_,h=>by cases h
 |x::t,s,v,h=>by
  have e:memoL (x::t) s=Bool.rec (motive:=fun _=>Option Value) (memoL t s) (some x.2) (eqL x.1 s):=rfl
  rw [e] at h
  cases g:eqL x.1 s with
  |true=>
   rw [g] at h
   cases h
   rw [←eqL_ok g]
   exact List.mem_cons_self
  |false=>rw [g] at h;exact List.mem_cons_of_mem _ (memoL_ok h)
def oMemo (t:Memo):OrcH:=fun args _=>match args with
 |[.string s]=>memoL t s.data.toList
 |_=>none
theorem oMemo_ok {f:FuncId} {t:Memo} (D:Enters P f) (E:t.all (fun x=>pf G 6 x.2)=true)
  (h: ∀x∈t,∀W,base≤W.heap.size→T W→Calls P f #[.string ⟨x.1.toArray⟩] W fun e w'=>e= .returned x.2∧Below W.heap.size W w'):OrcFn P G base T f (oMemo t):=by
 refine oFn_ok D fun args I v g=> ?_
 unfold oMemo at g
 split at g
 ·rename_i s
  have y:=memoL_ok g
  refine ⟨rfl,List.all_eq_true.1 E _ y,fun W J B=> ?_⟩
  have:=h _ y W J B
  simpa using this
 ·cases g
theorem map_eq {B D:Type} {f g:B→D}: ∀{l:List B},l.map f=l.map g→ ∀x∈l,f x=g x
 |[],_,_,h=>by cases h
 |y::l,e,x,h=>by
  rw [List.map_cons,List.map_cons] at e
  rcases List.mem_cons.1 h with rfl|h
  ·exact (List.cons.inj e).1
  ·exact map_eq (List.cons.inj e).2 x h
end
end

noncomputable section
open Go Go.RowKit Go.Proofs
inductive R where|no|yes (v:Value) (st:St)
inductive RT where|no|yes (ts:Ts) (st:St)
inductive RC where|no|nrm (ts:Ts) (st:St)|ex (id:Nat) (ts:Ts) (st:St)|rt (ts:Ts) (st:St)
def ofRes (r:Res):R:=Option.rec (motive:=fun _=>R) .no (fun x=> .yes x.1 x.2) r
inductive VI where|i (k:IntKind) (n:Nat)|o
inductive VB where|t|f|o
inductive VP where|p (b o:Nat)|o
inductive VT where|t (l:List Value)|o
def vI:Value→VI:= @Value.rec (fun _=>VI) (fun _=>Unit) (fun _=>Unit) (fun _=> .o) (fun k n=>Int.rec (motive:=fun _=>VI) (fun n=> .i k n) (fun _=> .o) n) (fun _ _=> .o) (fun _ _ _=> .o) (fun _=> .o) (fun _=> .o) (fun _ _ _=> .o) (fun _=> .o) (fun _=> .o)
 (fun _ _ _ _ _=> .o) .o (fun _ _ _=> .o) .o (fun _ _=> .o) (fun _ _=> .o) (fun _ _=>()) () (fun _ _ _ _=>())
def vB:Value→VB:= @Value.rec (fun _=>VB) (fun _=>Unit) (fun _=>Unit) (fun b=>Bool.rec (motive:=fun _=>VB) .f .t b) (fun _ _=> .o) (fun _ _=> .o) (fun _ _ _=> .o) (fun _=> .o) (fun _=> .o) (fun _ _ _=> .o) (fun _=> .o) (fun _=> .o)
 (fun _ _ _ _ _=> .o) .o (fun _ _ _=> .o) .o (fun _ _=> .o) (fun _ _=> .o) (fun _ _=>()) () (fun _ _ _ _=>())
def vPa (a:Addr):VP:=Addr.rec (motive:=fun _=>VP) (fun b o s=>Option.rec (motive:=fun _=>VP) (.p b o) (fun _=> .o) s) a
def vP:Value→VP:= @Value.rec (fun _=>VP) (fun _=>Unit) (fun _=>Unit) (fun _=> .o) (fun _ _=> .o) (fun _ _=> .o) (fun _ _ _=> .o) (fun _=> .o) (fun a=>Option.rec (motive:=fun _=>VP) .o vPa a) (fun _ _ _=> .o) (fun _=> .o) (fun _=> .o)
 (fun _ _ _ _ _=> .o) .o (fun _ _ _=> .o) .o (fun _ _=> .o) (fun _ _=> .o) (fun _ _=>()) () (fun _ _ _ _=>())
def vT:Value→VT:= @Value.rec (fun _=>VT) (fun _=>Unit) (fun _=>Unit) (fun _=> .o) (fun _ _=> .o) (fun _ _=> .o) (fun _ _ _=> .o) (fun _=> .o) (fun _=> .o) (fun _ _ _=> .o) (fun _=> .o) (fun _=> .o)
 (fun _ _ _ _ _=> .o) .o (fun _ _ _=> .o) .o (fun _ _=> .o) (fun vs _=>Array.rec (motive:=fun _=>VT) (fun l=> .t l) vs) (fun _ _=>()) () (fun _ _ _ _=>())
def vOne:Value→Bool:= @Value.rec (fun _=>Bool) (fun _=>Unit) (fun _=>Unit) (fun _=>true) (fun _ _=>true) (fun _ _=>true) (fun _ _ _=>true) (fun _=>true) (fun _=>true) (fun _ _ _=>true) (fun _=>true) (fun _=>true)
 (fun _ _ _ _ _=>true) true (fun _ _ _=>true) true (fun _ _=>false) (fun _ _=>false) (fun _ _=>()) () (fun _ _ _ _=>())
def kNo (k:IntKind):Nat:=IntKind.rec (motive:=fun _=>Nat) 0 1 2 3 4 5 6 7 k
def kMax (k:IntKind):Nat:=IntKind.rec (motive:=fun _=>Nat) 127 32767 2147483647 9223372036854775807 255 65535 4294967295 18446744073709551615 k
def sameK (k l:IntKind):Bool:=Nat.beq (kNo k) (kNo l)
def okN (k:IntKind) (n:Nat):Option Value:=br (Nat.ble n (kMax k)) (some (.int k (.ofNat n))) none
def inK (k:IntKind) (m n:Nat) (o:Option Value):Option Value:=br (Nat.ble m (kMax k)) (br (Nat.ble n (kMax k)) o none) none
def kBits (k:IntKind):Nat:=IntKind.rec (motive:=fun _=>Nat) 8 16 32 64 8 16 32 64 k
abbrev NB:=Bool→IntKind→Nat→Nat→Option Value
def natBin:BinOp→NB:=
 @BinOp.rec (fun _=>NB) (fun s k m n=>br s (okN k (Nat.add m n)) none) (fun s k m n=>br s (br (Nat.ble n m) (okN k (Nat.sub m n)) none) none) (fun s k m n=>br s (okN k (Nat.mul m n)) none)
  (fun s k m n=>br s (br (Nat.beq n 0) none (okN k (Nat.div m n))) none) (fun s k m n=>br s (br (Nat.beq n 0) none (okN k (Nat.mod m n))) none)
  (fun s k m n=>br s (inK k m n (okN k (Nat.land m n))) none) (fun s k m n=>br s (inK k m n (okN k (Nat.lor m n))) none) (fun s k m n=>br s (inK k m n (okN k (Nat.xor m n))) none)
  (fun _ k m n=>br (Nat.ble n (kBits k)) (okN k (Nat.mul m (Nat.pow 2 n))) none) (fun _ k m n=>br (Nat.ble n (kBits k)) (some (.int k (.ofNat (Nat.div m (Nat.pow 2 n))))) none) (fun _ _ _ _=>none)
  (fun s _ m n=>br s (some (.bool (Nat.beq m n))) none) (fun s _ m n=>br s (some (.bool (br (Nat.beq m n) false true))) none) (fun s _ m n=>br s (some (.bool (Nat.blt m n))) none) (fun s _ m n=>br s (some (.bool (Nat.ble m n))) none)
  (fun s _ m n=>br s (some (.bool (Nat.blt n m))) none) (fun s _ m n=>br s (some (.bool (Nat.ble n m))) none)
def ovR (o:Option Value) (st:St) (g:R):R:=Option.rec (motive:=fun _=>R) g (fun v=> .yes v st) o
def binR1 (op:BinOp) (k:IntKind) (m:Nat) (b:VI) (st:St) (g:R):R:=VI.rec (motive:=fun _=>R) (fun l n=>ovR (natBin op (sameK k l) k m n) st g) g b
def binR (op:BinOp) (a b:Value) (st:St) (g:R):R:=VI.rec (motive:=fun _=>R) (fun k m=>binR1 op k m (vI b) st g) g (vI a)
def pathB (f:Nat):Nat→List Bool:=
 Nat.rec (motive:=fun _=>Nat→List Bool) (fun _=>[]) (fun _ g k=>Bool.rec (motive:=fun _=>List Bool) (Bool.rec (motive:=fun _=>List Bool) (false::g (Nat.sub (Nat.div k 2) 1)) (true::g (Nat.div k 2)) (Nat.beq (Nat.mod k 2) 1)) [] (Nat.beq k 0)) f
def path (k:Nat):List Bool:=pathB (Nat.add k 2) k
def Tr.getP (t:Tr):List Bool→Value:=
 Tr.rec (motive:=fun _=>List Bool→Value) (fun _=>undef) (fun _ v _ g h p=>List.rec (motive:=fun _=>Value) v (fun b q _=>Bool.rec (motive:=fun _=>Value) (h q) (g q) b) p) t
def putE (v:Value) (p:List Bool):Tr:=List.rec (motive:=fun _=>Tr) (.n .e v .e) (fun b _ g=>Bool.rec (motive:=fun _=>Tr) (.n .e undef g) (.n g undef .e) b) p
def Tr.putP (v:Value) (t:Tr):List Bool→Tr:=
 Tr.rec (motive:=fun _=>List Bool→Tr) (putE v) (fun l x r h g p=>List.rec (motive:=fun _=>Tr) (.n l v r) (fun b q _=>Bool.rec (motive:=fun _=>Tr) (.n l x (g q)) (.n (h q) x r) b) p) t
def ρF (ts:Ts):Operand→Value:= @Operand.rec (fun _=>Value) (fun t=>ts.getP (path t)) (fun v=>v) (fun g=> .pointer (some ⟨g,0,none⟩)) (fun f=> .func (.func f) #[] #[])
def putF (m:Nat) (ts:Ts) (d:Option Tmp) (v:Value):Ts:=Option.rec (motive:=fun _=>Ts) ts (fun d=>Bool.rec (motive:=fun _=>Ts) ts (ts.putP v (path d)) (Nat.blt d m)) d
def nthL (l:List Value):Nat→Option Value:=
 List.rec (motive:=fun _=>Nat→Option Value) (fun _=>none) (fun x _ g n=>Nat.rec (motive:=fun _=>Option Value) (some x) (fun m _=>g m) n) l
def consO (y:Value) (o:Option (List Value)):Option (List Value):=Option.rec (motive:=fun _=>Option (List Value)) none (fun l=>some (y::l)) o
def setL (x:Value) (l:List Value):Nat→Option (List Value):=
 List.rec (motive:=fun _=>Nat→Option (List Value)) (fun _=>none) (fun y l g n=>Nat.rec (motive:=fun _=>Option (List Value)) (some (x::l)) (fun m _=>consO y (g m)) n) l
abbrev FH:=Program→Nat→CallF→Ts→TypeId→St→R
def fMove (x:Operand):FH:=fun _ _ _ ts _ st=> .yes (ρF ts x) st
def pickR (c:VB) (a b:Value) (st:St):R:=VB.rec (motive:=fun _=>R) (.yes a st) (.yes b st) .no c
def fPick (c a b:Operand):FH:=fun _ _ _ ts _ st=>pickR (vB (ρF ts c)) (ρF ts a) (ρF ts b) st
def fBin (op:BinOp) (t:TypeId) (x y:Operand):FH:=fun P G callf ts ty st=>binR op (ρF ts x) (ρF ts y) st (ofRes (hBin op t x y P G callf ts ty st))
def vK:Option TypeDesc→Option IntKind:=fun d=>match d with|some (.int k)=>some k|_=>none
def convR1 (k:Option IntKind) (n:Nat) (st:St) (g:R):R:=Option.rec (motive:=fun _=>R) g (fun k=>ovR (okN k n) st g) k
def convR (k:Option IntKind) (x:VI) (st:St) (g:R):R:=VI.rec (motive:=fun _=>R) (fun _ n=>convR1 k n st g) g x
def someB (o:Option TypeDesc):Bool:=match o with|some _=>true|none=>false
def fConvert (g dst:TypeId) (x:Operand):FH:=fun P G callf ts ty st=>br (someB (P.underlying g)) (convR (vK (P.underlying dst)) (vI (ρF ts x)) st (ofRes (hConvert g dst x P G callf ts ty st))) (ofRes (hConvert g dst x P G callf ts ty st))
def notAgg (P:Program) (t:TypeId):Bool:=match isAggB P t with|some false=>true|_=>false
def loadO (h:AObj) (o:Nat) (st:St) (g:R):R:=AObj.rec (motive:=fun _=>R) (fun cs _ _ _=>ovR (nthL cs o) st g) (fun _ _=>g) (fun _ _=>g) h
def loadR1 (b o:Nat) (st:St) (g:R):R:=Option.rec (motive:=fun _=>R) g (fun h=>loadO h o st g) (look st.heap b)
def loadR (a:VP) (st:St) (g:R):R:=VP.rec (motive:=fun _=>R) (fun b o=>loadR1 b o st g) g a
def fLoad (t:TypeId) (a:Operand):FH:=fun P G callf ts ty st=>br (notAgg P t) (loadR (vP (ρF ts a)) st (ofRes (hLoad t a P G callf ts ty st))) (ofRes (hLoad t a P G callf ts ty st))
def size1 (P:Program) (t:TypeId):Bool:=match sizeB P t with|some 1=>true|_=>false
def storeS (r:Option (List Value)) (b:Nat) (e:TypeId) (ext:Bool) (st:St) (g:R):R:=Option.rec (motive:=fun _=>R) g (fun cs=> .yes undef (st.set b (.row cs e ext false))) r
def storeO (h:AObj) (b o:Nat) (x:Value) (st:St) (g:R):R:=AObj.rec (motive:=fun _=>R) (fun cs e ext fz=>br fz g (storeS (setL x cs o) b e ext st g)) (fun _ _=>g) (fun _ _=>g) h
def storeR1 (b o:Nat) (x:Value) (st:St) (g:R):R:=Option.rec (motive:=fun _=>R) g (fun h=>storeO h b o x st g) (look st.heap b)
def storeR (a:VP) (x:Value) (st:St) (g:R):R:=VP.rec (motive:=fun _=>R) (fun b o=>br (vOne x) (storeR1 b o x st g) g) g a
def fStore (t:TypeId) (a x:Operand):FH:=fun P G callf ts ty st=>br (size1 P t) (storeR (vP (ρF ts a)) (ρF ts x) st (ofRes (hStore t a x P G callf ts ty st))) (ofRes (hStore t a x P G callf ts ty st))
def offB (P:Program) (s:TypeId) (f:Nat):Option Nat:=
 match P.underlying s with
 |some (.struct g)=>(match g[f]? with
  |some f=>(match sizeB P f.type with|some (_+1)=>some f.offset|_=>none)
  |none=>none)
 |_=>none
def faR1 (b o:Nat) (d:Option Nat) (st:St):R:=Option.rec (motive:=fun _=>R) .no (fun d=> .yes (.pointer (some ⟨b,Nat.add o d,none⟩)) st) d
def faR (a:VP) (d:Option Nat) (st:St):R:=VP.rec (motive:=fun _=>R) (fun b o=>faR1 b o d st) .no a
def fFieldAddr (s:TypeId) (x:Operand) (f:Nat):FH:=fun P _ _ ts _ st=>faR (vP (ρF ts x)) (offB P s f) st
def extR (t:VT) (i:Nat) (st:St):R:=VT.rec (motive:=fun _=>R) (fun l=>ovR (nthL l i) st .no) .no t
def fExtract (t:Operand) (i:Nat):FH:=fun _ _ _ ts _ st=>extR (vT (ρF ts t)) i st
inductive VS where|s (l:List UInt8)|o
def vS:Value→VS:= @Value.rec (fun _=>VS) (fun _=>Unit) (fun _=>Unit) (fun _=> .o) (fun _ _=> .o) (fun _ _=> .o) (fun _ _ _=> .o) (fun s=> .s s.data.toList) (fun _=> .o) (fun _ _ _=> .o) (fun _=> .o) (fun _=> .o)
 (fun _ _ _ _ _=> .o) .o (fun _ _ _=> .o) .o (fun _ _=> .o) (fun _ _=> .o) (fun _ _=>()) () (fun _ _ _ _=>())
def dropL (l:List UInt8):Nat→List UInt8:=
 List.rec (motive:=fun _=>Nat→List UInt8) (fun _=>[]) (fun x t g n=>Nat.rec (motive:=fun _=>List UInt8) (x::t) (fun m _=>g m) n) l
def takeL (l:List UInt8):Nat→List UInt8:=
 List.rec (motive:=fun _=>Nat→List UInt8) (fun _=>[]) (fun x _ g n=>Nat.rec (motive:=fun _=>List UInt8) [] (fun m _=>x::g m) n) l
def nthB (l:List UInt8):Nat→Option UInt8:=
 List.rec (motive:=fun _=>Nat→Option UInt8) (fun _=>none) (fun x _ g n=>Nat.rec (motive:=fun _=>Option UInt8) (some x) (fun m _=>g m) n) l
def lenL (l:List UInt8):Nat→Nat:=List.rec (motive:=fun _=>Nat→Nat) (fun n=>n) (fun _ _ g n=>g (Nat.add n 1)) l
def isStrT (P:Program) (t:TypeId):Bool:=match P.underlying t with|some .string=>true|_=>false
def strV (l:List UInt8):Value:= .string ⟨⟨l⟩⟩
def sliS2 (l:List UInt8) (h:Nat) (st:St) (a:Option Nat):R:=Option.rec (motive:=fun _=>R) .no (fun a=> .yes (strV (takeL (dropL l a) (Nat.sub h a))) st) a
def sliS1 (l:List UInt8) (g:Option Value) (st:St) (h:Option Nat):R:=Option.rec (motive:=fun _=>R) .no (fun h=>sliS2 l h st (boundB g 0 h)) h
def sliS (g y:Option Value) (st:St) (h:R) (x:VS):R:=VS.rec (motive:=fun _=>R) (fun l=>sliS1 l g st (boundB y (lenL l 0) (lenL l 0))) h x
def fSlice (t:TypeId) (x:Operand) (g y h:Option Operand):FH:=fun P G callf ts ty st=>
 br (isStrT P t) (Option.rec (motive:=fun _=>R) (sliS (g.map (ρF ts)) (y.map (ρF ts)) st .no (vS (ρF ts x))) (fun _=> .no) h) (ofRes (hSlice t x g y h P G callf ts ty st))
def idxS2 (b:Option UInt8) (st:St):R:=Option.rec (motive:=fun _=>R) .no (fun b=> .yes (.int .u8 (.ofNat b.toNat)) st) b
def idxS1 (x:VS) (n:Nat) (st:St) (g:R):R:=VS.rec (motive:=fun _=>R) (fun l=>idxS2 (nthB l n) st) g x
def idxS0 (x:VS) (i:VI) (st:St) (g:R):R:=VI.rec (motive:=fun _=>R) (fun _ n=>idxS1 x n st g) g i
def fIndex (t:TypeId) (x g:Operand):FH:=fun P G callf ts ty st=>br (isStrT P t) (idxS0 (vS (ρF ts x)) (vI (ρF ts g)) st (ofRes (hIndex t x g P G callf ts ty st))) (ofRes (hIndex t x g P G callf ts ty st))
def nxtB (b:Option UInt8) (s:ByteArray) (pos:Nat) (k:Nat) (st:St) (g:R):R:=
 Option.rec (motive:=fun _=>R) g (fun b=>br (Nat.blt b.toNat 128) (.yes (.tuple #[.bool true,.int .i64 (.ofNat pos),.int .i32 (.ofNat b.toNat)]) (st.set k (.iter s (Nat.add pos 1)))) g) b
def nxtO (h:AObj) (k:Nat) (st:St) (g:R):R:=AObj.rec (motive:=fun _=>R) (fun _ _ _ _=>g) (fun s pos=>nxtB (nthB s.data.toList pos) s pos k st g) (fun _ _=>g) h
def nxt1 (k o:Nat) (st:St) (g:R):R:=br (Nat.beq o 0) (Option.rec (motive:=fun _=>R) g (fun h=>nxtO h k st g) (look st.heap k)) g
def nxt0 (p:VP) (st:St) (g:R):R:=VP.rec (motive:=fun _=>R) (fun k o=>nxt1 k o st g) g p
def fNext (it:Operand) (s:Bool):FH:=fun P G callf ts ty st=>br s (nxt0 (vP (ρF ts it)) st (ofRes (hNext it s P G callf ts ty st))) .no
def calleeF (c:Callee):Option FuncId:=match c with| .value (.func g)=>some g|_=>none
def argsF (ts:Ts) (l:List Operand):List Value:=List.rec (motive:=fun _=>List Value) [] (fun x _ g=>ρF ts x::g) l
def fCall (c:Call):FH:=fun P G callf ts ty st=>Option.rec (motive:=fun _=>R) (ofRes (hCall c P G callf ts ty st)) (fun g=>ofRes (callf g (argsF ts c.args.toList) st)) (calleeF c.callee)
def slowH (h:H):FH:=fun P G callf ts ty st=>ofRes (h P G callf ts ty st)
def opF:Op→FH:= @Op.rec (fun _=>FH) fMove fMove fPick (fun e=>slowH (hAlloc e)) (fun e x=>slowH (hBox e x)) (fun t p=>slowH (hBuild t p)) (fun t n p=>slowH (hBuildSlice t n p)) (fun t m k v=>slowH (hMapUpdate t m k v)) fLoad fStore (fun _=>slowH hNone) (fun _=>slowH hNone)
 (fun x=>slowH (hNil x)) (fun op t x y _=>fBin op t x y) (fun op _ x=>slowH (hUn op x)) fConvert (fun _ _=>slowH hNone) (fun t x=>slowH (hIface t x)) (fun f a c=>slowH (hFunc f a c)) (fun t r=>slowH (hMakeMap t r)) (fun _ _=>slowH hNone) (fun t l c=>slowH (hMakeSlice t l c))
 fSlice fFieldAddr (fun t x f=>slowH (hField t x f)) (fun t x i=>slowH (hIndexAddr t x i)) fIndex (fun t x i ok=>slowH (hLookup t x i ok)) (fun t m k v=>slowH (hMapUpdate t m k v)) (fun _ _ _=>slowH hNone) (fun _ _ _ _=>slowH hNone)
 (fun t x=>slowH (hRange t x)) fNext (fun _=>slowH hNone) (fun x _ t ok=>slowH (hAssert x t ok)) fExtract fCall (fun _=>slowH hNone) (fun _=>slowH hNone) (fun _=>slowH hNone) (fun _ _=>slowH hNone) (fun _ _ _=>slowH hNone) (fun _ _=>slowH hNone)
abbrev KF:=Ts→St→RT
def runK (P:Program) (G:Nat) (callf:CallF) (m:Nat) (o:Oper) (g:KF) (ts:Ts) (st:St):RT:=
 R.rec (motive:=fun _=>RT) .no (fun v st=>g (putF m ts o.dst v) st) (opF o.op P G callf ts o.type st)
def wantP (ops:Array Oper) (ts:Ts) (g:Nat×Bool):Bool:=match yieldB ops ts g.1,g.2 with
  |some true,true|some false,false=>true
  |_,_=>false
def guardK (ops:Array Oper) (ts:Ts) (g:Option (Nat×Bool)) (a b:RT):RT:=Option.rec (motive:=fun _=>RT) a (fun g=>br (wantP ops ts g) a b) g
def opsF (P:Program) (G:Nat) (callf:CallF) (m:Nat) (ops:Array Oper) (l:List Oper):KF:=
 List.rec (motive:=fun _=>KF) (fun ts st=> .yes ts st)
  (fun o _ g ts st=>guardK ops ts o.guard (runK P G callf m o g ts st) (g (putF m ts o.dst undef) st)) l
abbrev KD:=Nat→List (Nat×Kind)→Ts→St→RT
def calmK (P:Program) (G:Nat) (callf:CallF) (m:Nat) (o:Oper) (g:KD) (i:Nat) (ks:List (Nat×Kind)) (ts:Ts) (st:St):RT:=
 R.rec (motive:=fun _=>RT) .no (fun v _=>g (Nat.add i 1) ks (putF m ts o.dst v) st) (opF o.op P G callf ts o.type st)
def firmK (ops:Array Oper) (m:Nat) (o:Oper) (g:KD) (i:Nat) (ks:List (Nat×Kind)) (ts:Ts) (st:St) (r:R):RT:=
 R.rec (motive:=fun _=>RT) .no (fun v st'=>br (freeB ops i (kindOf ts o.op (!Nat.ble st.next st'.low)) ks&&Nat.ble st.next st'.next)
  (g (Nat.add i 1) ((i,kindOf ts o.op (!Nat.ble st.next st'.low))::ks) (putF m ts o.dst v) ⟨st'.heap,st'.next,Nat.min st.low st'.low⟩) .no) r
def drawK (P:Program) (G:Nat) (callf:CallF) (m:Nat) (ops:Array Oper) (o:Oper) (g:KD) (i:Nat) (ks:List (Nat×Kind)) (ts:Ts) (st:St):RT:=
 br (calmB o.op) (calmK P G callf m o g i ks ts st) (br (calmT ts o.op) (calmK P G callf m o g i ks ts st)
  (firmK ops m o g i ks ts st (opF o.op P G callf ts o.type ⟨st.heap,st.next,st.next⟩)))
def drawnF (P:Program) (G:Nat) (callf:CallF) (m:Nat) (ops:Array Oper) (l:List Oper):KD:=
 List.rec (motive:=fun _=>KD) (fun _ _ ts st=> .yes ts st)
  (fun o _ g i ks ts st=>guardK ops ts o.guard (drawK P G callf m ops o g i ks ts st) (g (Nat.add i 1) ks (putF m ts o.dst undef) st)) l
abbrev RecF:=Nat→Code→Ts→St→RC
def vFree:Value→Bool:= @Value.rec (fun _=>Bool) (fun _=>Unit) (fun _=>Unit) (fun _=>true) (fun _ _=>true) (fun _ _=>true) (fun _ _ _=>true) (fun _=>true) (fun a=>Option.rec (motive:=fun _=>Bool) true (fun _=>false) a) (fun _ _ _=>false) (fun _=>false) (fun _=>false)
 (fun _ _ _ _ _=>false) true (fun _ _ _=>false) true (fun _ _=>false) (fun _ _=>false) (fun _ _=>()) () (fun _ _ _ _=>())
def resF' (P:Program) (h:Hp) (ts:Ts) (l:List ResultVar):Option (List Value):=
 List.rec (motive:=fun _=>Option (List Value)) (some []) (fun x _ g=>ResultVar.rec (motive:=fun _=>Option (List Value)) (fun t=>consO (ts.getP (path t)) g) (fun a t=>Option.rec (motive:=fun _=>Option (List Value)) none (fun v=>consO v g) (loadB P h t (ts.get a))) x) l
def cutR (v:Value) (st st':St) (b:Bool):Res:=br b (some (v,⟨cutB st'.heap st.next,st'.next,Nat.min st.low st'.low⟩)) (some (v,⟨st'.heap,st'.next,Nat.min st.low st'.low⟩))
def freeV (G d:Nat) (v:Value):Bool:=br (vFree v) true (pf G d v)
def retV (G:Nat) (st st':St) (v:Value):Res:=cutR v st st' (br (Nat.ble st.next st'.low) (freeV G 6 v) false)
def retL (G:Nat) (st st':St) (l:List Value):Res:=
 List.rec (motive:=fun _=>Res) (cutR (.tuple #[]) st st' (Nat.ble st.next st'.low))
  (fun v r _=>List.rec (motive:=fun _=>Res) (retV G st st' v) (fun _ _ _=>cutR (.tuple ⟨v::r⟩) st st' (br (Nat.ble st.next st'.low) (List.rec (motive:=fun _=>Bool) true (fun x _ g=>br (freeV G 5 x) g false) (v::r)) false)) r) l
def retS (P:Program) (G:Nat) (rs:List ResultVar) (st:St) (ts':Ts) (st':St):Res:=Option.rec (motive:=fun _=>Res) none (retL G st st') (resF' P st'.heap ts' rs)
def retF (P:Program) (G:Nat) (rs:List ResultVar) (st:St) (r:RC):Res:=
 RC.rec (motive:=fun _=>Res) none (retS P G rs st) (fun _ _ _=>none) (retS P G rs st) r
def lenV (l:List Value):Nat→Nat:=List.rec (motive:=fun _=>Nat→Nat) (fun n=>n) (fun _ _ g n=>g (Nat.add n 1)) l
def ofArgsF (l:List Value):Nat→Tr→Tr:=List.rec (motive:=fun _=>Nat→Tr→Tr) (fun _ t=>t) (fun v _ g k t=>g (Nat.add k 1) (t.putP v (path k))) l
def enter2 (P:Program) (G:Nat) (h:RecF) (args:List Value) (st:St) (fn:Func) (g:Code):Res:=
 br (Nat.ble (lenV args 0) fn.ntmps) (br (Nat.ble fn.ntmps 4000) (retF P G fn.results.toList st (h fn.ntmps g (ofArgsF args 0 .e) ⟨st.heap,st.next,st.next⟩)) none) none
def enter1 (P:Program) (G:Nat) (g:RecF) (args:List Value) (st:St) (fn:Func):Res:=Option.rec (motive:=fun _=>Res) none (enter2 P G g args st fn) fn.body
def enterF (P:Program) (G:Nat) (h:RecF) (g:FuncId) (args:List Value) (st:St):Res:=Option.rec (motive:=fun _=>Res) none (enter1 P G h args st) P.funcs[g]?
def callFF (P:Program) (G:Nat) (orc:Orc) (h:RecF):CallF:=fun g args st=>
 Option.rec (motive:=fun _=>Res) (enterF P G h g args st) (fun v=>some (v,st)) (orc g args st.heap)
def ofRT (r:RT):RC:=RT.rec (motive:=fun _=>RC) .no (fun ts st=> .nrm ts st) r
abbrev FC:=Program→Nat→Orc→RecF→Nat→Ts→St→RC
def seqF (g:RecF) (m:Nat) (b:Code) (r:RC):RC:=RC.rec (motive:=fun _=>RC) .no (fun ts st=>g m b ts st) (fun id ts st=> .ex id ts st) (fun ts st=> .rt ts st) r
def condF (g:RecF) (m:Nat) (a b:Code) (ts:Ts) (st:St) (v:VB):RC:=VB.rec (motive:=fun _=>RC) (g m a ts st) (g m b ts st) .no v
def blockF (id:Nat) (r:RC):RC:=RC.rec (motive:=fun _=>RC) .no (fun ts st=> .nrm ts st) (fun k ts st=>br (Nat.beq k id) (.nrm ts st) (.ex k ts st)) (fun ts st=> .rt ts st) r
def rgF (ops:Array Oper) (g:Bool):FC:=fun P G orc h m ts st=>
 br (constsB G ops) (br g (br (regionB ops) (ofRT (drawnF P G (callFF P G orc h) m ops ops.toList 0 [] ts st)) .no) (ofRT (opsF P G (callFF P G orc h) m ops ops.toList ts st))) .no
def noneF:FC:=fun _ _ _ _ _ _ _=> .no
def skipF:FC:=fun _ _ _ _ _ ts st=> .nrm ts st
def codeF:Code→FC:= @Code.rec (fun _=>FC) skipF (fun _ ops h=>rgF ops h) (fun a b _ _=>fun _ _ _ g m ts st=>seqF g m b (g m a ts st)) (fun x a b _ _=>fun _ _ _ g m ts st=>condF g m a b ts st (vB (ρF ts x)))
 (fun id b _=>fun _ _ _ g m ts st=>blockF id (g m b ts st)) (fun b _=>fun _ _ _ g m ts st=>seqF g m (.loop b) (g m b ts st)) (fun _ _ _ _ _ _=>noneF) (fun id=>fun _ _ _ _ _ ts st=> .ex id ts st)
 (fun b _=>fun _ _ _ g m ts st=>g m b ts st) (fun _=>skipF) (fun _=>noneF) (fun _ _ _ _ _ ts st=> .rt ts st) (fun _=>noneF)
def ecF (P:Program) (G:Nat) (orc:Orc) (n:Nat):RecF:=
 Nat.rec (motive:=fun _=>RecF) (fun _ _ _ _=> .no) (fun _ g m c ts st=>codeF c P G orc g m ts st) n
def fst? (r:Res):Option Value:=Option.rec (motive:=fun _=>Option Value) none (fun x=>some x.1) r
def runG (P:Program) (G:Nat) (orc:Orc) (n:Nat) (f:FuncId) (args:List Value):Option Value:=fst? (enterF P G (ecF P G orc n) f args ⟨[],G,G⟩)
def memN (l:List Nat) (g:Nat):Bool:=List.rec (motive:=fun _=>Bool) false (fun x _ h=>br (Nat.beq g x) true h) l
def orcIn (l:List Nat) (orc:Orc):Orc:=fun g args h=>br (memN l g) (orc g args h) none
end

noncomputable section
open Go Go.RowKit Go.Proofs
section
variable {P:Program} {G:Nat}
def RLe (r:R) (s:Res):Prop:= ∀v st,r= .yes v st→s=some (v,st)
def RTLe (r:RT) (s:ResT):Prop:= ∀ts st,r= .yes ts st→s=some (ts,st)
def ResLe (r s:Res):Prop:= ∀v st,r=some (v,st)→s=some (v,st)
def RCLe (r:RC) (s:ResC):Prop:=
 (∀ts st,r= .nrm ts st→s=some (.normal,ts,st))∧(∀i ts st,r= .ex i ts st→s=some (.exit i,ts,st))∧(∀ts st,r= .rt ts st→s=some (.ret,ts,st))
def CallLe (f g:CallF):Prop:= ∀a b c,ResLe (f a b c) (g a b c)
theorem ofRes_le {r s:Res} (h:ResLe r s):RLe (ofRes r) s:=by
 intro v st e
 cases r with
 |none=>cases e
 |some x=>exact h v st (by cases x;cases e;rfl)
theorem RLe.no {s:Res}:RLe .no s:=fun _ _ h=>by cases h
theorem RLe.yes {v:Value} {st:St} {s:Res} (h:s=some (v,st)):RLe (.yes v st) s:=fun _ _ e=>by cases e;exact h
theorem ResLe.rfl {r:Res}:ResLe r r:=fun _ _ h=>h
theorem ovR_le {o:Option Value} {st:St} {g:R} {s:Res} (h: ∀v,o=some v→s=some (v,st)) (y:RLe g s):RLe (ovR o st g) s:=by
 cases o with
 |none=>exact y
 |some v=>exact .yes (h v rfl)
theorem vI_i {v:Value} {k:IntKind} {n:Nat} (h:vI v= .i k n):v= .int k (.ofNat n):=by
 cases v with
 |int g m=>cases m with
  |ofNat m=>cases h;rfl
  |negSucc m=>cases h
 |_=>cases h
theorem vB_t {v:Value} (h:vB v= .t):v= .bool true:=by
 cases v with
 |bool b=>cases b;cases h;rfl
 |_=>cases h
theorem vB_f {v:Value} (h:vB v= .f):v= .bool false:=by
 cases v with
 |bool b=>cases b;rfl;cases h
 |_=>cases h
theorem vP_p {v:Value} {b o:Nat} (h:vP v= .p b o):v= .pointer (some ⟨b,o,none⟩):=by
 cases v with
 |pointer a=>
  cases a with
  |none=>cases h
  |some a=>
   obtain ⟨y,g,s⟩:=a
   cases s with
   |none=>cases h;rfl
   |some s=>cases h
 |_=>cases h
theorem vT_t {v:Value} {l:List Value} (h:vT v= .t l):v= .tuple ⟨l⟩:=by
 cases v with
 |tuple vs=>cases vs;cases h;rfl
 |_=>cases h
theorem vS_s {v:Value} {l:List UInt8} (h:vS v= .s l):v= .string ⟨⟨l⟩⟩:=by
 cases v with
 |string s=>obtain ⟨⟨m⟩⟩:=s;cases h;rfl
 |_=>cases h
theorem vOne_ok {v:Value} (h:vOne v=true):one v=true∧v.cells= #[v]:=by
 cases v<;>first|cases h;done|exact ⟨rfl,rfl⟩
theorem vFree_ok {v:Value} (d:Nat) (h:vFree v=true):pf G d v=true:=by
 cases v with
 |pointer a=>cases a with
  |none=>cases d<;>rfl
  |some a=>cases h
 |bool b=>cases d<;>rfl
 |int k n=>cases d<;>rfl
 |float k n=>cases d<;>rfl
 |complex k n m=>cases d<;>rfl
 |string s=>cases d<;>rfl
 |nilFunc=>cases d<;>rfl
 |nilIface=>cases d<;>rfl
 |_=>cases h
theorem path_succ (f k:Nat):pathB (f+1) k=if k=0 then [] else if k % 2=1 then true::pathB f (k/2) else false::pathB f (k/2 - 1):=by
 have e:pathB (f+1) k=Bool.rec (motive:=fun _=>List Bool) (Bool.rec (motive:=fun _=>List Bool) (false::pathB f (k/2 - 1)) (true::pathB f (k/2)) (Nat.beq (k % 2) 1)) [] (Nat.beq k 0):=rfl
 rw [e]
 by_cases h:k=0
 ·rw [beq_yes h,if_pos h]
 ·rw [beq_no h,if_neg h]
  by_cases g:k % 2=1
  ·rw [beq_yes g,if_pos g]
  ·rw [beq_no g,if_neg g]
theorem getP_ok: ∀(t:Tr) (f k:Nat),k+2≤2^f→t.getP (pathB f k)=t.get k
 | .e,f,k,h=>rfl
 | .n l v r,0,k,h=>by omega
 | .n l v r,f+1,k,h=>by
  rw [path_succ,Tr.get_n]
  by_cases g:k=0
  ·rw [if_pos g,if_pos g];rfl
  ·rw [if_neg g,if_neg g]
   by_cases y:k % 2=1
   ·rw [if_pos y,if_pos y]
    exact getP_ok l f (k/2) (by rw [Nat.pow_succ] at h;omega)
   ·rw [if_neg y,if_neg y]
    exact getP_ok r f (k/2 - 1) (by rw [Nat.pow_succ] at h;omega)
theorem two_pow_ge (k:Nat):k+2≤2^(k+2):=Nat.le_of_lt Nat.lt_two_pow_self
theorem get_path (t:Tr) (k:Nat):t.getP (path k)=t.get k:=getP_ok t (k+2) k (two_pow_ge k)
theorem ρF_eq (ts:Ts) (x:Operand):ρF ts x=ρ ts x:=by
 cases x with
 |tmp t=>exact get_path ts t
 |_=>rfl
theorem putP_ok: ∀(f g:Nat) (t:Tr) (k:Nat) (v:Value),k+2≤2^f→k+2≤2^g→t.putP v (pathB g k)=Tr.put f t k v
 |0,_,_,k,_,h,_=>by omega
 |_,0,_,k,_,_,h=>by omega
 |f+1,g+1,t,k,v,I,J=>by
  rw [path_succ,Tr.put_succ]
  rw [Nat.pow_succ] at I J
  have E:=fun (t:Tr) (h:k % 2=1)=>putP_ok f g t (k/2) v (by omega) (by omega)
  have D:=fun (t:Tr) (B: ¬k=0) (h: ¬k % 2=1)=>putP_ok f g t (k/2 - 1) v (by omega) (by omega)
  cases t with
  |e=>
   by_cases B:k=0
   ·rw [if_pos B,if_pos B];rfl
   ·rw [if_neg B,if_neg B]
    by_cases y:k % 2=1
    ·rw [if_pos y,if_pos y]
     show Tr.n (putE v (pathB g (k/2))) undef .e=_
     rw [←E Tr.e.left y];rfl
    ·rw [if_neg y,if_neg y]
     show Tr.n .e undef (putE v (pathB g (k/2 - 1)))=_
     rw [←D Tr.e.right B y];rfl
  |n l x r=>
   by_cases B:k=0
   ·rw [if_pos B,if_pos B];rfl
   ·rw [if_neg B,if_neg B]
    by_cases y:k % 2=1
    ·rw [if_pos y,if_pos y]
     show Tr.n (l.putP v (pathB g (k/2))) x r=_
     rw [E l y];rfl
    ·rw [if_neg y,if_neg y]
     show Tr.n l x (r.putP v (pathB g (k/2 - 1)))=_
     rw [D r B y];rfl
theorem put_path (t:Tr) (k:Nat) (v:Value) (h:k<4000):t.putP v (path k)=Tr.put 12 t k v:=putP_ok 12 (k+2) t k v (by omega) (two_pow_ge k)
theorem putF_eq {m:Nat} (B:m≤4000) (ts:Ts) (d:Option Tmp) (v:Value):putF m ts d v=putT m ts d v:=by
 cases d with
 |none=>rfl
 |some d=>
  have g:putF m ts (some d) v=Bool.rec (motive:=fun _=>Ts) ts (ts.putP v (path d)) (Nat.blt d m):=rfl
  have y:putT m ts (some d) v=br (Nat.blt d m) (ts.put 12 d v) ts:=rfl
  rw [g,y]
  cases h:Nat.blt d m with
  |false=>rfl
  |true=>exact put_path ts d v (by have:=blt_ok h;omega)
theorem argsF_eq (ts:Ts): ∀(l:List Operand),argsF ts l=l.map (ρ ts)
 |[]=>rfl
 |x::l=>by
  show ρF ts x::argsF ts l=_
  rw [ρF_eq,argsF_eq ts l,List.map_cons]
theorem ofArgsF_eq: ∀(l:List Value) (k:Nat) (t:Tr),k+l.length≤4000→
  ofArgsF l k t=List.rec (motive:=fun _=>Nat→Tr→Tr) (fun _ t=>t) (fun v _ g k t=>g (Nat.add k 1) (t.put 12 k v)) l k t
 |[],_,_,_=>rfl
 |v::l,k,t,h=>by
  show ofArgsF l (k+1) (t.putP v (path k))=_
  simp only [List.length_cons] at h
  rw [put_path t k v (by omega),ofArgsF_eq l (k+1) _ (by omega)]
theorem lenV_eq: ∀(l:List Value) (n:Nat),lenV l n=l.length+n
 |[],n=>by show n=0+n;omega
 |_::l,n=>by show lenV l (n+1)=_;rw [lenV_eq l];simp only [List.length_cons];omega
theorem lenL_eq: ∀(l:List UInt8) (n:Nat),lenL l n=l.length+n
 |[],n=>by show n=0+n;omega
 |_::l,n=>by show lenL l (n+1)=_;rw [lenL_eq l];simp only [List.length_cons];omega
theorem nthL_eq: ∀(l:List Value) (n:Nat),nthL l n=l[n]?
 |[],_=>rfl
 |_::_,0=>rfl
 |_::l,n+1=>nthL_eq l n
theorem nthB_eq: ∀(l:List UInt8) (n:Nat),nthB l n=l[n]?
 |[],_=>rfl
 |_::_,0=>rfl
 |_::l,n+1=>nthB_eq l n
theorem dropL_eq: ∀(l:List UInt8) (n:Nat),dropL l n=l.drop n
 |[],n=>by cases n<;>rfl
 |_::_,0=>rfl
 |_::l,n+1=>dropL_eq l n
theorem takeL_eq: ∀(l:List UInt8) (n:Nat),takeL l n=l.take n
 |[],n=>by cases n<;>rfl
 |_::_,0=>rfl
 |x::l,n+1=>by show x::takeL l n=_;rw [takeL_eq l n,List.take_succ_cons]
theorem setL_eq (x:Value): ∀{l:List Value} {n:Nat} {m:List Value},setL x l n=some m→n<l.length∧m=splice l n [x]
 |[],n,m,h=>by cases h
 |y::l,0,m,h=>by cases h;exact ⟨by simp,by cases l<;>rfl⟩
 |y::l,n+1,m,h=>by
  have h:consO y (setL x l n)=some m:=h
  cases e:setL x l n with
  |none=>rw [e] at h;cases h
  |some q=>
   rw [e] at h
   cases h
   obtain ⟨g,B⟩:=setL_eq x e
   exact ⟨by simpa using g,by rw [B];rfl⟩
end
end

noncomputable section
open Go Go.RowKit Go.Proofs
section
variable {P:Program} {G:Nat}
theorem wrap_ok {k:IntKind} {n:Nat} (h:n≤kMax k):k.wrap (n:Int)=n:=by
 cases k<;>simp only [kMax] at h<;>simp only [IntKind.wrap,IntKind.bits,IntKind.signed]<;>(try simp)<;>omega
theorem okN_ok {k:IntKind} {n:Nat} {v:Value} (h:okN k n=some v):n≤kMax k∧v= .int k (.ofNat n):=by
 unfold okN at h
 cases e:Nat.ble n (kMax k) with
 |false=>rw [e] at h;cases h
 |true=>rw [e] at h;cases h;exact ⟨Nat.le_of_ble_eq_true e,rfl⟩
theorem br_some {b:Bool} {o:Option Value} {v:Value} (h:br b o none=some v):b=true∧o=some v:=by
 cases b with
 |false=>cases h
 |true=>exact ⟨rfl,h⟩
theorem sameK_ok {k l:IntKind} (h:sameK k l=true):k=l:=by cases k<;>cases l<;>first|rfl|cases h
theorem kMax_lt (k:IntKind):kMax k<2^k.bits:=by cases k<;>decide
theorem kBits_eq (k:IntKind):kBits k=k.bits:=by cases k<;>rfl
theorem bv_of (k:IntKind) {m:Nat} (h:m≤kMax k):(BitVec.ofInt k.bits (m:Int)).toNat=m:=by
 have:=kMax_lt k
 rw [BitVec.ofInt_natCast,BitVec.toNat_ofNat]
 exact Nat.mod_eq_of_lt (by omega)
theorem ble_dec (m n:Nat):Nat.ble m n=decide (m≤n):=by
 by_cases h:m≤n
 ·rw [Nat.ble_eq_true_of_le h];simp [h]
 ·cases e:Nat.ble m n with
  |false=>simp [h]
  |true=>exact absurd (Nat.le_of_ble_eq_true e) h
theorem blt_dec (m n:Nat):Nat.blt m n=decide (m<n):=ble_dec (m+1) n
theorem bin_eq {op:BinOp} {k:IntKind} {a b:Int} {t:TypeId} {x y:Operand} {s:Sem Value} {v:Value} (e:binOp op t (.int k a) (.int k b)=s) (h:pureRun P s=some v):
  pureRun P (do eqGuard op t x y (.int k a) (.int k b);binOp op t (.int k a) (.int k b))=some v:=by
 rw [e]
 cases op<;>exact h
theorem natBin_ok {op:BinOp} {k l:IntKind} {m n:Nat} {t:TypeId} {x y:Operand} {v:Value} (h:natBin op (sameK k l) k m n=some v):
  pureRun P (do eqGuard op t x y (.int k (.ofNat m)) (.int l (.ofNat n));binOp op t (.int k (.ofNat m)) (.int l (.ofNat n)))=some v∧pf G 6 v=true:=by
 cases op with
 |shl=>
  obtain ⟨M,g⟩:=br_some h
  have K:=Nat.le_of_ble_eq_true M
  obtain ⟨D,rfl⟩:=okN_ok g
  rw [kBits_eq] at K
  refine ⟨?_,rfl⟩
  show pureRun P (Op.shift .shl k (.ofNat m) l (.ofNat n))=_
  unfold Op.shift
  rw [if_neg (by show ¬((n:Int)<0);omega)]
  have e:min (Int.toNat (.ofNat n)) k.bits=n:=Nat.min_eq_left K
  simp only [e]
  have L:(Int.ofNat m)*2^n=((m*2^n:Nat):Int):=by simp
  rw [L]
  exact congrArg (fun z=>some (Value.int k z)) (wrap_ok D)
 |shr=>
  obtain ⟨M,g⟩:=br_some h
  have K:=Nat.le_of_ble_eq_true M
  cases g
  rw [kBits_eq] at K
  refine ⟨?_,rfl⟩
  show pureRun P (Op.shift .shr k (.ofNat m) l (.ofNat n))=_
  unfold Op.shift
  rw [if_neg (by show ¬((n:Int)<0);omega)]
  have e:min (Int.toNat (.ofNat n)) k.bits=n:=Nat.min_eq_left K
  simp only [e]
  have L:(Int.ofNat m).fdiv (2^n)=((m/2^n:Nat):Int):=by
   rw [Int.fdiv_eq_ediv_of_nonneg _ (Int.le_of_lt (Int.pow_pos (by decide)))]
   show (m:Int)/2^n=_
   simp
  exact congrArg (fun z=>some (Value.int k z)) L
 |andNot=>cases h
 |add=>
  obtain ⟨B,g⟩:=br_some h
  cases sameK_ok B
  obtain ⟨D,rfl⟩:=okN_ok g
  exact ⟨bin_eq (s:=Op.intArith .add k (.ofNat m) (.ofNat n)) (by simp [binOp]) (congrArg (fun z=>some (Value.int k z)) (wrap_ok D)),rfl⟩
 |sub=>
  obtain ⟨B,g⟩:=br_some h
  cases sameK_ok B
  obtain ⟨N,g⟩:=br_some g
  obtain ⟨D,rfl⟩:=okN_ok g
  have N:=Nat.le_of_ble_eq_true N
  have e:(Int.ofNat m - Int.ofNat n)=((m - n:Nat):Int):=by show (m:Int) - (n:Int)=_;omega
  exact ⟨bin_eq (s:=Op.intArith .sub k (.ofNat m) (.ofNat n)) (by simp [binOp]) (congrArg (fun z=>some (Value.int k z)) ((congrArg k.wrap e).trans (wrap_ok D))),rfl⟩
 |mul=>
  obtain ⟨B,g⟩:=br_some h
  cases sameK_ok B
  obtain ⟨D,rfl⟩:=okN_ok g
  exact ⟨bin_eq (s:=Op.intArith .mul k (.ofNat m) (.ofNat n)) (by simp [binOp]) (congrArg (fun z=>some (Value.int k z)) (wrap_ok D)),rfl⟩
 |quo=>
  obtain ⟨B,g⟩:=br_some h
  cases sameK_ok B
  by_cases J:n=0
  ·rw [beq_yes J] at g;cases g
  ·rw [beq_no J] at g
   obtain ⟨D,rfl⟩:=okN_ok g
   refine ⟨bin_eq (s:=Op.intDiv .quo k (.ofNat m) (.ofNat n)) (by simp [binOp]) ?_,rfl⟩
   unfold Op.intDiv
   rw [if_neg (by show ¬((n:Int)=0);omega)]
   exact congrArg (fun z=>some (Value.int k z)) (wrap_ok D)
 |rem=>
  obtain ⟨B,g⟩:=br_some h
  cases sameK_ok B
  by_cases J:n=0
  ·rw [beq_yes J] at g;cases g
  ·rw [beq_no J] at g
   obtain ⟨D,rfl⟩:=okN_ok g
   refine ⟨bin_eq (s:=Op.intDiv .rem k (.ofNat m) (.ofNat n)) (by simp [binOp]) ?_,rfl⟩
   unfold Op.intDiv
   rw [if_neg (by show ¬((n:Int)=0);omega)]
   rfl
 |and=>
  obtain ⟨B,g⟩:=br_some h
  cases sameK_ok B
  obtain ⟨I,g⟩:=br_some g
  obtain ⟨E,g⟩:=br_some g
  obtain ⟨D,rfl⟩:=okN_ok g
  refine ⟨bin_eq (s:=Op.intBits .and k (.ofNat m) (.ofNat n)) (by simp [binOp]) ?_,rfl⟩
  refine congrArg (fun z=>some (Value.int k z)) (Eq.trans (congrArg (fun z:Nat=>k.wrap (z:Int)) ?_) (wrap_ok D))
  show (BitVec.ofInt k.bits (m:Int)&&&BitVec.ofInt k.bits (n:Int)).toNat=m&&&n
  rw [BitVec.toNat_and,bv_of k (Nat.le_of_ble_eq_true I),bv_of k (Nat.le_of_ble_eq_true E)]
 |or=>
  obtain ⟨B,g⟩:=br_some h
  cases sameK_ok B
  obtain ⟨I,g⟩:=br_some g
  obtain ⟨E,g⟩:=br_some g
  obtain ⟨D,rfl⟩:=okN_ok g
  refine ⟨bin_eq (s:=Op.intBits .or k (.ofNat m) (.ofNat n)) (by simp [binOp]) ?_,rfl⟩
  refine congrArg (fun z=>some (Value.int k z)) (Eq.trans (congrArg (fun z:Nat=>k.wrap (z:Int)) ?_) (wrap_ok D))
  show (BitVec.ofInt k.bits (m:Int)|||BitVec.ofInt k.bits (n:Int)).toNat=m|||n
  rw [BitVec.toNat_or,bv_of k (Nat.le_of_ble_eq_true I),bv_of k (Nat.le_of_ble_eq_true E)]
 |xor=>
  obtain ⟨B,g⟩:=br_some h
  cases sameK_ok B
  obtain ⟨I,g⟩:=br_some g
  obtain ⟨E,g⟩:=br_some g
  obtain ⟨D,rfl⟩:=okN_ok g
  refine ⟨bin_eq (s:=Op.intBits .xor k (.ofNat m) (.ofNat n)) (by simp [binOp]) ?_,rfl⟩
  refine congrArg (fun z=>some (Value.int k z)) (Eq.trans (congrArg (fun z:Nat=>k.wrap (z:Int)) ?_) (wrap_ok D))
  show (BitVec.ofInt k.bits (m:Int)^^^BitVec.ofInt k.bits (n:Int)).toNat=m^^^n
  rw [BitVec.toNat_xor,bv_of k (Nat.le_of_ble_eq_true I),bv_of k (Nat.le_of_ble_eq_true E)]
 |eql=>
  obtain ⟨B,g⟩:=br_some h
  cases sameK_ok B
  cases g
  refine ⟨bin_eq (s:=Op.intCmp .eql (.ofNat m) (.ofNat n)) (by simp [binOp]) (congrArg (fun z=>some (Value.bool z)) ?_),rfl⟩
  by_cases e:m=n
  ·subst e;rw [beq_yes rfl];simp
  ·rw [beq_no e];show ((m:Int)==(n:Int))=false;simp;omega
 |neq=>
  obtain ⟨B,g⟩:=br_some h
  cases sameK_ok B
  cases g
  refine ⟨bin_eq (s:=Op.intCmp .neq (.ofNat m) (.ofNat n)) (by simp [binOp]) (congrArg (fun z=>some (Value.bool z)) ?_),rfl⟩
  by_cases e:m=n
  ·subst e;rw [beq_yes rfl];simp
  ·rw [beq_no e];show ((m:Int) !=(n:Int))=true;simp;omega
 |lss=>
  obtain ⟨B,g⟩:=br_some h
  cases sameK_ok B
  cases g
  refine ⟨bin_eq (s:=Op.intCmp .lss (.ofNat m) (.ofNat n)) (by simp [binOp]) (congrArg (fun z=>some (Value.bool z)) ?_),rfl⟩
  rw [blt_dec];show decide ((m:Int)<(n:Int))=_;simp
 |leq=>
  obtain ⟨B,g⟩:=br_some h
  cases sameK_ok B
  cases g
  refine ⟨bin_eq (s:=Op.intCmp .leq (.ofNat m) (.ofNat n)) (by simp [binOp]) (congrArg (fun z=>some (Value.bool z)) ?_),rfl⟩
  rw [ble_dec];show decide ((m:Int)≤(n:Int))=_;simp
 |gtr=>
  obtain ⟨B,g⟩:=br_some h
  cases sameK_ok B
  cases g
  refine ⟨bin_eq (s:=Op.intCmp .gtr (.ofNat m) (.ofNat n)) (by simp [binOp]) (congrArg (fun z=>some (Value.bool z)) ?_),rfl⟩
  rw [blt_dec];show decide ((n:Int)<(m:Int))=_;simp
 |geq=>
  obtain ⟨B,g⟩:=br_some h
  cases sameK_ok B
  cases g
  refine ⟨bin_eq (s:=Op.intCmp .geq (.ofNat m) (.ofNat n)) (by simp [binOp]) (congrArg (fun z=>some (Value.bool z)) ?_),rfl⟩
  rw [ble_dec];show decide ((n:Int)≤(m:Int))=_;simp
end
end

noncomputable section
open Go Go.RowKit Go.Proofs
section
variable {P:Program} {G:Nat}
theorem pureRun_bind {g y:Type} (s:Sem g) (f:g→Sem y):pureRun P (s>>=f)=(pureRun P s).bind fun a=>pureRun P (f a):=by
 show pureRun P (s.bind f)=_
 induction s with
 |pure x=>rfl
 |program k h=>exact h P
 |_=>rfl
theorem pureRun_underlying {t:TypeId} {d:TypeDesc} (h:P.underlying t=some d):pureRun P (underlying t)=some d:=by
 unfold underlying
 rw [pureRun_bind]
 show pureRun P (match P.underlying t with|some d=>pure d|none=>stuck "no such type")=_
 rw [h];rfl
theorem evBin_int {op:BinOp} {k l:IntKind} {m n:Nat} {t:TypeId} {x y:Operand} {v:Value} {st:St} (h:natBin op (sameK k l) k m n=some v):evBin P G op t x y (.int k (.ofNat m)) (.int l (.ofNat n)) st=some (v,st):=by
 obtain ⟨g,B⟩:=natBin_ok (P:=P) (G:=G) (t:=t) (x:=x) (y:=y) h
 unfold evBin
 rw [show (pf G 6 (.int k (.ofNat m))&&pf G 6 (.int l (.ofNat n)))=true from rfl]
 simp only [g,B]
theorem binR_le {op:BinOp} {t:TypeId} {x y:Operand} {a b:Value} {st:St} {h:R} (g:RLe h (evBin P G op t x y a b st)):RLe (binR op a b st h) (evBin P G op t x y a b st):=by
 unfold binR
 cases E:vI a with
 |o=>exact g
 |i k m=>
  show RLe (binR1 op k m (vI b) st h) _
  unfold binR1
  cases B:vI b with
  |o=>exact g
  |i l n=>
   refine ovR_le (fun v D=> ?_) g
   rw [vI_i E,vI_i B]
   exact evBin_int D
theorem conv_int {g dst:TypeId} {d:TypeDesc} {k l:IntKind} {n:Nat} {v:Value} {st:St} (D:P.underlying g=some d) (B:P.underlying dst=some (.int k)) (h:okN k n=some v):
  evConvert P G g dst (.int l (.ofNat n)) st=some (v,st):=by
 obtain ⟨y,rfl⟩:=okN_ok h
 have e:evConvert P G g dst (.int l (.ofNat n)) st=evPure P G [.int l (.ofNat n)] (convert g dst (.int l (.ofNat n))) st:=by
  unfold evConvert
  rw [B]
  split<;>first|rfl|(rename_i h _;cases h)|(rename_i h;cases h)|skip
  all_goals rename_i y I J;first|cases J|cases I
 rw [e]
 unfold evPure
 rw [show ([Value.int l (.ofNat n)].all (pf G 6))=true from rfl]
 have E:pureRun P (convert g dst (.int l (.ofNat n)))=some (.int k (.ofNat n)):=by
  unfold convert
  rw [pureRun_bind,pureRun_underlying D]
  show pureRun P (underlying dst>>=_)=_
  rw [pureRun_bind,pureRun_underlying B]
  show some (Value.int k (k.wrap (n:Int)))=_
  rw [wrap_ok y];rfl
 simp only [E]
 rfl
theorem vK_ok {o:Option TypeDesc} {k:IntKind} (h:vK o=some k):o=some (.int k):=by
 unfold vK at h
 split at h
 ·cases h;rfl
 ·cases h
theorem someB_ok {o:Option TypeDesc} (h:someB o=true): ∃d,o=some d:=by
 cases o with
 |none=>cases h
 |some d=>exact ⟨d,rfl⟩
theorem convR_le {g dst:TypeId} {a:Value} {st:St} {y:R} (B:someB (P.underlying g)=true) (h:RLe y (evConvert P G g dst a st)):RLe (convR (vK (P.underlying dst)) (vI a) st y) (evConvert P G g dst a st):=by
 obtain ⟨d,J⟩:=someB_ok B
 unfold convR
 cases E:vI a with
 |o=>exact h
 |i l n=>
  show RLe (convR1 _ n st y) _
  unfold convR1
  cases I:vK (P.underlying dst) with
  |none=>exact h
  |some k=>
   refine ovR_le (fun v D=> ?_) h
   rw [vI_i E]
   exact conv_int J (vK_ok I) D
theorem br_le {b:Bool} {x y:R} {s:Res} (g:b=true→RLe x s) (h:RLe y s):RLe (br b x y) s:=by
 cases b with
 |true=>exact g rfl
 |false=>exact h
theorem notAgg_ok {t:TypeId} (h:notAgg P t=true):isAggB P t=some false:=by
 unfold notAgg at h
 split at h
 ·assumption
 ·cases h
theorem slc_one {cs:List Value} {o:Nat} {v:Value} (h:cs[o]? =some v):slc cs o 1=some [v]:=by
 obtain ⟨g,rfl⟩:=List.getElem?_eq_some_iff.1 h
 unfold slc
 rw [Nat.ble_eq_true_of_le (by omega),List.drop_eq_getElem_cons g]
 rfl
theorem loadR_le {t:TypeId} {a:Value} {st:St} {h:R} (I:notAgg P t=true) (g:RLe h (evLoad P t a st)):RLe (loadR (vP a) st h) (evLoad P t a st):=by
 unfold loadR
 cases D:vP a with
 |o=>exact g
 |p b o=>
  show RLe (loadR1 b o st h) _
  unfold loadR1
  cases E:look st.heap b with
  |none=>exact g
  |some B=>
   show RLe (loadO B o st h) _
   cases B with
   |iter s pos=>exact g
   |map ks vs=>exact g
   |row cs e ext fz=>
    refine ovR_le (fun v y=> ?_) g
    rw [nthL_eq] at y
    rw [vP_p D]
    unfold evLoad loadB
    rw [notAgg_ok I]
    have e:cellsAt st.heap ⟨b,o,none⟩ 1=some [v]:=by
     unfold cellsAt
     show (match look st.heap b with|some (.row cs _ _ _)=>slc cs o 1|_=>none)=_
     rw [E]
     exact slc_one y
    simp only [e]
theorem size1_ok {t:TypeId} (h:size1 P t=true):sizeB P t=some 1:=by
 unfold size1 at h
 split at h
 ·assumption
 ·cases h
theorem storeR_le {t:TypeId} {a x:Value} {st:St} {h:R} (I:size1 P t=true) (g:RLe h (evStore P t a x st)):RLe (storeR (vP a) x st h) (evStore P t a x st):=by
 unfold storeR
 cases J:vP a with
 |o=>exact g
 |p b o=>
  refine br_le (fun M=> ?_) g
  obtain ⟨y,B⟩:=vOne_ok M
  unfold storeR1
  cases N:look st.heap b with
  |none=>exact g
  |some D=>
   show RLe (storeO D b o x st h) _
   cases D with
   |iter s pos=>exact g
   |map ks vs=>exact g
   |row cs e ext fz=>
    cases fz with
    |true=>exact g
    |false=>
     show RLe (storeS (setL x cs o) b e ext st h) _
     unfold storeS
     cases L:setL x cs o with
     |none=>exact g
     |some m=>
      obtain ⟨O,rfl⟩:=setL_eq x L
      refine .yes ?_
      rw [vP_p J]
      unfold evStore
      rw [size1_ok I,B]
      have E:writeB st ⟨b,o,none⟩ [x]=some (st.set b (.row (splice cs o [x]) e ext false)):=by
       have K:(Nat.ble (o+[x].length) cs.length&&[x].all one)=true:=by
        rw [show o+[x].length=o+1 from rfl,Nat.ble_eq_true_of_le (by omega)]
        simp [y]
       unfold writeB
       simp only [N,K]
      show (match Nat.beq 1 1 with|true=>(match writeB st ⟨b,o,none⟩ [x] with|some st=>some (undef,st)|none=>none)|false=>none)=_
      rw [E]
end
end

noncomputable section
open Go Go.RowKit Go.Proofs
section
variable {P:Program} {G:Nat}
theorem offB_ok {s:TypeId} {f d:Nat} (h:offB P s f=some d): ∃y g n,P.underlying s=some (.struct y)∧y[f]? =some g∧sizeB P g.type=some (n+1)∧d=g.offset:=by
 unfold offB at h
 split at h
 ·rename_i y D
  split at h
  ·rename_i g E
   split at h
   ·rename_i n B
    cases h
    exact ⟨y,g,n,D,E,B,rfl⟩
   ·cases h
  ·cases h
 ·cases h
theorem faR_le {s:TypeId} {a:Value} {f:Nat} {st:St}:RLe (faR (vP a) (offB P s f) st) (evFieldAddr P s a f st):=by
 unfold faR
 cases y:vP a with
 |o=>exact .no
 |p b o=>
  show RLe (faR1 b o _ st) _
  unfold faR1
  cases D:offB P s f with
  |none=>exact .no
  |some d=>
   obtain ⟨E,I,n,g,h,B,rfl⟩:=offB_ok D
   refine .yes ?_
   rw [vP_p y]
   unfold evFieldAddr
   simp only [g,h,B]
   rfl
theorem extR_le {a:Value} {i:Nat} {st:St}:RLe (extR (vT a) i st) (evExtract a i st):=by
 unfold extR
 cases h:vT a with
 |o=>exact .no
 |t l=>
  refine ovR_le (fun v g=> ?_) .no
  rw [nthL_eq] at g
  rw [vT_t h]
  unfold evExtract
  simp only [g]
theorem pickR_le {c a b:Value} {st:St}:RLe (pickR (vB c) a b st) (evPick c a b st):=by
 unfold pickR
 cases g:vB c with
 |o=>exact .no
 |t=>exact .yes (by rw [vB_t g];rfl)
 |f=>exact .yes (by rw [vB_f g];rfl)
theorem isStrT_ok {t:TypeId} (h:isStrT P t=true):P.underlying t=some .string:=by
 unfold isStrT at h
 split at h
 ·assumption
 ·cases h
theorem extract_list (l:List UInt8) (a h:Nat):(⟨⟨l⟩⟩:ByteArray).extract a h=⟨⟨(l.drop a).take (h - a)⟩⟩:=by
 apply ByteArray.ext
 apply Array.ext'
 simp
theorem sliS_le {t:TypeId} {a:Value} {g y:Option Value} {st:St} (D:isStrT P t=true):RLe (sliS g y st .no (vS a)) (evSlice P G t a g y none st):=by
 unfold sliS
 cases B:vS a with
 |o=>exact .no
 |s l=>
  show RLe (sliS1 l g st (boundB y (lenL l 0) (lenL l 0))) _
  unfold sliS1
  rw [lenL_eq,Nat.add_zero]
  cases I:boundB y l.length l.length with
  |none=>exact .no
  |some h=>
   show RLe (sliS2 l h st (boundB g 0 h)) _
   unfold sliS2
   cases E:boundB g 0 h with
   |none=>exact .no
   |some k=>
    refine .yes ?_
    rw [vS_s B]
    unfold evSlice
    simp only [isStrT_ok D]
    unfold evSliceStr
    have e:(⟨⟨l⟩⟩:ByteArray).size=l.length:=rfl
    rw [e]
    simp only [I,E]
    rw [extract_list,takeL_eq,dropL_eq]
    rfl
theorem idxS0_le {t:TypeId} {a i:Value} {st:St} {g:R} (D:isStrT P t=true) (h:RLe g (evIndex P t a i st)):RLe (idxS0 (vS a) (vI i) st g) (evIndex P t a i st):=by
 unfold idxS0
 cases E:vI i with
 |o=>exact h
 |i k n=>
  show RLe (idxS1 (vS a) n st g) _
  unfold idxS1
  cases B:vS a with
  |o=>exact h
  |s l=>
   show RLe (idxS2 (nthB l n) st) _
   unfold idxS2
   cases y:nthB l n with
   |none=>exact .no
   |some b=>
    refine .yes ?_
    rw [nthB_eq] at y
    rw [vS_s B,vI_i E]
    unfold evIndex
    simp only [isStrT_ok D,natOf,y]
    rfl
theorem nxt0_le {a:Value} {st:St} {y:R} (g:RLe y (evNext a st)):RLe (nxt0 (vP a) st y) (evNext a st):=by
 unfold nxt0
 cases N:vP a with
 |o=>exact g
 |p k o=>
  show RLe (nxt1 k o st y) _
  unfold nxt1
  refine br_le (fun E=> ?_) g
  have E:=Nat.eq_of_beq_eq_true E
  subst E
  cases Q:look st.heap k with
  |none=>exact g
  |some I=>
   show RLe (nxtO I k st y) _
   cases I with
   |row _ _ _ _=>exact g
   |map _ _=>exact g
   |iter s pos=>
    show RLe (nxtB (nthB s.data.toList pos) s pos k st y) _
    unfold nxtB
    cases L:nthB s.data.toList pos with
    |none=>exact g
    |some b=>
     refine br_le (fun h=> ?_) g
     have h:=blt_ok h
     rw [nthB_eq] at L
     obtain ⟨O,K⟩:=List.getElem?_eq_some_iff.1 L
     have D:pos<s.size:=O
     refine .yes ?_
     rw [vP_p N]
     have J:=decode_ascii s pos D (by show (s.data.toList[pos]).toNat<128;rw [K];exact h)
     have M:(s[pos]'D).toNat=b.toNat:=by show (s.data.toList[pos]).toNat=_;rw [K]
     rw [M] at J
     have B:Nat.blt pos s.size=true:=Nat.ble_eq_true_of_le D
     unfold evNext
     simp only [Q,B,J]
     rfl
theorem evCall_le {f g:CallF} (h:CallLe f g) (ts:Ts) (c:Call) (ty:TypeId) (st:St):ResLe (evCall P G f ts c ty st) (evCall P G g ts c ty st):=by
 unfold evCall
 split
 ·split
  ·exact h _ _ _
  ·exact ResLe.rfl
 ·split
  ·split
   ·exact h _ _ _
   ·exact ResLe.rfl
  ·exact ResLe.rfl
 ·exact ResLe.rfl
theorem calleeF_ok {c:Callee} {g:FuncId} (h:calleeF c=some g):c= .value (.func g):=by
 unfold calleeF at h
 split at h
 ·cases h;rfl
 ·cases h
theorem fCall_le {f g:CallF} (h:CallLe f g) (ts:Ts) (c:Call) (ty:TypeId) (st:St):RLe (fCall c P G f ts ty st) (hCall c P G g ts ty st):=by
 unfold fCall hCall
 cases y:calleeF c.callee with
 |none=>exact ofRes_le (evCall_le h ts c ty st)
 |some k=>
  have e:evCall P G g ts c ty st=g k (argsF ts c.args.toList) st:=by
   unfold evCall
   rw [calleeF_ok y]
   show g k ((#[]:Array Value).toList++c.args.toList.map (ρ ts)++(#[]:Array Value).toList) st=_
   rw [argsF_eq]
   simp
  rw [e]
  exact ofRes_le (h _ _ _)
theorem opF_le {f g:CallF} (I:CallLe f g) (op:Op) (ts:Ts) (ty:TypeId) (st:St):RLe (opF op P G f ts ty st) (opD op P G g ts ty st):=by
 cases op with
 |move x=>exact .yes (by show some (ρ ts x,st)=_;rw [ρF_eq])
 |assign x=>exact .yes (by show some (ρ ts x,st)=_;rw [ρF_eq])
 |pick c a b=>
  show RLe (pickR (vB (ρF ts c)) (ρF ts a) (ρF ts b) st) (evPick (ρ ts c) (ρ ts a) (ρ ts b) st)
  rw [ρF_eq,ρF_eq,ρF_eq];exact pickR_le
 |binOp op t x y J=>
  show RLe (binR op (ρF ts x) (ρF ts y) st (ofRes (hBin op t x y P G f ts ty st))) (evBin P G op t x y (ρ ts x) (ρ ts y) st)
  rw [ρF_eq,ρF_eq];exact binR_le (ofRes_le ResLe.rfl)
 |convert s d x=>
  show RLe (br _ (convR (vK (P.underlying d)) (vI (ρF ts x)) st (ofRes (hConvert s d x P G f ts ty st))) (ofRes (hConvert s d x P G f ts ty st))) (evConvert P G s d (ρ ts x) st)
  rw [ρF_eq];exact br_le (fun h=>convR_le h (ofRes_le ResLe.rfl)) (ofRes_le ResLe.rfl)
 |load t a=>
  show RLe (br _ (loadR (vP (ρF ts a)) st (ofRes (hLoad t a P G f ts ty st))) (ofRes (hLoad t a P G f ts ty st))) (evLoad P t (ρ ts a) st)
  rw [ρF_eq];exact br_le (fun h=>loadR_le h (ofRes_le ResLe.rfl)) (ofRes_le ResLe.rfl)
 |store t a x=>
  show RLe (br _ (storeR (vP (ρF ts a)) (ρF ts x) st (ofRes (hStore t a x P G f ts ty st))) (ofRes (hStore t a x P G f ts ty st))) (evStore P t (ρ ts a) (ρ ts x) st)
  rw [ρF_eq,ρF_eq];exact br_le (fun h=>storeR_le h (ofRes_le ResLe.rfl)) (ofRes_le ResLe.rfl)
 |fieldAddr s x i=>
  show RLe (faR (vP (ρF ts x)) (offB P s i) st) (evFieldAddr P s (ρ ts x) i st)
  rw [ρF_eq];exact faR_le
 |extract t i=>
  show RLe (extR (vT (ρF ts t)) i st) (evExtract (ρ ts t) i st)
  rw [ρF_eq];exact extR_le
 |slice t x E D B=>
  show RLe (br _ (Option.rec (motive:=fun _=>R) (sliS (E.map (ρF ts)) (D.map (ρF ts)) st .no (vS (ρF ts x))) (fun _=> .no) B) (ofRes (hSlice t x E D B P G f ts ty st))) (evSlice P G t (ρ ts x) (E.map (ρ ts)) (D.map (ρ ts)) (B.map (ρ ts)) st)
  rw [ρF_eq,show ρF ts=ρ ts from funext (ρF_eq ts)]
  refine br_le (fun h=> ?_) (ofRes_le ResLe.rfl)
  cases B with
  |none=>exact sliS_le h
  |some m=>exact .no
 |index t x i=>
  show RLe (br _ (idxS0 (vS (ρF ts x)) (vI (ρF ts i)) st (ofRes (hIndex t x i P G f ts ty st))) (ofRes (hIndex t x i P G f ts ty st))) (evIndex P t (ρ ts x) (ρ ts i) st)
  rw [ρF_eq,ρF_eq];exact br_le (fun h=>idxS0_le h (ofRes_le ResLe.rfl)) (ofRes_le ResLe.rfl)
 |next it s=>
  show RLe (br s (nxt0 (vP (ρF ts it)) st (ofRes (hNext it s P G f ts ty st))) .no) (hNext it s P G g ts ty st)
  rw [ρF_eq]
  refine br_le (fun h=> ?_) .no
  subst h
  exact nxt0_le (ofRes_le ResLe.rfl)
 |call c=>exact fCall_le I ts c ty st
 |box e x=>exact ofRes_le (r:=evBox e (ρ ts x) st) ResLe.rfl
 |makeFunc a b c=>exact ofRes_le (r:=hFunc a b c P G f ts ty st) ResLe.rfl
 |_=>first|exact ofRes_le (r:=none) (s:=none) ResLe.rfl|exact ofRes_le ResLe.rfl
end
end

noncomputable section
open Go Go.RowKit Go.Proofs
section
variable {P:Program} {G:Nat}
theorem wantB_some (ops:Array Oper) (ts:Ts) (o:Oper) (g:Nat×Bool) (h:o.guard=some g):wantB ops ts o=wantP ops ts g:=by
 unfold wantB wantP
 rw [h]
 cases g;rfl
theorem guardK_le {ops:Array Oper} {ts:Ts} {o:Oper} {a b:RT} {s:ResT} (B:wantB ops ts o=true→RTLe a s) (D:wantB ops ts o=false→RTLe b s):RTLe (guardK ops ts o.guard a b) s:=by
 unfold guardK
 cases h:o.guard with
 |none=>exact B (by unfold wantB;rw [h])
 |some g=>
  show RTLe (br (wantP ops ts g) a b) s
  cases y:wantP ops ts g with
  |true=>exact B ((wantB_some ops ts o g h).trans y)
  |false=>exact D ((wantB_some ops ts o g h).trans y)
theorem opsF_le {f g:CallF} (D:CallLe f g) {m:Nat} (y:m≤4000) (ops:Array Oper): ∀(l:List Oper) (ts:Ts) (st:St),RTLe (opsF P G f m ops l ts st) (evOps P G g m ops l ts st)
 |[],ts,st=>fun _ _ h=>by cases h;rfl
 |o::l,ts,st=>by
  rw [evOps_cons]
  show RTLe (guardK ops ts o.guard (runK P G f m o (opsF P G f m ops l) ts st) (opsF P G f m ops l (putF m ts o.dst undef) st)) _
  refine guardK_le (fun B=> ?_) (fun B=> ?_)
  ·rw [if_pos B]
   unfold runK
   have h:=opF_le (P:=P) (G:=G) D o.op ts o.type st
   cases I:opF o.op P G f ts o.type st with
   |no=>exact fun _ _ h=>by cases h
   |yes v st'=>
    have e:=h v st' I
    have E:evOp P G g ts o st=some (v,st'):=e
    rw [E]
    show RTLe (opsF P G f m ops l (putF m ts o.dst v) st') _
    rw [putF_eq y]
    exact opsF_le D y ops l _ _
  ·rw [if_neg (by rw [B];exact Bool.false_ne_true)]
   rw [putF_eq y]
   exact opsF_le D y ops l _ _
theorem calmT_of {ts:Ts} {o:Op} (h:calmB o=true):calmT ts o=true:=by
 cases o<;>first|exact h|cases h
theorem drawnF_le {f g:CallF} (B:CallLe f g) {m:Nat} (y:m≤4000) (ops:Array Oper): ∀(l:List Oper) (i:Nat) (ks:List (Nat×Kind)) (ts:Ts) (st:St),
  RTLe (drawnF P G f m ops l i ks ts st) (evDrawn P G g m ops l i ks ts st)
 |[],i,ks,ts,st=>fun _ _ h=>by cases h;rfl
 |o::l,i,ks,ts,st=>by
  show RTLe (guardK ops ts o.guard (drawK P G f m ops o (drawnF P G f m ops l) i ks ts st) (drawnF P G f m ops l (i+1) ks (putF m ts o.dst undef) st)) _
  simp only [evDrawn]
  refine guardK_le (fun J=> ?_) (fun J=> ?_)
  ·rw [J]
   have calm:calmT ts o.op=true→RTLe (calmK P G f m o (drawnF P G f m ops l) i ks ts st) (match calmT ts o.op with
     |true=>(match evOp P G g ts o st with|some (v,_)=>evDrawn P G g m ops l (i+1) ks (putT m ts o.dst v) st|none=>none)
     |false=>(match evOp P G g ts o ⟨st.heap,st.next,st.next⟩ with
      |some (v,st')=>(match freeB ops i (kindOf ts o.op (!Nat.ble st.next st'.low)) ks&&Nat.ble st.next st'.next with
       |true=>evDrawn P G g m ops l (i+1) ((i,kindOf ts o.op (!Nat.ble st.next st'.low))::ks) (putT m ts o.dst v) ⟨st'.heap,st'.next,Nat.min st.low st'.low⟩
       |false=>none)
      |none=>none)):=by
    intro D
    rw [D]
    unfold calmK
    have h:=opF_le (P:=P) (G:=G) B o.op ts o.type st
    cases E:opF o.op P G f ts o.type st with
    |no=>exact fun _ _ h=>by cases h
    |yes v st'=>
     have I:evOp P G g ts o st=some (v,st'):=h v st' E
     simp only [I]
     show RTLe (drawnF P G f m ops l (i+1) ks (putF m ts o.dst v) st) _
     rw [putF_eq y]
     exact drawnF_le B y ops l _ _ _ _
   unfold drawK
   cases K:calmB o.op with
   |true=>exact calm (calmT_of K)
   |false=>
    show RTLe (br (calmT ts o.op) _ _) _
    cases D:calmT ts o.op with
    |true=>have:=calm D;rw [D] at this;exact this
    |false=>
     show RTLe (firmK ops m o (drawnF P G f m ops l) i ks ts st (opF o.op P G f ts o.type ⟨st.heap,st.next,st.next⟩)) _
     have h:=opF_le (P:=P) (G:=G) B o.op ts o.type ⟨st.heap,st.next,st.next⟩
     cases E:opF o.op P G f ts o.type ⟨st.heap,st.next,st.next⟩ with
     |no=>exact fun _ _ h=>by cases h
     |yes v st'=>
      have I:evOp P G g ts o ⟨st.heap,st.next,st.next⟩=some (v,st'):=h v st' E
      simp only [I]
      show RTLe (br (freeB ops i (kindOf ts o.op (!Nat.ble st.next st'.low)) ks&&Nat.ble st.next st'.next) (drawnF P G f m ops l (i+1) ((i,kindOf ts o.op (!Nat.ble st.next st'.low))::ks) (putF m ts o.dst v) ⟨st'.heap,st'.next,Nat.min st.low st'.low⟩) .no) _
      cases L:freeB ops i (kindOf ts o.op (!Nat.ble st.next st'.low)) ks&&Nat.ble st.next st'.next with
      |false=>exact fun _ _ h=>by cases h
      |true=>
       rw [putF_eq y]
       exact drawnF_le B y ops l _ _ _ _
  ·rw [J,putF_eq y]
   exact drawnF_le B y ops l _ _ _ _
theorem consO_some {v:Value} {o:Option (List Value)} {l:List Value} (h:consO v o=some l): ∃r,o=some r∧l=v::r:=by
 cases o with
 |none=>cases h
 |some r=>cases h;exact ⟨r,rfl,rfl⟩
theorem resF_ok {h:Hp} {ts:Ts}: ∀{rs:List ResultVar} {l:List Value},resF' P h ts rs=some l→resB P h ts rs=some l
 |[],l,e=>e
 | .tmp t::rs,l,e=>by
  have e:consO (ts.getP (path t)) (resF' P h ts rs)=some l:=e
  obtain ⟨r,g,rfl⟩:=consO_some e
  unfold resB
  rw [resF_ok g,get_path]
 | .cell a t::rs,l,e=>by
  have e:Option.rec (motive:=fun _=>Option (List Value)) none (fun v=>consO v (resF' P h ts rs)) (loadB P h t (ts.get a))=some l:=e
  unfold resB
  cases y:loadB P h t (ts.get a) with
  |none=>rw [y] at e;cases e
  |some v=>
   rw [y] at e
   obtain ⟨r,g,rfl⟩:=consO_some e
   rw [resF_ok g]
theorem freeV_ok {d:Nat} {v:Value}:freeV G d v=pf G d v:=by
 unfold freeV
 cases h:vFree v with
 |true=>exact (vFree_ok d h).symm
 |false=>rfl
theorem all_free (l:List Value):List.rec (motive:=fun _=>Bool) true (fun x _ g=>br (freeV G 5 x) g false) l=l.all (pf G 5):=by
 induction l with
 |nil=>rfl
 |cons x l g=>
  show br (freeV G 5 x) _ false=_
  rw [freeV_ok,List.all_cons,g]
  cases pf G 5 x<;>rfl
theorem cutR_eq {v:Value} {st st':St} {b c:Bool} (h:b=(c&&Nat.ble st.next st'.low)):cutR v st st' b=
  (match c&&Nat.ble st.next st'.low with|true=>some (v,(⟨cutB st'.heap st.next,st'.next,Nat.min st.low st'.low⟩:St))|false=>some (v,⟨st'.heap,st'.next,Nat.min st.low st'.low⟩)):=by
 rw [←h]
 cases b<;>rfl
theorem br_and (a b:Bool):br a b false=(b&&a):=by cases a<;>cases b<;>rfl
theorem retL_eq (st st':St) (l:List Value):retL G st st' l=(match pf G 6 (retB l)&&Nat.ble st.next st'.low with
  |true=>some (retB l,(⟨cutB st'.heap st.next,st'.next,Nat.min st.low st'.low⟩:St))|false=>some (retB l,⟨st'.heap,st'.next,Nat.min st.low st'.low⟩)):=by
 match l with
 |[]=>exact cutR_eq (c:=pf G 6 (.tuple #[])) (by rw [show pf G 6 (.tuple #[])=true from rfl,Bool.true_and])
 |[v]=>exact cutR_eq (c:=pf G 6 v) (by rw [br_and,freeV_ok])
 |v::w::r=>
  refine cutR_eq (c:=pf G 6 (.tuple ⟨v::w::r⟩)) ?_
  rw [br_and]
  exact congrArg (· &&Nat.ble st.next st'.low) (all_free (G:=G) (v::w::r))
theorem retS_le {rs:List ResultVar} {st st':St} {ts':Ts}:ResLe (retS P G rs st ts' st') (match resB P st'.heap ts' rs with
  |some l=>(match pf G 6 (retB l)&&Nat.ble st.next st'.low with
   |true=>some (retB l,(⟨cutB st'.heap st.next,st'.next,Nat.min st.low st'.low⟩:St))|false=>some (retB l,⟨st'.heap,st'.next,Nat.min st.low st'.low⟩))
  |none=>none):=by
 unfold retS
 cases h:resF' P st'.heap ts' rs with
 |none=>exact fun _ _ h=>by cases h
 |some l=>
  rw [resF_ok h]
  show ResLe (retL G st st' l) _
  rw [retL_eq]
  exact ResLe.rfl
theorem retF_le {rs:List ResultVar} {st:St} {r:RC} {s:ResC} (h:RCLe r s):ResLe (retF P G rs st r) (evRet P G rs st s):=by
 unfold retF evRet
 cases r with
 |no=>exact fun _ _ h=>by cases h
 |nrm ts' st'=>rw [h.1 ts' st' rfl];exact retS_le
 |ex i ts' st'=>exact fun _ _ h=>by cases h
 |rt ts' st'=>rw [h.2.2 ts' st' rfl];exact retS_le
def RecLe (f:RecF) (g:Rec):Prop:= ∀m c ts st,m≤4000→RCLe (f m c ts st) (g m c ts st)
theorem enterF_le {f:RecF} {g:Rec} (h:RecLe f g) (k:FuncId) (args:List Value) (st:St):ResLe (enterF P G f k args st) (evEnter P G g k args st):=by
 unfold enterF evEnter
 cases J:P.funcs[k]? with
 |none=>exact fun _ _ h=>by cases h
 |some fn=>
  show ResLe (enter1 P G f args st fn) _
  unfold enter1
  cases I:fn.body with
  |none=>exact fun _ _ h=>by cases h
  |some y=>
   show ResLe (enter2 P G f args st fn y) _
   unfold enter2
   rw [lenV_eq,Nat.add_zero]
   cases B:Nat.ble args.length fn.ntmps with
   |false=>exact fun _ _ h=>by cases h
   |true=>
    cases D:Nat.ble fn.ntmps 4000 with
    |false=>exact fun _ _ h=>by cases h
    |true=>
     have K:=Nat.le_of_ble_eq_true B
     have E:=Nat.le_of_ble_eq_true D
     show ResLe (retF P G fn.results.toList st (f fn.ntmps y (ofArgsF args 0 .e) ⟨st.heap,st.next,st.next⟩)) _
     rw [ofArgsF_eq args 0 .e (by omega)]
     have e:=retF_le (P:=P) (G:=G) (rs:=fn.results.toList) (st:=st) (h fn.ntmps y (ofArgs args) ⟨st.heap,st.next,st.next⟩ E)
     simp only [I,B,D,Bool.and_self]
     exact e
theorem callFF_le {orc:Orc} {f:RecF} {g:Rec} (h:RecLe f g):CallLe (callFF P G orc f) (evCallF P G orc g):=by
 intro k args st
 unfold callFF evCallF
 cases orc k args st.heap with
 |none=>exact enterF_le h k args st
 |some v=>exact ResLe.rfl
theorem RCLe.no {s:ResC}:RCLe .no s:=⟨fun _ _ h=>(by cases h),fun _ _ _ h=>(by cases h),fun _ _ h=>(by cases h)⟩
theorem ofRT_le {r:RT} {s:ResT} {x:ResC} (h:RTLe r s) (g: ∀ts st,s=some (ts,st)→x=some (.normal,ts,st)):RCLe (ofRT r) x:=by
 cases r with
 |no=>exact .no
 |yes ts st=>
  rw [g ts st (h ts st rfl)]
  exact ⟨fun _ _ h=>(by cases h;rfl),fun _ _ _ h=>(by cases h),fun _ _ h=>(by cases h)⟩
theorem seqF_le {f:RecF} {g:Rec} (h:RecLe f g) {m:Nat} (B:m≤4000) {b:Code} {r:RC} {s:ResC} (y:RCLe r s):RCLe (seqF f m b r) (evSeq g m b s):=by
 cases r with
 |no=>exact .no
 |nrm ts st=>rw [y.1 ts st rfl];exact h _ _ _ _ B
 |ex i ts st=>rw [y.2.1 i ts st rfl];exact ⟨fun _ _ h=>(by cases h),fun _ _ _ h=>(by cases h;rfl),fun _ _ h=>(by cases h)⟩
 |rt ts st=>rw [y.2.2 ts st rfl];exact ⟨fun _ _ h=>(by cases h),fun _ _ _ h=>(by cases h),fun _ _ h=>(by cases h;rfl)⟩
theorem blockF_le {id:Nat} {r:RC} {s:ResC} (g:RCLe r s):RCLe (blockF id r) (evBlock id s):=by
 cases r with
 |no=>exact .no
 |nrm ts st=>rw [g.1 ts st rfl];exact ⟨fun _ _ h=>(by cases h;rfl),fun _ _ _ h=>(by cases h),fun _ _ h=>(by cases h)⟩
 |ex i ts st=>
  rw [g.2.1 i ts st rfl]
  show RCLe (br (Nat.beq i id) (.nrm ts st) (.ex i ts st)) (match Nat.beq i id with|true=>some (.normal,ts,st)|false=>some (.exit i,ts,st))
  cases Nat.beq i id
  ·exact ⟨fun _ _ h=>(by cases h),fun _ _ _ h=>(by cases h;rfl),fun _ _ h=>(by cases h)⟩
  ·exact ⟨fun _ _ h=>(by cases h;rfl),fun _ _ _ h=>(by cases h),fun _ _ h=>(by cases h)⟩
 |rt ts st=>rw [g.2.2 ts st rfl];exact ⟨fun _ _ h=>(by cases h),fun _ _ _ h=>(by cases h),fun _ _ h=>(by cases h;rfl)⟩
theorem condF_le {f:RecF} {g:Rec} (h:RecLe f g) {m:Nat} (y:m≤4000) {a b:Code} {ts:Ts} {st:St} {v:Value}:RCLe (condF f m a b ts st (vB v)) (evCond g m a b v ts st):=by
 unfold condF
 cases B:vB v with
 |o=>exact .no
 |t=>rw [vB_t B];exact h _ _ _ _ y
 |f=>rw [vB_f B];exact h _ _ _ _ y
theorem rgF_le {orc:Orc} {f:RecF} {g:Rec} (h:RecLe f g) {m:Nat} (B:m≤4000) (ops:Array Oper) (y:Bool) (ts:Ts) (st:St):RCLe (rgF ops y P G orc f m ts st) (evRegion P G orc g m ops y ts st):=by
 unfold rgF evRegion
 cases constsB G ops with
 |false=>exact .no
 |true=>
  cases y with
  |false=>exact ofRT_le (opsF_le (callFF_le (orc:=orc) h) B ops ops.toList ts st) fun ts st e=>by simp only [e]
  |true=>
   show RCLe (br (regionB ops) (ofRT (drawnF P G (callFF P G orc f) m ops ops.toList 0 [] ts st)) .no) (match regionB ops with
    |true=>(match evDrawn P G (evCallF P G orc g) m ops ops.toList 0 [] ts st with|some (ts,st)=>some (.normal,ts,st)|none=>none)
    |false=>none)
   cases regionB ops with
   |false=>exact .no
   |true=>exact ofRT_le (drawnF_le (callFF_le (orc:=orc) h) B ops ops.toList 0 [] ts st) fun ts st e=>by simp only [e]
theorem codeF_le {orc:Orc} {f:RecF} {g:Rec} (h:RecLe f g) {m:Nat} (y:m≤4000) (c:Code) (ts:Ts) (st:St):RCLe (codeF c P G orc f m ts st) (codeD c P G orc g m ts st):=by
 cases c with
 |skip=>exact ⟨fun _ _ h=>(by cases h;rfl),fun _ _ _ h=>(by cases h),fun _ _ h=>(by cases h)⟩
 |region id ops B=>exact rgF_le h y ops B ts st
 |seq a b=>exact seqF_le h y (h _ _ _ _ y)
 |cond x a b=>
  show RCLe (condF f m a b ts st (vB (ρF ts x))) (evCond g m a b (ρ ts x) ts st)
  rw [ρF_eq];exact condF_le h y
 |block id b=>exact blockF_le (h _ _ _ _ y)
 |loop b=>exact seqF_le h y (h _ _ _ _ y)
 |rangeFunc a b c d=>exact .no
 |exit id=>exact ⟨fun _ _ h=>(by cases h),fun _ _ _ h=>(by cases h;rfl),fun _ _ h=>(by cases h)⟩
 |scope b=>exact h _ _ _ _ y
 |label l=>exact ⟨fun _ _ h=>(by cases h;rfl),fun _ _ _ h=>(by cases h),fun _ _ h=>(by cases h)⟩
 |goto l=>exact .no
 |ret=>exact ⟨fun _ _ h=>(by cases h),fun _ _ _ h=>(by cases h),fun _ _ h=>(by cases h;rfl)⟩
 |refuse w=>exact .no
theorem ecF_le (orc:Orc): ∀n,RecLe (ecF P G orc n) (ec P G orc n)
 |0=>fun _ _ _ _ _=> .no
 |n+1=>fun m c ts st g=>by
  rw [ec_succ]
  exact codeF_le (ecF_le orc n) g c ts st
theorem runG_ok {orc:Orc} {n:Nat} {f:FuncId} {args:List Value} {v:Value} (h:runG P G orc n f args=some v):runF P G orc n f args=some v:=by
 unfold runG at h
 cases g:enterF P G (ecF P G orc n) f args ⟨[],G,G⟩ with
 |none=>rw [g] at h;cases h
 |some x=>
  rw [g] at h
  obtain ⟨u,st⟩:=x
  have h:some u=some v:=h
  obtain rfl:u=v:=Option.some.inj h
  unfold runF
  rw [enterF_le (ecF_le orc n) f args _ u st g]
theorem orcIn_ok {base:Nat} {T:World→Prop} {orc:Orc} (l:List Nat) (h:OrcSound P G base T orc):OrcSound P G base T (orcIn l orc):=by
 intro g args st v φ W Args e
 unfold orcIn at e
 cases y:memN l g with
 |true=>rw [y] at e;exact h g args st v φ W Args e
 |false=>rw [y] at e;cases e
end
end
end Go.Proofs.YtkiehdigpchebaaGreatDoor.Ev
