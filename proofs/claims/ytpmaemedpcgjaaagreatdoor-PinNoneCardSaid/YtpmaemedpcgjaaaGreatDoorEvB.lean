/-
  A walk on paper: what a call does in a memory of its own, reckoned out; and that the call does so (2 of 2).
-/
import Derived.Orders
import Derived.RowKit3
import Derived.KernelRfl
import Derived.Below
import Derived.Laws.CopyRow
import Derived.Laws.Append
import Derived.Laws.AppendOwn
import Derived.Lib.UnsafeStr
import Derived.Lib.Builder
import Derived.LaidEql
import Derived.Laws.BytesString
import Derived.Scope
import Derived.Lib.Bytealg
import Derived.Lib.Index
import Derived.Lib.TrailingZeros
import Derived.Lib.BitFns
import Derived.Lib.ItoaNum
import Derived.Lib.Join
import Derived.Laws.Externs
import Derived.Lib.Replace
import Derived.Shelf.Abstract
import Derived.Laws.RangeString
import Derived.Test.YtpmaemedpcgjaaaGreatDoorEvA
namespace Go.Proofs.YtpmaemedpcgjaaaGreatDoor.Ev
set_option autoImplicit false
section
open Go Go.RowKit
section
variable {P:Program} {G base:Nat} {φ:Phi} {st st':St} {W:World}
inductive AppArg (P:Program) (W:World) (size:Nat) (z:Value) (u:TypeDesc):Value→Nat→List Value→Prop
 |slice {o:Option Addr} {k c:Nat} {Xs:List Value}:(∀q,u≠ .int q)→(∀W1:World,W1.heap=W.heap→(Builtin.firstCells size k (.slice o k c)).run P W1= .ok Xs.toArray W1)→AppArg P W size z u (.slice o k c) k Xs
 |string {s:ByteArray}:(∀q,u≠ .int q)→AppArg P W size z u (.string s) s.size (byteVals s)
 |zeros {k:Nat} {q:IntKind}:u= .int q→k≤4096→AppArg P W size z u (.int .i64 (k:Int)) k (Builtin.zeroCells z.cells k).toList
theorem run_firstCells_str (size:Nat) (s:ByteArray) (W1:World):(Builtin.firstCells size s.size (.string s)).run P W1= .ok (byteVals s).toArray W1:=by
 simp [Builtin.firstCells]
 apply Array.ext'
 simp [byteVals]
theorem run_append_in {Q O ty elem:TypeId} {i:TypeInfo} {z X:Value} {u:TypeDesc} {k:Nat} {Xs:List Value} (J:P.underlying Q=some (.slice elem)) (I:P.underlying O=some u) (E:P.info? elem=some i) (S:i.zero=some z) (h0:0<i.size)
  (L:i.bytes≤4096) (ha:AppArg P W i.size z u X k Xs) (base:Option Addr) (n c:Nat) (g:n+k≤c):
  (Builtin.append_ #[Q,O] ty #[.slice base n c,X]).run P W=((match base with|some a=>storeCells (a.add (n*i.size)) Xs|none=>pure ():Sem Unit).run P W).andThen fun _ W'=> .ok (.slice base (n+k) c) W':=by
 cases ha with
 | @slice o k c' Xs K Z=>
  cases base<;>simp [Builtin.append_,run_underlying J,run_underlying I,sizeOf,typeInfo,E,Builtin.lenOf,g,Z W rfl]
 | @string s K=>
  have Y:=run_firstCells_str (P:=P) i.size s
  cases base<;>simp [Builtin.append_,run_underlying J,run_underlying I,sizeOf,typeInfo,E,Builtin.lenOf,g,Y]
 | @zeros k q hq U=>
  subst hq
  have w:=wrap_small (n:=k) (by omega)
  have M: ¬((k:Int)<0):=by omega
  have N: ¬(281474976710656<(k:Int)*(i.bytes:Int)):=by
   have D:k*i.bytes≤4096*4096:=Nat.mul_le_mul U L
   have D:=Int.ofNat_le.2 D
   rw [Int.natCast_mul] at D
   intro h6
   have h7:=Int.lt_of_lt_of_le h6 D
   revert h7
   decide
  by_cases y:k*i.size=0
  ·have B:k=0:=by rcases Nat.mul_eq_zero.1 y with h|h<;>omega
   subst B
   have e0:Builtin.zeroCells z.cells 0= #[]:=by simp [Builtin.zeroCells]
   have w0:IntKind.i64.wrap 0=0:=w
   cases base<;>simp [Builtin.append_,run_underlying J,run_underlying I,sizeOf,typeInfo,E,asInt,asIntOf,w0,show n≤c by omega,e0]
  ·cases base<;>simp [Builtin.append_,run_underlying J,run_underlying I,sizeOf,typeInfo,zeroValue,E,S,asInt,asIntOf,w,M,N,g,y]
theorem run_append_out {sT xT ty elem:TypeId} {i:TypeInfo} {z X:Value} {u:TypeDesc} {k:Nat} {Xs:List Value} (Y:P.underlying sT=some (.slice elem)) (U:P.underlying xT=some u) (S:P.info? elem=some i) (O:i.zero=some z) (h0:0<i.size)
  (M:i.bytes≤4096) (ha:AppArg P W i.size z u X k Xs) (base:Option Addr) (n c:Nat) (E:List Value) (y: ∀W1:World,W1.heap=W.heap→(Builtin.firstCells i.size n (.slice base n c)).run P W1= .ok E.toArray W1)
  (I:c<n+k) (hn:n+k≤2000000):
  (Builtin.append_ #[sT,xT] ty #[.slice base n c,X]).run P W= .ok (.slice (some ⟨W.heap.size,0,none⟩) (n+k) (grownCap W (n+k) c elem))
   (W.drew.alloc (.cells (E++Xs++(Builtin.zeroCells z.cells (grownCap W (n+k) c elem - (n+k))).toList).toArray elem)):=by
 have D: ¬(n+k≤c):=by omega
 have J: ¬(9223372036854775807<((n:Int)+(k:Int))):=by omega
 have g: ¬(281474976710656<Builtin.nextslicecap (n+k) c*i.bytes):=by
  have h1:Builtin.nextslicecap (n+k) c≤2*(n+k):=nextslicecap_le I
  have h2:Builtin.nextslicecap (n+k) c*i.bytes≤4000000*4096:=Nat.mul_le_mul (by omega) M
  omega
 have fin: ∀A B C:List Value,A++(B++C)=A++B++C:=fun A B C=>(List.append_assoc A B C).symm
 cases ha with
 | @slice o k c' Xs Z hf=>
  simp [Builtin.append_,run_underlying Y,run_underlying U,sizeOf,typeInfo,zeroValue,S,O,Builtin.lenOf,D,J,g,Question.forced,hf W.drew rfl,y W.drew rfl,newRow,grownCap]
  try (congr 2;apply Array.ext';simp)
 | @string s Z=>
  have hx:=run_firstCells_str (P:=P) i.size s
  simp [Builtin.append_,run_underlying Y,run_underlying U,sizeOf,typeInfo,zeroValue,S,O,Builtin.lenOf,D,J,g,Question.forced,y W.drew rfl,newRow,grownCap,hx]
  try (congr 2;apply Array.ext';simp)
 | @zeros k q hq hk=>
  subst hq
  have w:=wrap_small (n:=k) (by omega)
  have qa: ¬((k:Int)<0):=by omega
  have qb: ¬(281474976710656<(k:Int)*(i.bytes:Int)):=by
   have Q:k*i.bytes≤4096*4096:=Nat.mul_le_mul hk M
   have Q:=Int.ofNat_le.2 Q
   rw [Int.natCast_mul] at Q
   intro h6
   have h7:=Int.lt_of_lt_of_le h6 Q
   revert h7
   decide
  by_cases K:k*i.size=0
  ·have L:k=0:=by rcases Nat.mul_eq_zero.1 K with h|h<;>omega
   subst L
   have e0:Builtin.zeroCells z.cells 0= #[]:=by simp [Builtin.zeroCells]
   have w0:IntKind.i64.wrap 0=0:=w
   simp only [Nat.add_zero] at*
   have N: ¬(9223372036854775807<(n:Int)):=by omega
   simp [Builtin.append_,run_underlying Y,run_underlying U,sizeOf,typeInfo,zeroValue,S,O,asInt,asIntOf,w0,D,N,g,e0,Question.forced,y W.drew rfl,newRow,grownCap]
   try (congr 2;apply Array.ext';simp)
  ·simp [Builtin.append_,run_underlying Y,run_underlying U,sizeOf,typeInfo,zeroValue,S,O,asInt,asIntOf,w,qa,qb,D,J,g,K,Question.forced,y W.drew rfl,newRow,grownCap]
   try (congr 2;apply Array.ext';simp)
theorem heap_cell {W1:World} (h:W1.heap=W.heap) (a:Addr):W1.cell? a=W.cell? a:=by simp [World.cell?,h]
theorem firstCells_ok (K:Inv P G base φ st W) {a:Addr} {n size:Nat} {l:List Value} (h:cellsAt st.heap a (n*size)=some l) {r J:Nat} (D:φ a.block=some (r,J)):
  ∃L,RelL G φ l L∧L.length=n*size∧a.spot=none∧ ∀W1:World,W1.heap=W.heap→ ∀m c,(Builtin.firstCells size n (.slice (some ⟨r,a.off,none⟩) m c)).run P W1= .ok L.toArray W1:=by
 obtain ⟨L,y,g,E,I⟩:=cellsAt_ok K h D
 refine ⟨L,y,g,E,fun W1 M m c=> ?_⟩
 have:=run_loadCells_list (P:=P) W1 ⟨r,a.off,none⟩ L (fun j V B=>by rw [heap_cell M];exact I j V B)
 simp only [Builtin.firstCells]
 rw [←g]
 exact this
theorem appended_ok (hi:Inv P G base φ st W) {elem:TypeId} {x X z:Value} {xs:List Value} {k size:Nat} {u:TypeDesc} (h:appendedB P G elem size x st.heap=some (xs,k)) (B:appendKind x u=true) (I:Rel G φ x X)
  (M:zeroB P G elem=some z) (qa:z.cells.size=size) (h0:0<size): ∃Xs,RelL G φ xs Xs∧AppArg P W size z u X k Xs:=by
 have g: ∀v,(∀k n,v≠Value.int k n)→appendKind v u=true→ ∀q,u≠ .int q:=by
  intro v S B q E
  subst E
  cases v<;>first|exact absurd rfl (S _ _)|(simp [appendKind] at B)
 unfold appendedB at h
 split at h
 ·cases h
  rw [I.slice_nil]
  exact ⟨[],.nil,.slice (g _ (by simp) B) fun W1 _=>by simp [Builtin.firstCells]⟩
 ·rename_i a n c
  split at h
  ·rename_i l hl
   cases h
   obtain ⟨r,κ,_,U,Y⟩:=I.slice_inv
   obtain ⟨L,O,N,_,y⟩:=firstCells_ok hi hl U
   refine ⟨L,O,?_⟩
   rcases Y with ⟨c',_,rfl⟩|⟨c',_,rfl⟩
   ·exact .slice (g _ (by simp) B) fun W1 K=>y W1 K _ _
   ·exact .slice (g _ (by simp) B) fun W1 K=>y W1 K _ _
  ·cases h
 ·rename_i b
  split at h
  ·cases h
   rw [I.string]
   exact ⟨_,byteVals_free b,.string (g _ (by simp) B)⟩
  ·cases h
 ·rename_i n
  rw [M] at h
  simp only at h
  split at h
  ·rename_i D
   cases h
   have D:=Nat.le_of_ble_eq_true D
   obtain ⟨i,Q,Z,J⟩:=zeroB_ok M
   rw [I.int]
   have E: ∃q,u= .int q:=by cases u<;>simp [appendKind] at B ⊢
   obtain ⟨q,E⟩:=E
   exact ⟨_,zerosB_free J (k*z.cells.size) (by omega),.zeros E D⟩
  ·cases h
 ·cases h
theorem drop_post (y:Inv P G base φ st W) (b:Nat):Post P G base φ st W ⟨dropB st.heap b,st.next,Nat.min st.low b⟩ φ W:=by
 have g: ∀c o,look (dropB st.heap b) c=some o→look st.heap c=some o∧c≠b:=fun c o h=>by
  rw [look_dropB] at h
  split at h
  ·cases h
  ·rename_i E;exact ⟨h,fun e=>E e.symm⟩
 refine ⟨.rfl,fun _ _ h=> .inl h,fun c J κ' B D=>(by rw [B] at D;cases D),?_,Nat.le_refl _,Nat.min_le_left _ _,?_,fun _ _ _=>rfl,Nat.le_refl _,rfl,rfl,rfl⟩
 ·exact ⟨y.dom,fun c o h=>y.wf c o (g c o h).1,y.srt.sublist (sub_dropB _ _),fun c o r I h=>y.obj c o r I (g c o h).1,fun c d o q r I l B D=>y.inj c d o q r I l (g c o B).1 (g d q D).1,y.low⟩
 ·intro c _ E
  have B:c<Nat.min st.low b:=E
  have D:c<b:=Nat.lt_of_lt_of_le B (Nat.min_le_right _ _)
  show look (dropB st.heap b) c=_
  rw [look_dropB,if_neg (by omega)]
theorem grow_post (D:Inv P G base φ st W) (B:base≤W.heap.size) (h:φ st.next=none) {elem:TypeId} {size n cap:Nat} {cs Cs Z:List Value} (y:sizeB P elem=some size) (hrel:RelL G φ cs Cs) (_hlen:cs.length=n*size) (E:Z.length=(cap - n)*size) (_hcap:n≤cap):
  Post P G base φ st W ⟨(st.next,.row cs elem true false)::st.heap,st.next+1,st.low⟩ (φ.add st.next (W.heap.size,cap - n)) (W.drew.alloc (.cells (Cs++Z).toArray elem)):=by
 have g:=Phi.add_le (x:=(W.heap.size,cap - n)) h
 refine new_post (W1:=W.drew) D B h _ _ _ rfl rfl rfl rfl ⟨(Cs++Z).toArray,(0,0),size,?_,?_,.inr y,?_,by simp,fun _ i _=>by simp⟩
 ·show (W.heap.push _)[W.heap.size]? =_
  simp
 ·have:((Cs++Z).toArray.toList).take cs.length=Cs:=by
   rw [hrel.1]
   exact List.take_left
  rw [this]
  exact hrel.mono g
 ·simp [E,←hrel.1]
theorem take_post (E:Inv P G base φ st W) (hf:φ st.next=none) {b r κ κ':Nat} {cs:List Value} {elem:TypeId} {ext:Bool} {new:List Value} (hl:look st.heap b=some (.row cs elem ext false)) (Q:φ b=some (r,κ))
  {C C':Array Value} {Z:Nat×Nat} {size:Nat} (S:W.heap[r]? =some (.cells C elem Z)) (h6: ∀i,i<C.size→ ¬(Z.1≤i∧i<Z.2)) (hs:sizeB P elem=some size) (qf:C'.size=C.size) (hC:C'.size=new.length+κ'*size) (hrel:RelL G φ new (C'.toList.take new.length)):
  Post P G base φ st W ⟨(st.next,.row new elem true false)::dropB st.heap b,st.next+1,Nat.min st.low b⟩ (φ.add st.next (r,κ')) (W.setRow r C'):=by
 have N:=Phi.add_le (x:=(r,κ')) hf
 have hd:=E.dom _ _ _ Q
 have hw:=E.wf _ _ hl
 have X: ∀c o,look (dropB st.heap b) c=some o→look st.heap c=some o∧c≠b:=fun c o h=>by
  rw [look_dropB] at h
  split at h
  ·cases h
  ·rename_i L;exact ⟨h,fun e=>L e.symm⟩
 have lk: ∀c o,look ((st.next,AObj.row new elem true false)::dropB st.heap b) c=some o→(c=st.next∧o= .row new elem true false)∨(c≠st.next∧c≠b∧look st.heap c=some o):=fun c o h=>by
  rw [look_cons] at h
  split at h
  ·rename_i e;cases h;exact .inl ⟨e.symm,rfl⟩
  ·rename_i e;exact .inr ⟨fun x=>e x.symm,(X c o h).2,(X c o h).1⟩
 have g: ∀c x,φ.add st.next (r,κ') c=some x→(c=st.next∧x=(r,κ'))∨(c≠st.next∧φ c=some x):=fun c x h=>by
  unfold Phi.add at h
  split at h
  ·rename_i e;cases h;exact .inl ⟨e,rfl⟩
  ·rename_i e;exact .inr ⟨e,h⟩
 refine ⟨N,?_,?_,?_,Nat.le_succ _,Nat.min_le_left _ _,?_,?_,by simp,rfl,rfl,rfl⟩
 ·intro c x D
  rcases g c x D with ⟨rfl,rfl⟩|⟨_,h⟩
  ·exact .inr ⟨Nat.le_refl _,Nat.lt_succ_self _⟩
  ·exact .inl h
 ·intro c K l D hn
  rcases g c _ D with ⟨rfl,e⟩|⟨_,h⟩
  ·cases e
   exact .inr ⟨b,κ,Q,Nat.min_le_right _ _,hw.2⟩
  ·rw [hn] at h;cases h
 ·refine ⟨?_,?_,?_,?_,?_,by have:=E.low;show G≤st.next+1;omega⟩
  ·intro c K l D
   rw [setRow_size]
   rcases g c _ D with ⟨rfl,e⟩|⟨_,h⟩
   ·cases e;exact ⟨E.low,hd.2⟩
   ·exact E.dom c K l h
  ·intro c o L
   show G≤c∧c<st.next+1
   rcases lk c o L with ⟨rfl,_⟩|⟨_,_,h⟩
   ·exact ⟨E.low,Nat.lt_succ_self _⟩
   ·have:=E.wf c o h;omega
  ·refine List.pairwise_cons.2 ⟨fun x D=> ?_,E.srt.sublist (sub_dropB _ _)⟩
   have D:=(sub_dropB _ _).subset D
   obtain ⟨k,q⟩:=x
   have key: ∀l:Hp,(k,q)∈l→ ∃q',look l k=some q':=by
    intro l
    induction l with
    |nil=>intro h;cases h
    |cons y l ih=>
     intro h
     rw [look_cons]
     split
     ·exact ⟨_,rfl⟩
     ·rename_i B
      rcases List.mem_cons.1 h with e|e
      ·exact absurd (by rw [←e]) B
      ·exact ih e
   obtain ⟨q',qe⟩:=key _ D
   exact (E.wf k q' qe).2
  ·intro c o K l L D
   rcases lk c o L with ⟨rfl,rfl⟩|⟨B,O,h⟩
   ·rcases g _ _ D with ⟨_,e⟩|⟨B,_⟩
    ·cases e
     exact ⟨C',Z,size,setRow_heap W r C C' elem Z S,hrel.mono N,.inr hs,hC,by simp,fun _ i qg=>h6 i (by omega)⟩
    ·exact absurd rfl B
   ·rcases g _ _ D with ⟨e,_⟩|⟨_,I⟩
    ·exact absurd e B
    ·refine (E.obj c o K l h I).mono N (setRow_other W r K _ fun e=> ?_)
     subst e
     exact O (E.inj _ _ _ _ _ _ _ h hl I Q)
  ·intro c d o q K l l' L qa D I
   rcases lk c o L with ⟨rfl,_⟩|⟨B,O,h⟩<;>rcases lk d q qa with ⟨rfl,_⟩|⟨M,U,h'⟩
   ·rfl
   ·rcases g _ _ D with ⟨_,e⟩|⟨B,_⟩
    ·cases e
     rcases g _ _ I with ⟨e,_⟩|⟨_,J⟩
     ·exact absurd e M
     ·exact absurd (E.inj _ _ _ _ _ _ _ h' hl J Q) U
    ·exact absurd rfl B
   ·rcases g _ _ I with ⟨_,e⟩|⟨B,_⟩
    ·cases e
     rcases g _ _ D with ⟨e,_⟩|⟨_,J⟩
     ·exact absurd e B
     ·exact absurd (E.inj _ _ _ _ _ _ _ h hl J Q) O
    ·exact absurd rfl B
   ·rcases g _ _ D with ⟨e,_⟩|⟨_,qd⟩
    ·exact absurd e B
    ·rcases g _ _ I with ⟨e,_⟩|⟨_,qc⟩
     ·exact absurd e M
     ·exact E.inj _ _ _ _ _ _ _ h h' qd qc
 ·intro c L qb
  have S:c<Nat.min st.low b:=qb
  have h2:c<b:=Nat.lt_of_lt_of_le S (Nat.min_le_right _ _)
  show look ((st.next,AObj.row new elem true false)::dropB st.heap b) c=_
  rw [look_cons,if_neg (show ¬st.next=c by omega),look_dropB,if_neg (by omega)]
 ·intro K _ Y
  refine setRow_other W r K _ fun e=> ?_
  subst e
  have S:b<Nat.min st.low b:=Y b κ Q hw.2
  have h2:b<b:=Nat.lt_of_lt_of_le S (Nat.min_le_right _ _)
  omega
end
end

section
open Go Go.RowKit
section
variable {P:Program} {G base:Nat} {φ:Phi} {st st':St} {W:World}
theorem splice_mid: ∀(C:List Value) (n:Nat) (X:List Value),n+X.length≤C.length→splice C n X=C.take n++X++C.drop (n+X.length):=by
 intro C
 induction C with
 |nil=>
  intro n X h
  simp only [List.length_nil] at h
  have:X=[]:=List.eq_nil_of_length_eq_zero (by omega)
  subst this
  have:n=0:=by simpa using h
  subst this
  rfl
 |cons c C g=>
  intro n X h
  cases n with
  |succ n=>
   simp only [splice,List.take_succ_cons,List.cons_append]
   rw [g n X (by simp at h;omega),show n+1+X.length=(n+X.length)+1 by omega,List.drop_succ_cons]
  |zero=>
   cases X with
   |nil=>simp [splice]
   |cons x X=>
    simp only [splice]
    rw [g 0 X (by simp at h ⊢;omega)]
    simp
theorem zeroCells_len (z:Value) (n:Nat):(Builtin.zeroCells z.cells n).toList.length=n*z.cells.size:=by simp [Builtin.zeroCells]
theorem evAppend2_ok (hi:Inv P G base φ st W) (hb:base≤W.heap.size) {sT xT ty elem:TypeId} {u:TypeDesc} {z s S x X v:Value} {size qB:Nat} (qe:P.underlying sT=some (.slice elem)) (qd:P.underlying xT=some u)
  (qc:sizeB P elem=some size) (qF:bytesB P elem=some qB) (hz:zeroB P G elem=some z) (qG:appendKind x u=true) (h0:0<size) (I:qB≤4096) (qA:z.cells.size=size)
  (h:evAppend2 P G elem size s x st=some (v,st')) (hf:Fresh φ st st') (hs:Rel G φ s S) (hx:Rel G φ x X):
  SemOk P G base φ st W (Builtin.append_ #[sT,xT] ty #[S,X]) v st':=by
 obtain ⟨i,M,qS⟩:=sizeB_ok qc
 obtain ⟨i2,qt,qH⟩:=bytesB_ok qF
 rw [M] at qt
 cases qt
 obtain ⟨i3,qq,qb,qU⟩:=zeroB_ok hz
 rw [M] at qq
 cases qq
 subst qS
 subst qH
 unfold evAppend2 at h
 split at h
 ·rename_i xs k qE
  split at h
  ·rename_i hc
   rw [Bool.and_eq_true] at hc
   have hk:=Nat.le_of_ble_eq_true hc.1
   have U:=Nat.eq_of_beq_eq_true hc.2
   obtain ⟨Xs,N,K⟩:=appended_ok hi qE qG hx hz qA h0
   have qm:Xs.length=k*i.size:=by rw [←N.1];exact U
   have Q: ∀(L:St) (D E:List Value) (n:Nat) (b:Option Addr) (c:Nat),S= .slice b n c→(∀W1:World,W1.heap=W.heap→(Builtin.firstCells i.size n (.slice b n c)).run P W1= .ok E.toArray W1)→RelL G φ D E→D.length=n*i.size→n≤1000000→c<n+k→
     Post P G base φ st W L φ W→L.next=st.next→φ st.next=none→growB elem (D++xs) (n+k) L=some (v,st')→SemOk P G base φ st W (Builtin.append_ #[sT,xT] ty #[S,X]) v st':=by
    intro L D E n b c hS qa hO O hn g qo qr B hg
    subst hS
    obtain ⟨rfl,rfl⟩:=put_inv hg
    have y:=run_append_out (P:=P) (W:=W) (ty:=ty) qe qd M qb h0 I K b n c E qa g (by omega)
    have qI:=grownCap_ge W (n+k) c elem
    have qN:=grow_post (P:=P) (base:=base) qo.inv hb (by rw [qr];exact B) (n:=n+k) (cap:=grownCap W (n+k) c elem) (Z:=(Builtin.zeroCells z.cells (grownCap W (n+k) c elem - (n+k))).toList) qc (hO.append N)
     (by rw [List.length_append,O,U,Nat.add_mul]) (by rw [zeroCells_len,qA]) qI
    refine ⟨_,_,_,y,Post.trans qo (fun b qJ qP=>absurd qP (by rw [qr];omega)) qN,?_⟩
    have h2:=Rel.sliceE (G:=G) (o:=0) (n:=n+k) (c:=n+k) (Phi.add_self φ L.next (W.heap.size,grownCap W (n+k) c elem - (n+k)))
    rwa [show n+k+(grownCap W (n+k) c elem - (n+k))=grownCap W (n+k) c elem by omega] at h2
   split at h
   · -- nil
    rw [hs.slice_nil]
    split at h
    ·cases h
     have qR:Xs=[]:=List.eq_nil_of_length_eq_zero (by rw [qm];simp)
     subst qR
     have y:=run_append_in (P:=P) (W:=W) (ty:=ty) qe qd M qb h0 I K none 0 0 (by omega)
     refine ⟨.slice none 0 0,φ,W,?_,Post.refl hi,.free (d:=0) rfl⟩
     rw [y]
     simp
    ·rename_i k'
     have B:φ st.next=none:=by
      obtain ⟨_,rfl⟩:=put_inv h
      exact hf _ (Nat.le_refl _)
     rw [←hs.slice_nil]
     exact Q st [] [] 0 none 0 hs.slice_nil (fun W1 _=>by simp [Builtin.firstCells]) .nil (by simp) (by omega) (by omega) (Post.refl hi) rfl B (by simpa using h)
   · -- a row
    rename_i a n cap
    split at h
    ·rename_i hn
     have hn:=Nat.le_of_ble_eq_true hn
     obtain ⟨r,κ,qQ,hr,hS⟩:=hs.slice_inv
     have qs: ∃c,S= .slice (some ⟨r,a.off,none⟩) n c∧cap/2≤c∧(cap % 2=0→c=cap/2)∧(cap % 2=1→c=cap/2+κ)∧ ∀m,Rel G φ (.slice (some a) m cap) (.slice (some ⟨r,a.off,none⟩) m c):=by
      obtain ⟨ab,ao,qT⟩:=a
      cases qQ
      rcases hS with ⟨c',hc,rfl⟩|⟨c',hc,rfl⟩
      ·exact ⟨_,rfl,by omega,by omega,by omega,fun m=>by subst hc;exact .sliceX hr⟩
      ·exact ⟨_,rfl,by omega,by omega,by omega,fun m=>by subst hc;exact .sliceE hr⟩
     obtain ⟨c,rfl,qX,qK,qC,hrel⟩:=qs
     clear hS
     unfold appendTo at h
     split at h
     ·rename_i cs e ext qp hl
      split at h
      · -- there is room
       rename_i g
       have g:=Nat.le_of_ble_eq_true g
       split at h
       ·rename_i L hw
        cases h
        obtain ⟨W',qk,ql,_⟩:=write_ok hi hw (a:=⟨a.block,a.off+n*i.size,none⟩) hr N
        have y:=run_append_in (P:=P) (W:=W) (ty:=ty) qe qd M qb h0 I K (some ⟨r,a.off,none⟩) n c (by omega)
        refine ⟨_,φ,W',?_,ql,hrel (n+k)⟩
        rw [y]
        simp only [addr_add]
        rw [qk]
        rfl
       ·cases h
      ·rename_i g
       have g: ¬(n+k≤cap/2):=fun h=>by rw [Nat.ble_eq_true_of_le h] at g;cases g
       split at h
       ·cases h
       ·rename_i old qh
        obtain ⟨C,fr,s',h1,h2,h3,h4,h5,h6⟩:=hi.obj _ _ _ _ hl hr
        have qi:cellsAt st.heap a (n*i.size)=some old:=by
         unfold cellsAt
         rw [qp,hl]
         exact qh
        obtain ⟨qx,hO,qO,_,qa⟩:=firstCells_ok hi qi hr
        have O:old.length=n*i.size:=by rw [hO.1];exact qO
        split at h
        ·rename_i qL
         have qW:=qK qL
         have B:φ st.next=none:=by
          obtain ⟨_,rfl⟩:=put_inv h
          exact hf _ (Nat.le_refl _)
         exact Q st old qx n _ c rfl (fun W1 hW=>qa W1 hW n c) hO O hn (by omega) (Post.refl hi) rfl B h
        ·rename_i qw
         have qM:=qC (by rcases Nat.mod_two_eq_zero_or_one cap with h|h;exact absurd h qw;exact h)
         split at h
         ·rename_i qz
          simp only [Bool.and_eq_true] at qz
          obtain ⟨⟨⟨J,he⟩,qj⟩,qv⟩:=qz
          have J:=Nat.eq_of_beq_eq_true J
          have he:=Nat.eq_of_beq_eq_true he
          have qj:=Nat.eq_of_beq_eq_true qj
          subst he
          have B:φ st.next=none:=by
           obtain ⟨_,rfl⟩:=put_inv h
           exact hf _ (Nat.le_refl _)
          by_cases qy:n+k≤c
          · -- in its own place
           obtain ⟨rfl,rfl⟩:=put_inv h
           have qf:C.size=c*i.size:=by
            rw [h4,qM,Nat.add_mul,qj]
            rcases h3 with rfl|h3
            ·simp
            ·rw [qc] at h3;cases h3;rfl
           have qg:n*i.size+Xs.length≤C.size:=by
            rw [qm,qf,←Nat.add_mul]
            exact Nat.mul_le_mul_right _ qy
           have qD:=run_storeCells_any P r (n*i.size) e fr Xs 0 C W h1 (by simpa using qg) (h6 rfl) (N.ones qv)
           have y:=run_append_in (P:=P) (W:=W) (ty:=ty) qe qd M qb h0 I K (some ⟨r,a.off,none⟩) n c qy
           have Y:(old++xs).length=(n+k)*i.size:=by rw [List.length_append,O,U,Nat.add_mul]
           have hp:=take_post (P:=P) (base:=base) (κ':=c - (n+k)) (new:=old++xs) (C':=(splice C.toList (n*i.size) Xs).toArray) hi B hl hr h1 (h6 rfl) qc (by simp [splice_length])
            (by
             rw [Y,←Nat.add_mul,show n+k+(c - (n+k))=c by omega]
             simp [splice_length,qf])
            (by
             rw [Y,splice_mid _ _ _ (by simpa using qg)]
             have e1:(C.toList.take (n*i.size)++Xs++C.toList.drop (n*i.size+Xs.length)).take ((n+k)*i.size)=C.toList.take (n*i.size)++Xs:=by
              have e2:(C.toList.take (n*i.size)++Xs).length=(n+k)*i.size:=by
               rw [List.length_append,List.length_take,qm,Nat.add_mul,Array.length_toList]
               omega
              rw [←e2]
              exact List.take_left
             have e3:((C.toList.take (n*i.size)++Xs++C.toList.drop (n*i.size+Xs.length)).toArray.toList).take ((n+k)*i.size)=C.toList.take (n*i.size)++Xs:=e1
             rw [e3]
             refine RelL.append ?_ N
             obtain ⟨qJ,qV,qn⟩:=h2.slc qh
             rw [J,List.drop_zero,List.take_take] at qn
             rwa [Nat.min_eq_left (by omega)] at qn)
           refine ⟨.slice (some ⟨r,0,none⟩) (n+k) c,_,_,?_,hp,?_⟩
           ·rw [y]
            simp only [addr_add,J,Nat.zero_add]
            rw [qD]
            simp only [Nat.add_zero]
            rfl
           ·have h2:=Rel.sliceE (G:=G) (o:=0) (n:=n+k) (c:=n+k) (Phi.add_self φ st.next (r,c - (n+k)))
            rw [show n+k+(c - (n+k))=c by omega] at h2
            exact h2
          ·exact Q ⟨dropB st.heap a.block,st.next,Nat.min st.low a.block⟩ old qx n _ c rfl (fun W1 hW=>qa W1 hW n c) hO O hn (by omega) (drop_post hi a.block) rfl B h
         ·cases h
     ·cases h
    ·cases h
   ·cases h
  ·cases h
 ·cases h
theorem evAppend_ok (U:Inv P G base φ st W) (Q:base≤W.heap.size) {g:Array TypeId} {ty:TypeId} {s S x X v:Value} (h:evAppend P G g.toList s x st=some (v,st')) (Z:Fresh φ st st') (hs:Rel G φ s S) (N:Rel G φ x X):
  SemOk P G base φ st W (Builtin.append_ g ty #[S,X]) v st':=by
 unfold evAppend at h
 split at h
 ·rename_i sT xT y
  have:g= #[sT,xT]:=by apply Array.ext';simpa using y
  subst this
  split at h
  ·rename_i elem u I D
   split at h
   ·rename_i size qa z B E L
    split at h
    ·rename_i J
     simp only [Bool.and_eq_true] at J
     obtain ⟨⟨⟨O,Y⟩,K⟩,M⟩:=J
     exact evAppend2_ok U Q I D B E L O (blt_ok Y) (Nat.le_of_ble_eq_true K) (Nat.eq_of_beq_eq_true M) h Z hs N
    ·cases h
   ·cases h
  ·cases h
 ·cases h
theorem evCopy_ok (Q:Inv P G base φ st W) {t:TypeId} {B:Array TypeId} {ty:TypeId} (ht:B[0]? =some t) {d D x X v:Value} (h:evCopy P t d x st=some (v,st')) (S:Rel G φ d D) (U:Rel G φ x X):
  SemOk P G base φ st W (Builtin.copy_ B ty #[D,X]) v st':=by
 unfold evCopy at h
 split at h
 ·rename_i elem a n c hu
  split at h
  ·rename_i size I
   obtain ⟨r,κ,qb,Y,hD⟩:=S.slice_inv
   have M: ∃E,D= .slice (some ⟨r,a.off,none⟩) n E:=by rcases hD with ⟨E,_,rfl⟩|⟨E,_,rfl⟩<;>exact ⟨_,rfl⟩
   obtain ⟨E,rfl⟩:=M
   split at h
   ·rename_i b m cx
    split at h
    ·rename_i xs N
     split at h
     ·rename_i qa Z
      cases h
      obtain ⟨r2,qc,O,L,hX⟩:=U.slice_inv
      obtain ⟨Xs,J,qd,_,K⟩:=firstCells_ok Q N L
      obtain ⟨W',g,y,_⟩:=write_ok Q Z Y J
      refine ⟨_,φ,W',?_,y,.free (d:=0) rfl⟩
      rcases hX with ⟨cc,_,rfl⟩|⟨cc,_,rfl⟩<;>
       simp [Builtin.copy_,ht,run_underlying hu,Builtin.lenOf,run_sizeOf I,K W rfl,g]
     ·cases h
    ·cases h
   ·cases h
  ·cases h
 ·cases h
end
end

section
open Go Go.RowKit
section
variable {P:Program} {G base:Nat} {φ:Phi} {st st':St} {W:World}
def CallR (P:Program) (g:FuncId) (Args:Array Value) (W:World) (R:Value→World→Prop):Prop:=
 (∃V W',(callFunc g Args).run P W= .ok (.value V) W'∧R V W')∨(∃f h,(callFunc g Args).run P W= .ok (.enter f h) W∧Calls P f h W fun e W'=> ∃V,e= .returned V∧R V W')
def CallSound (P:Program) (G base:Nat) (T:World→Prop) (callf:CallF):Prop:=
 ∀(g:FuncId) (args:List Value) (st:St) (v:Value) (st':St) (φ:Phi) (W:World) (Args:Array Value),callf g args st=some (v,st')→Inv P G base φ st W→base≤W.heap.size→T W→Fresh φ st st'→RelL G φ args Args.toList→
  CallR P g Args W fun V W'=> ∃h,Post P G base φ st W st' h W'∧Rel G h v V
theorem wp_value {o:Oper} {A:Act} {W':World} {V:Value} {K:Act→World→Prop} {Q:Exit→Act→World→Prop} (h:(execOp A.eval o).run P W= .ok (.value V) W') (k:K (A.put o.dst V) W'):o.wp P A W K Q:=by
 unfold Oper.wp
 rw [h]
 exact k
theorem wp_skip' {o:Oper} {A:Act} {W':World} {K:Act→World→Prop} {Q:Exit→Act→World→Prop} (h:(execOp A.eval o).run P W= .ok .skip W') (k:K (A.put o.dst undef) W'):o.wp P A W K Q:=by
 unfold Oper.wp
 rw [h]
 exact k
theorem wp_callR {o:Oper} {A:Act} {g:FuncId} {Args:Array Value} {K:Act→World→Prop} {Q:Exit→Act→World→Prop} {R:Value→World→Prop} (h: ∀n W',(callFunc g Args).run P W= .ok n W'→(execOp A.eval o).run P W= .ok n W')
  (D:CallR P g Args W R) (k: ∀V W',R V W'→K (A.put o.dst V) W'):o.wp P A W K Q:=by
 rcases D with ⟨V,W',y,B⟩|⟨f,J,y,B⟩
 ·exact wp_value (h _ _ y) (k _ _ B)
 ·unfold Oper.wp
  rw [h _ _ y]
  refine Calls.mono B fun e W' I=> ?_
  obtain ⟨V,rfl,E⟩:=I
  exact k _ _ E
theorem RelL.map_ops {ts:Ts} {A:Act}: ∀{l:List Operand},(∀y∈l,Rel G φ (ρ ts y) (A.eval y))→RelL G φ (l.map (ρ ts)) (l.map A.eval)
 |[],_=> .nil
 |y::l,h=> .cons (h y (by simp)) (RelL.map_ops fun z g=>h z (by simp [g]))
theorem on1_ok {ts:Ts} {l:List Operand} {f:Value→Res} {r:Value×St} (h:on1 (l.map (ρ ts)) f=some r): ∃a,l=[a]∧f (ρ ts a)=some r:=by
 unfold on1 at h
 split at h
 ·rename_i x e
  match l,e with
  |[a],e=>simp at e;exact ⟨a,rfl,by rw [e];exact h⟩
 ·cases h
theorem on2_ok {ts:Ts} {l:List Operand} {f:Value→Value→Res} {r:Value×St} (h:on2 (l.map (ρ ts)) f=some r): ∃a b,l=[a,b]∧f (ρ ts a) (ρ ts b)=some r:=by
 unfold on2 at h
 split at h
 ·rename_i x y e
  match l,e with
  |[a,b],e=>simp at e;exact ⟨a,b,rfl,by rw [e.1,e.2];exact h⟩
 ·cases h
theorem tyAt_ok {g:Array TypeId} {f:TypeId→Res} {r:Value×St} (h:tyAt g f=some r): ∃t,g[0]? =some t∧f t=some r:=by
 unfold tyAt at h
 split at h
 ·rename_i t l e
  exact ⟨t,by rw [←Array.getElem?_toList,e];rfl,h⟩
 ·cases h
theorem tyAt2_ok {g:Array TypeId} {f:TypeId→Res} {r:Value×St} (h:tyAt2 g f=some r): ∃t u,g= #[t,u]∧f t=some r:=by
 unfold tyAt2 at h
 split at h
 ·rename_i t u e
  exact ⟨t,u,by apply Array.ext';simpa using e,h⟩
 ·cases h
theorem arr1 {args:Array Operand} {a:Operand} (h:args.toList=[a]):args= #[a]:=by apply Array.ext';simpa using h
theorem arr2 {args:Array Operand} {a b:Operand} (h:args.toList=[a,b]):args= #[a,b]:=by apply Array.ext';simpa using h
theorem calm_sound (U:Above G φ) {callf:CallF} {ts:Ts} {o:Oper} {A:Act} {v:Value} (S:calmB o.op=true) (h:evOp P G callf ts o st=some (v,st')) (B: ∀x∈o.op.operands,Rel G φ (ρ ts x) (A.eval x)):
  st'=st∧ ∃V,Rel G φ v V∧ ∀W,(execOp A.eval o).run P W= .ok (.value V) W:=by
 obtain ⟨dst,op,ty,pos,after,J⟩:=o
 unfold evOp opD at h
 have g: ∀{s:Sem Value} {v:Value},(st'=st∧CalmOk P G φ s v)→execOp A.eval ⟨dst,op,ty,pos,after,J⟩=(do pure (.value (←s)))→st'=st∧ ∃V,Rel G φ v V∧ ∀W,(execOp A.eval ⟨dst,op,ty,pos,after,J⟩).run P W= .ok (.value V) W:=by
  intro s v ⟨K,V,L,I⟩ X
  refine ⟨K,V,L,fun W=> ?_⟩
  rw [X]
  simp only [Sem.run_bind,I,Result.andThen_ok]
  rfl
 cases op<;>simp only [calmB] at S<;>first|cases S|skip
 case move x=>simp only [hMove] at h;cases h;exact ⟨rfl,_,B x (by simp [Op.operands]),fun W=>rfl⟩
 case assign x=>simp only [hMove] at h;cases h;exact ⟨rfl,_,B x (by simp [Op.operands]),fun W=>rfl⟩
 case pick c a b=>
  simp only [hPick] at h
  have:=evPick_ok (P:=P) h (B c (by simp [Op.operands])) (B a (by simp [Op.operands])) (B b (by simp [Op.operands]))
  obtain ⟨K,V,L,I⟩:=this
  refine ⟨K,V,L,fun W=> ?_⟩
  have I:=I W
  simp only [execOp,Sem.run_bind,Result.andThen] at I ⊢
  split at I
  ·simp only [Sem.run_pure] at I ⊢
   cases I
   rfl
  ·cases I
 case build t N=>
  simp only [hBuild] at h
  exact g (evBuild_ok h (RelP.of_map (A:=A) fun y E=>B y.2 (by simp only [Op.operands];simp;exact ⟨y.1,by simpa using E⟩))) (by simp only [execOp];congr 2;apply Array.ext';simp)
 case nilCheck x=>
  simp only [hNil] at h
  obtain ⟨K,L,I⟩:=evNil_ok h (B x (by simp [Op.operands]))
  subst L
  refine ⟨K,_,B x (by simp [Op.operands]),fun W=> ?_⟩
  rcases I with ⟨a,Q⟩|⟨t,u,Q⟩|⟨f,F,C,Q⟩<;>simp [execOp,Q]
 case binOp op t x y yt=>simp only [hBin] at h;exact g (evBin_ok U (x:=x) (y:=y) h (B x (by simp [Op.operands])) (B y (by simp [Op.operands]))) rfl
 case unOp op t x=>
  simp only [hUn] at h
  exact g (evPure_ok (args:=[ρ ts x]) (Args:=[A.eval x]) (s:=fun l=>Op.unary op (l.getD 0 undef)) U h (.cons (B x (by simp [Op.operands])) .nil)) rfl
 case makeInterface t x=>simp only [hIface] at h;exact g (evIface_ok h (B x (by simp [Op.operands]))) rfl
 case makeFunc fn first D=>
  simp only [hFunc] at h
  cases h
  refine ⟨rfl,_,?_,fun W=>rfl⟩
  have K:RelL G φ (first.map (ρ ts)).toList (first.map A.eval).toList:=by
   rw [Array.toList_map,Array.toList_map];exact RelL.map_ops fun y E=>B y (by simp [Op.operands];exact .inl (by simpa using E))
  have L:RelL G φ (D.map (ρ ts)).toList (D.map A.eval).toList:=by
   rw [Array.toList_map,Array.toList_map];exact RelL.map_ops fun y E=>B y (by simp [Op.operands];exact .inr (by simpa using E))
  exact .func (relA.2 K).1 (relA.2 K).2 (relA.2 L).1 (relA.2 L).2
 case slice t x lo hi Y=>
  simp only [hSlice] at h
  exact g (evSlice_ok h (B x (by simp [Op.operands])) (RelO.map fun y E=>B y (by simp [Op.operands,E])) (RelO.map fun y E=>B y (by simp [Op.operands,E])) (RelO.map fun y E=>B y (by simp [Op.operands,E]))) rfl
 case fieldAddr s x f=>simp only [hFieldAddr] at h;exact g (evFieldAddr_ok h (B x (by simp [Op.operands]))) rfl
 case field t x f=>simp only [hField] at h;exact g (evField_ok h (B x (by simp [Op.operands]))) rfl
 case indexAddr t x O=>simp only [hIndexAddr] at h;exact g (evIndexAddr_ok h (B x (by simp [Op.operands])) (B O (by simp [Op.operands]))) rfl
 case index t x O=>simp only [hIndex] at h;exact g (evIndex_ok h (B x (by simp [Op.operands])) (B O (by simp [Op.operands]))) rfl
 case typeAssert x Z M ok=>simp only [hAssert] at h;exact g (evAssert_ok h (B x (by simp [Op.operands]))) rfl
 case extract t i=>simp only [hExtract] at h;exact g (evExtract_ok h (B t (by simp [Op.operands]))) rfl
theorem calmT_sound (hG:Above G φ) {callf:CallF} {ts:Ts} {o:Oper} {A:Act} {v:Value} (y:calmT ts o.op=true) (h:evOp P G callf ts o st=some (v,st')) (M: ∀x∈o.op.operands,Rel G φ (ρ ts x) (A.eval x)):
  st'=st∧ ∃V,Rel G φ v V∧ ∀W,(execOp A.eval o).run P W= .ok (.value V) W:=by
 by_cases K:calmB o.op=true
 ·exact calm_sound hG K h M
 obtain ⟨dst,op,ty,pos,after,I⟩:=o
 cases op<;>first|exact absurd y K|skip
 case convert B g x=>
  simp only [calmT] at y
  split at y
  ·rename_i k n Y
   have Z:=M x (by simp [Op.operands])
   unfold evOp opD at h
   simp only [hConvert,Y] at h
   have h':evPure P G [.int k n] (convert B g ([Value.int k n].getD 0 undef)) st=some (v,st'):=by
    unfold evConvert at h
    split at h<;>first|exact h|(rename_i e;cases e)|(rename_i e _;cases e)|(rename_i e _ _;cases e)|skip
   rw [Y] at Z
   obtain ⟨N,V,U,S⟩:=evPure_ok (args:=[.int k n]) (Args:=[A.eval x]) (s:=fun l=>convert B g (l.getD 0 undef)) hG h' (.cons Z .nil)
   refine ⟨N,V,U,fun W=> ?_⟩
   have:=S W
   simp only [execOp,Sem.run_bind]
   change ((convert B g (A.eval x)).run P W).andThen _=_
   have e:(convert B g (A.eval x)).run P W= .ok V W:=this
   rw [e]
   rfl
  ·cases y
 case call c=>
  obtain ⟨D,args,J⟩:=c
  cases D with
  |value f=>exact absurd y K
  |invoke r n=>exact absurd y K
  |builtin b=>
   cases b<;>first|exact absurd y K|skip
   simp only [calmT] at y
   unfold evOp opD at h
   simp only [hCall,evCall] at h
   simp only [evBuiltin] at h
   obtain ⟨x,E,h⟩:=on1_ok h
   obtain ⟨t,Q,L⟩:=tyAt_ok h
   have X:=arr1 E;subst X
   simp only at y
   split at y
   ·cases y
   ·rename_i O
    have L:evLen P t (ρ ts x) st=some (v,st'):=by
     unfold evLenA at L
     split at L
     ·rename_i e;exact absurd e (O _)
     ·exact L
    obtain ⟨N,V,U,S⟩:=evLen_ok (ty:=ty) Q L (M x (by simp [Op.operands,Call.operands]))
    refine ⟨N,V,U,fun W=> ?_⟩
    have e:execOp A.eval ⟨dst,.call ⟨.builtin .len,#[x],J⟩,ty,pos,after,I⟩=(do pure (.value (←Builtin.len_ J ty #[A.eval x]))):=by simp [execOp,resolve,invoke,builtin]
    rw [e]
    simp only [Sem.run_bind,S W,Result.andThen_ok]
    rfl
theorem run_method {t:TypeId} {y:String} {g:FuncId} (h:methodB P t y=some g) (V:Value) (n:Nat) (W:World):(method (n+1) t V y).run P W= .ok (g,V) W:=by
 unfold methodB at h
 split at h
 ·rename_i i I
  split at h
  ·rename_i m E
   split at h
   ·rename_i f M K J
    have B:m.path= #[]:=by apply Array.ext';simpa using K
    split at h
    ·rename_i e D
     split at h
     ·cases h
      simp [method,typeInfo,I,E,B,follow,J,receiverAt,run_underlying D,Place.get]
     ·cases h
    ·rename_i d L D
     split at h
     ·cases h
     ·cases h
      simp only [method,Sem.run_bind,typeInfo,run_program,Result.andThen_ok,I,Sem.run_pure,E,B,follow,J,receiverAt,run_underlying D]
      cases d<;>first|rfl|exact absurd rfl (L _)
    ·cases h
   ·cases h
  ·cases h
 ·cases h
theorem evCall_ok {T:World→Prop} (S:Inv P G base φ st W) (hb:base≤W.heap.size) {callf:CallF} (qb:CallSound P G base T callf) (hT:T W) {ts:Ts} {c:Call} {ty:TypeId} {A:Act} {v:Value} {o:Oper} (ho:o.op= .call c) (qc:o.type=ty)
  (h:evCall P G callf ts c ty st=some (v,st')) (hf:Fresh φ st st') (hx: ∀x∈c.operands,Rel G φ (ρ ts x) (A.eval x)) {K:Act→World→Prop} {Q:Exit→Act→World→Prop}
  (k: ∀J V W',Post P G base φ st W st' J W'→Rel G J v V→K (A.put o.dst V) W'):o.wp P A W K Q:=by
 have B:RelL G φ (c.args.toList.map (ρ ts)) (c.args.toList.map A.eval):=RelL.map_ops fun y hy=>hx y (by simp only [Call.operands];exact Array.mem_append.2 (.inr (by simpa using hy)))
 have M:execOp A.eval o=(do let d ←resolve A.eval c o.type;invoke d.target d.args):=by unfold execOp;rw [ho]
 unfold evCall at h
 split at h
 ·rename_i f D
  split at h
  ·rename_i g first N qm
   have hF:=hx f (by simp [Call.operands,D])
   rw [qm] at hF
   obtain ⟨F,C,qk,qg,ql⟩:=hF.func_inv
   have hrel:RelL G φ (first.toList++c.args.toList.map (ρ ts)++N.toList) (F++c.args.map A.eval++C).toList:=by
    simp only [Array.toList_append,Array.toList_map]
    exact (qg.append B).append ql
   have qa:=qb _ _ _ _ _ _ _ _ h S hb hT hf hrel
   refine wp_callR (fun n W' hr=> ?_) qa fun V W' ⟨J,Y,O⟩=>k J V W' Y O
   rw [M]
   simp only [resolve,D,qk,Deferred.ofValue,Sem.run_bind,Sem.run_pure,Result.andThen_ok,invoke]
   exact hr
  ·cases h
 ·rename_i r qn D
  split at h
  ·rename_i t u qh
   split at h
   ·rename_i g hm
    have hR:=hx r (by simp [Call.operands,D])
    rw [qh] at hR
    obtain ⟨U,qj,hU⟩:=hR.iface_inv
    have hrel:RelL G φ (u::c.args.toList.map (ρ ts)) (#[U]++c.args.map A.eval).toList:=by
     simp only [Array.toList_append,Array.toList_map]
     exact .cons hU B
    have qa:=qb _ _ _ _ _ _ _ _ h S hb hT hf hrel
    refine wp_callR (fun n W' hr=> ?_) qa fun V W' ⟨J,Y,O⟩=>k J V W' Y O
    rw [M]
    have qe:P.types.size+Made.depth=(P.types.size+99)+1:=rfl
    have qd:=run_method (P:=P) hm U (P.types.size+99) W
    simp only [resolve,D,qj,Sem.run_bind,Sem.run_pure,Result.andThen_ok,invoke]
    have e1:(#[Value.iface t U]++c.args.map A.eval)[0]? =some (.iface t U):=by rw [Array.getElem?_append];rfl
    have e2:(#[Value.iface t U]++c.args.map A.eval).extract 1 (#[Value.iface t U]++c.args.map A.eval).size=c.args.map A.eval:=by
     apply Array.ext'
     simp
     exact List.take_of_length_le (by simp)
    rw [e1]
    simp only [e2,callMethod,Sem.run_bind,run_program,Result.andThen_ok,qe,qd]
    exact hr
   ·cases h
  ·cases h
 ·rename_i b D
  have done: ∀{s:Sem Value},SemOk P G base φ st W s v st'→(execOp A.eval o=do pure (.value (←s)))→o.wp P A W K Q:=by
   intro s ⟨V,J,W',Y,O,h3⟩ he
   refine wp_value (W':=W') (V:=V) ?_ (k J V W' O h3)
   rw [he]
   simp only [Sem.run_bind,Y,Result.andThen_ok]
   rfl
  have calm: ∀{s:Sem Value},(st'=st∧CalmOk P G φ s v)→(execOp A.eval o=do pure (.value (←s)))→o.wp P A W K Q:=by
   intro s ⟨Y,V,O,h3⟩ he
   subst Y
   exact done ⟨V,φ,W,h3 W,Post.refl S,O⟩ he
  have L: ∀l:List Operand,c.args.toList=l→execOp A.eval o=builtin b c.argTypes o.type (c.args.map fun| .const _=>true|_=>false) (l.map A.eval).toArray:=by
   intro l hl
   rw [M]
   simp only [resolve,D,invoke]
   have:c.args.map A.eval=(l.map A.eval).toArray:=by apply Array.ext';simp [hl]
   rw [this]
   rfl
  have hG:=S.above
  obtain ⟨qf,args,X⟩:=c
  simp only at*
  subst D
  have I: ∀x∈args.toList,Rel G φ (ρ ts x) (A.eval x):=fun x qi=>hx x (by simp [Call.operands];simpa using qi)
  cases b<;>simp only [evBuiltin] at h<;>first|cases h;done|skip
  case append=>
   obtain ⟨x,y,B,h⟩:=on2_ok h
   have E:=arr2 B;subst E
   exact done (evAppend_ok (ty:=o.type) S hb h hf (I x (by simp)) (I y (by simp))) (by rw [L _ B];rfl)
  case copy=>
   obtain ⟨x,y,B,h⟩:=on2_ok h
   obtain ⟨t,Z,O⟩:=tyAt_ok h
   have E:=arr2 B;subst E
   exact done (evCopy_ok (ty:=o.type) S Z O (I x (by simp)) (I y (by simp))) (by rw [L _ B];rfl)
  case len=>
   obtain ⟨x,B,h⟩:=on1_ok h
   obtain ⟨t,Z,O⟩:=tyAt_ok h
   have E:=arr1 B;subst E
   obtain ⟨rfl,V,h3,h4⟩:=evLenA_ok (ty:=o.type) S Z O (I x (by simp))
   exact done ⟨V,φ,W,h4,Post.refl S,h3⟩ (by rw [L _ B];rfl)
  case unsafeSliceData=>
   obtain ⟨x,B,h⟩:=on1_ok h
   have E:=arr1 B;subst E
   exact calm (evSliceData_ok (ts:=X) (ty:=o.type) h (I x (by simp))) (by rw [L _ B];rfl)
  case unsafeString=>
   obtain ⟨x,y,B,h⟩:=on2_ok h
   obtain ⟨t,u,rfl,O⟩:=tyAt2_ok h
   have E:=arr2 B;subst E
   exact done (evUnsafeString_ok (it:=u) (ty:=o.type) S O (I x (by simp)) (I y (by simp))) (by rw [L _ B];rfl)
  case min=>
   have:=evPure_ok (args:=args.toList.map (ρ ts)) (Args:=args.toList.map A.eval) (s:=fun l=>Builtin.min_ X ty l.toArray) hG h B
   exact calm this (by rw [L _ rfl,qc];rfl)
  case max=>
   have:=evPure_ok (args:=args.toList.map (ρ ts)) (Args:=args.toList.map A.eval) (s:=fun l=>Builtin.max_ X ty l.toArray) hG h B
   exact calm this (by rw [L _ rfl,qc];rfl)
theorem op_sound {T:World→Prop} (E:Inv P G base φ st W) (J:base≤W.heap.size) {callf:CallF} (S:CallSound P G base T callf) (hT:T W) {ts:Ts} {o:Oper} {A:Act} {v:Value}
  (h:evOp P G callf ts o st=some (v,st')) (L:Fresh φ st st') (D: ∀x∈o.op.operands,Rel G φ (ρ ts x) (A.eval x)) {K:Act→World→Prop} {Q:Exit→Act→World→Prop}
  (k: ∀I V W',Post P G base φ st W st' I W'→Rel G I v V→K (A.put o.dst V) W'):o.wp P A W K Q:=by
 by_cases Z:calmB o.op=true
 ·obtain ⟨rfl,V,M,g⟩:=calm_sound E.above Z h D
  exact wp_value (g W) (k φ V W (Post.refl E) M)
 have done: ∀{s:Sem Value},SemOk P G base φ st W s v st'→(execOp A.eval o=do pure (.value (←s)))→o.wp P A W K Q:=by
  intro s ⟨V,I,W',h1,h2,h3⟩ he
  refine wp_value (W':=W') (V:=V) ?_ (k I V W' h2 h3)
  rw [he]
  simp only [Sem.run_bind,h1,Result.andThen_ok]
  rfl
 obtain ⟨dst,op,ty,pos,after,Y⟩:=o
 have h0:=h
 unfold evOp opD at h
 cases op<;>simp only [calmB,not_true_eq_false] at Z<;>simp only [hNone] at h<;>first|cases h;done|skip
 case alloc e=>simp only [hAlloc] at h;exact done (evAlloc_ok E J h L) rfl
 case box e x=>simp only [hBox] at h;exact done (evBox_ok E J h L (D x (by simp [Op.operands]))) rfl
 case buildSlice t qb U=>
  simp only [hBuildSlice] at h
  exact done (evBuildSlice_ok E J h L (RelP.of_map (A:=A) fun y X=>D y.2 (by simp only [Op.operands];simp;exact ⟨y.1,by simpa using X⟩))) (by simp only [execOp];congr 2;apply Array.ext';simp)
 case load t a=>
  simp only [hLoad] at h
  obtain ⟨rfl,V,M,g⟩:=evLoad_ok E h (D a (by simp [Op.operands]))
  exact done ⟨V,φ,W,g,Post.refl E,M⟩ rfl
 case store t a x=>
  simp only [hStore] at h
  obtain ⟨rfl,W',g,B⟩:=evStore_ok E h (D a (by simp [Op.operands])) (D x (by simp [Op.operands]))
  refine wp_skip' (W':=W') ?_ (k φ undef W' B (.free (d:=1) rfl))
  simp only [execOp,Sem.run_bind,g,Result.andThen_ok]
  rfl
 case makeMap t r=>simp only [hMakeMap] at h;exact done (evMakeMap_ok E J h L (RelO.map fun y X=>D y (by simp [Op.operands,X]))) rfl
 case lookup t x ix ok=>
  simp only [hLookup] at h
  obtain ⟨rfl,V,M,g⟩:=evLookup_ok E h (D x (by simp [Op.operands])) (D ix (by simp [Op.operands]))
  exact done ⟨V,φ,W,g,Post.refl E,M⟩ rfl
 case mapUpdate t m O x=>
  simp only [hMapUpdate] at h
  obtain ⟨rfl,W',g,B⟩:=evMapUpdate_ok E h (D m (by simp [Op.operands])) (D O (by simp [Op.operands])) (D x (by simp [Op.operands]))
  refine wp_skip' (W':=W') ?_ (k φ undef W' B (.free (d:=1) rfl))
  simp only [execOp,Sem.run_bind,g,Result.andThen_ok]
  rfl
 case insert t m O x=>
  simp only [hMapUpdate] at h
  obtain ⟨rfl,W',g,B⟩:=evMapUpdate_ok E h (D m (by simp [Op.operands])) (D O (by simp [Op.operands])) (D x (by simp [Op.operands]))
  refine wp_skip' (W':=W') ?_ (k φ undef W' B (.free (d:=1) rfl))
  simp only [execOp,Sem.run_bind,g,Result.andThen_ok]
  rfl
 case convert qa dst x=>simp only [hConvert] at h;exact done (evConvert_ok E J h L (D x (by simp [Op.operands]))) rfl
 case makeSlice t l c=>simp only [hMakeSlice] at h;exact done (evMakeSlice_ok E J h L (D l (by simp [Op.operands])) (D c (by simp [Op.operands]))) rfl
 case range t x=>simp only [hRange] at h;exact done (evRange_ok E J h L (D x (by simp [Op.operands]))) rfl
 case next it s=>
  simp only [hNext] at h
  cases s
  ·cases h
  ·exact done (evNext_ok E h (D it (by simp [Op.operands]))) rfl
 case call c=>
  simp only [hCall] at h
  exact evCall_ok E J S hT rfl rfl h L (fun x N=>D x (by simpa [Op.operands] using N)) k
end
end

section
open Go Go.RowKit
theorem Tr.get_e (k:Nat):Tr.get .e k=undef:=rfl
theorem Tr.get_n (l:Tr) (v:Value) (r:Tr) (k:Nat):Tr.get (.n l v r) k=if k=0 then v else if k % 2=1 then l.get (k/2) else r.get (k/2 - 1):=by
 have e:Tr.get (.n l v r) k=br (Nat.beq k 0) v (br (Nat.beq (Nat.mod k 2) 1) (l.get (Nat.div k 2)) (r.get (Nat.sub (Nat.div k 2) 1))):=rfl
 rw [e]
 by_cases h:k=0
 ·rw [if_pos h,beq_yes h]
 ·rw [if_neg h,beq_no h]
  by_cases g:k % 2=1
  ·rw [if_pos g,show Nat.beq (Nat.mod k 2) 1=true from beq_yes g];rfl
  ·rw [if_neg g,show Nat.beq (Nat.mod k 2) 1=false from beq_no g];rfl
theorem Tr.get_split (t:Tr) (k:Nat):t.get k=if k=0 then t.val else if k % 2=1 then t.left.get (k/2) else t.right.get (k/2 - 1):=by
 cases t with
 |e=>
  have:Tr.get .e k=undef:=rfl
  rw [this]
  show undef=if k=0 then undef else if k % 2=1 then Tr.get .e (k/2) else Tr.get .e (k/2 - 1)
  split
  ·rfl
  ·split<;>rfl
 |n l v r=>exact Tr.get_n l v r k
theorem Tr.put_succ (f:Nat) (t:Tr) (k:Nat) (v:Value):Tr.put (f+1) t k v=if k=0 then .n t.left v t.right else if k % 2=1 then .n (Tr.put f t.left (k/2) v) t.val t.right else .n t.left t.val (Tr.put f t.right (k/2 - 1) v):=by
 have e:Tr.put (f+1) t k v=br (Nat.beq k 0) (.n t.left v t.right) (br (Nat.beq (Nat.mod k 2) 1) (.n (Tr.put f t.left (Nat.div k 2) v) t.val t.right) (.n t.left t.val (Tr.put f t.right (Nat.sub (Nat.div k 2) 1) v))):=rfl
 rw [e]
 by_cases h:k=0
 ·rw [if_pos h,beq_yes h]
 ·rw [if_neg h,beq_no h]
  by_cases g:k % 2=1
  ·rw [if_pos g,show Nat.beq (Nat.mod k 2) 1=true from beq_yes g];rfl
  ·rw [if_neg g,show Nat.beq (Nat.mod k 2) 1=false from beq_no g];rfl
theorem Tr.get_put: ∀(f:Nat) (t:Tr) (k:Nat) (v:Value) (j:Nat),k+2≤2^f→(Tr.put f t k v).get j=if k=j then v else t.get j:=by
 intro f
 induction f with
 |zero=>intro t k v j h;simp at h
 |succ f D=>
  intro t k v j h
  rw [Nat.pow_succ] at h
  rw [Tr.put_succ]
  by_cases B:k=0
  ·rw [if_pos B,Tr.get_n,Tr.get_split t j]
   subst B
   by_cases y:j=0
   ·subst y;simp
   ·simp [y,show ¬(0=j) from fun e=>y e.symm]
  ·rw [if_neg B]
   by_cases E:k % 2=1
   ·rw [if_pos E,Tr.get_n,Tr.get_split t j]
    by_cases y:j=0
    ·subst y;rw [if_pos rfl,if_neg B,if_pos rfl]
    ·rw [if_neg y]
     by_cases g:j % 2=1
     ·rw [if_pos g,D _ _ _ _ (by omega),if_neg y,if_pos g]
      by_cases e:k=j
      ·subst e;simp
      ·rw [if_neg e,if_neg (by omega)]
     ·rw [if_neg g,if_neg y,if_neg g,if_neg (by omega)]
   ·rw [if_neg E,Tr.get_n,Tr.get_split t j]
    by_cases y:j=0
    ·subst y;rw [if_pos rfl,if_neg B,if_pos rfl]
    ·rw [if_neg y]
     by_cases g:j % 2=1
     ·rw [if_pos g,if_neg y,if_pos g,if_neg (by omega)]
     ·rw [if_neg g,D _ _ _ _ (by omega),if_neg y,if_neg g]
      by_cases e:k=j
      ·subst e;simp
      ·rw [if_neg e,if_neg (by omega)]
theorem get_ofArgs (args:List Value) (h:args.length≤4000) (j:Nat):(ofArgs args).get j=args.getD j undef:=by
 have key: ∀(l:List Value) (k:Nat) (t:Tr),k+l.length≤4000→ ∀j,(List.rec (motive:=fun _=>Nat→Tr→Tr) (fun _ t=>t) (fun v _ g k t=>g (Nat.add k 1) (t.put 12 k v)) l k t).get j=if k≤j∧j<k+l.length then l.getD (j - k) undef else t.get j:=by
  intro l
  induction l with
  |nil=>intro k t _ j;simp;omega
  |cons v l g=>
   intro k t I j
   have y:k+1+l.length≤4000:=by simp at I;omega
   have:=g (k+1) (t.put 12 k v) y j
   show (List.rec (motive:=fun _=>Nat→Tr→Tr) (fun _ t=>t) (fun v _ g k t=>g (Nat.add k 1) (t.put 12 k v)) l (k+1) (t.put 12 k v)).get j=_
   rw [this,Tr.get_put 12 t k v j (by omega)]
   simp only [List.length_cons]
   by_cases B:k=j
   ·subst B
    rw [if_neg (by omega),if_pos rfl,if_pos (by omega)]
    simp
   ·rw [if_neg B]
    by_cases D:k+1≤j∧j<k+1+l.length
    ·rw [if_pos D,if_pos (by omega)]
     obtain ⟨d,rfl⟩: ∃d,j=k+1+d:=⟨j - (k+1),by omega⟩
     rw [show k+1+d - (k+1)=d by omega,show k+1+d - k=d+1 by omega]
     simp
    ·rw [if_neg D,if_neg (by omega)]
 have:=key args 0 .e (by omega) j
 unfold ofArgs
 rw [this]
 by_cases E:j<args.length
 ·rw [if_pos (by omega)];simp
 ·rw [if_neg (by omega),Tr.get_e]
  simp [List.getD,List.getElem?_eq_none (Nat.le_of_not_lt E)]
def RelT (G:Nat) (φ:Phi) (m:Nat) (ts:Ts) (A:Act):Prop:=A.tmps.size=m∧m≤4000∧ ∀t,Rel G φ (ts.get t) (A.tmps.getD t undef)
theorem rel_undef {G:Nat} {φ:Phi}:Rel G φ undef undef:= .free (d:=1) rfl
theorem RelT.mono {G:Nat} {φ y:Phi} {m:Nat} {ts:Ts} {A:Act} (h:RelT G φ m ts A) (g:φ.le y):RelT G y m ts A:=⟨h.1,h.2.1,fun t=>(h.2.2 t).mono g⟩
theorem get_putT {m:Nat} {ts:Ts} {d:Option Tmp} {v:Value} (g:m≤4000) (t:Nat):(putT m ts d v).get t=if d=some t∧t<m then v else ts.get t:=by
 unfold putT
 cases d with
 |none=>simp
 |some d=>
  show (br (Nat.blt d m) (ts.put 12 d v) ts).get t=_
  by_cases h:d<m
  ·rw [show Nat.blt d m=true from Nat.ble_eq_true_of_le h]
   show (ts.put 12 d v).get t=_
   rw [Tr.get_put 12 ts d v t (Nat.le_trans (Nat.add_le_add_right (Nat.le_of_lt (Nat.lt_of_lt_of_le h g)) 2) (by decide))]
   by_cases e:d=t
   ·subst e;simp [h]
   ·simp [e]
  ·have y:Nat.blt d m=false:=by
    cases B:Nat.blt d m
    ·rfl
    ·exact absurd (blt_ok B) h
   rw [y]
   show ts.get t=_
   rw [if_neg]
   rintro ⟨e,D⟩
   cases e
   exact h D
theorem getD_put {A:Act} {d:Option Tmp} {V:Value} (t:Nat):(A.put d V).tmps.getD t undef=if d=some t∧t<A.tmps.size then V else A.tmps.getD t undef:=by
 unfold Act.put
 cases d with
 |none=>simp
 |some d=>
  simp only [Array.getD_eq_getD_getElem?]
  by_cases e:d=t
  ·subst e
   by_cases h:d<A.tmps.size
   ·simp [h]
   ·simp [h]
  ·rw [Array.getElem?_setIfInBounds_ne e]
   simp [e]
theorem RelT.put {G:Nat} {φ:Phi} {m:Nat} {ts:Ts} {A:Act} (h:RelT G φ m ts A) {v V:Value} (g:Rel G φ v V) (d:Option Tmp):RelT G φ m (putT m ts d v) (A.put d V):=by
 refine ⟨?_,h.2.1,fun t=> ?_⟩
 ·rw [←h.1];unfold Act.put;cases d<;>simp
 ·rw [get_putT h.2.1,getD_put,h.1]
  split
  ·exact g
  ·exact h.2.2 t
theorem Act.put_def (A:Act) (d:Option Tmp) (V:Value):(A.put d V).defers=A.defers:=by unfold Act.put;cases d<;>rfl
theorem operand_rel {G:Nat} {φ:Phi} {m:Nat} {ts:Ts} {A:Act} (h:RelT G φ m ts A) {x:Operand} (y:operandB G x=true):Rel G φ (ρ ts x) (A.eval x):=by
 cases x with
 |tmp t=>exact h.2.2 t
 |const v=>exact .free (d:=6) y
 |global g=>exact free_ptr (blt_ok y)
 |func f=>exact .free (d:=1) rfl
theorem consts_ok {G:Nat} {ops:Array Oper} (h:constsB G ops=true) {o:Oper} (g:o∈ops.toList) {x:Operand} (y:x∈o.op.operands):operandB G x=true:=by
 unfold constsB at h
 rw [List.all_eq_true] at h
 have:=h o g
 rw [List.all_eq_true] at this
 exact this x (by simpa using y)
theorem Rel.bool_inv {G:Nat} {φ:Phi} {v:Value} {b:Bool} (h:Rel G φ v (.bool b)):v= .bool b:=by
 cases h with
 |free _=>rfl
theorem want_ok {G:Nat} {φ:Phi} {ops:Array Oper} {o:Oper} {ts:Ts} {A:Act} (h: ∀j w d,o.guard=some (j,w)→(ops[j]?).bind (·.dst)=some d→Rel G φ (ts.get d) (A.tmps.getD d undef)):Region.wanted o (yielded ops A.tmps)=wantB ops ts o:=by
 unfold Region.wanted wantB
 cases I:o.guard with
 |none=>rfl
 |some p=>
  obtain ⟨j,w⟩:=p
  have e:yielded ops A.tmps j=yieldB ops ts j:=by
   unfold yielded yieldB
   cases D:(ops[j]?).bind (·.dst) with
   |none=>rfl
   |some d=>
    have g:=h j w d I D
    simp only [Option.bind_some]
    have E:A.tmps.getD d undef=(A.tmps[d]?).getD undef:=by simp
    rw [E] at g
    cases B:A.tmps[d]? with
    |none=>
     rw [B] at g
     cases y:ts.get d with
     |bool b=>rw [y] at g;have:=g.bool;simp [undef] at this
     |_=>rfl
    |some V=>
     rw [B] at g
     simp only [Option.getD_some] at g
     cases y:ts.get d with
     |bool b=>rw [y] at g;rw [g.bool]
     |_=>
      rw [y] at g
      cases V with
      |bool b=>have:=g.bool_inv;simp at this
      |_=>rfl
  simp only [e]
  cases yieldB ops ts j with
  |none=>simp
  |some b=>cases b<;>cases w<;>rfl
end

section
open Go Go.RowKit
section
variable {P:Program} {G base:Nat} {T:World→Prop}
def ExRel:Ex→Exit→Prop
 | .normal,.normal=>True
 | .exit i,.exit j=>i=j
 | .ret,.ret=>True
 |_,_=>False
def After (P:Program) (G base:Nat) (m:Nat) (φ:Phi) (st:St) (W:World) (A:Act) (ex:Ex) (ts':Ts) (st':St) (e:Exit) (h:Act) (W':World):Prop:=
 ExRel ex e∧ ∃g,Post P G base φ st W st' g W'∧RelT G g m ts' h∧h.defers=A.defers
abbrev FreshU (φ:Phi) (st:St):Prop:= ∀b,st.next≤b→φ b=none
theorem FreshU.post {φ g:Phi} {st st':St} {W W':World} (h:FreshU φ st) (B:Post P G base φ st W st' g W'):FreshU g st':=by
 intro b D
 cases e:g b with
 |none=>rfl
 |some x=>
  rcases B.new b x e with y|y
  ·rw [h b (Nat.le_trans B.next D)] at y;cases y
  ·omega
theorem Post.trans' {φ D g:Phi} {st st' y:St} {W W' B:World} (h:Post P G base φ st W st' D W') (E:FreshU φ st) (k:Post P G base D st' W' y g B):Post P G base φ st W y g B:=
 h.trans (fun b I _=>E b I) k
def Stays (base:Nat) (T:World→Prop):Prop:= ∀W W',Below base W W'→T W→T W'
def RecSound (P:Program) (G base:Nat) (T:World→Prop) (g:Rec):Prop:=
 ∀(m:Nat) (c:Code) (ts:Ts) (st:St) (ex:Ex) (ts':Ts) (st':St) (φ:Phi) (W:World) (A:Act),g m c ts st=some (ex,ts',st')→Inv P G base φ st W→base≤W.heap.size→T W→FreshU φ st→RelT G φ m ts A→
  c.wp P (After P G base m φ st W A ex ts' st') A W
theorem evOps_cons (callf:CallF) (m:Nat) (ops:Array Oper) (o:Oper) (l:List Oper) (ts:Ts) (st:St):
  evOps P G callf m ops (o::l) ts st=if wantB ops ts o=true then evOpsK m o (evOps P G callf m ops l) ts (evOp P G callf ts o st) else evOps P G callf m ops l (putT m ts o.dst undef) st:=by
 have e:evOps P G callf m ops (o::l) ts st=br (wantB ops ts o) (evOpsK m o (evOps P G callf m ops l) ts (evOp P G callf ts o st)) (evOps P G callf m ops l (putT m ts o.dst undef) st):=rfl
 rw [e]
 cases wantB ops ts o<;>rfl
theorem evOps_sound (hT:Stays base T) {callf:CallF} (Z:CallSound P G base T callf) {m:Nat} {ops:Array Oper} (hc:constsB G ops=true) {ts':Ts} {st':St} {I:Phi} {D:St} {L:World} {A0:Act} (h0:Inv P G base I D L) (O:base≤L.heap.size) (U:FreshU I D) (qa:T L)
  {Q:Exit→Act→World→Prop} (hQ: ∀E A' W',Post P G base I D L st' E W'→RelT G E m ts' A'→A'.defers=A0.defers→Q .normal A' W'):
  ∀(l:List Oper) (i:Nat) (ts:Ts) (st:St) (φ:Phi) (W:World) (A:Act),ops.toList.drop i=l→evOps P G callf m ops l ts st=some (ts',st')→Post P G base I D L st φ W→RelT G φ m ts A→A.defers=A0.defers→
   wpOps P ops Q (List.range' i l.length) A W:=by
 intro l
 induction l with
 |nil=>
  intro i ts st φ W A _ h J K X
  have h:some (ts,st)=some (ts',st'):=h
  cases h
  exact hQ φ A W J K X
 |cons o l ih=>
  intro i ts st φ W A g h J K X
  have S:ops[i]? =some o:=by
   have h1:(ops.toList.drop i)[0]? =some o:=by rw [g];rfl
   rw [List.getElem?_drop] at h1
   simpa using h1
  have M:o∈ops.toList:=by
   have:o∈ops.toList.drop i:=by rw [g];simp
   exact List.mem_of_mem_drop this
  have y:ops.toList.drop (i+1)=l:=by
   have:(ops.toList.drop i).drop 1=l:=by rw [g];rfl
   rwa [List.drop_drop] at this
  have hw:=want_ok (G:=G) (φ:=φ) (ops:=ops) (o:=o) (ts:=ts) (A:=A) fun j w d _ _=>K.2.2 d
  have Y:base≤W.heap.size:=Nat.le_trans O J.size
  have qb:T W:=hT L W (J.below h0 O) qa
  rw [evOps_cons] at h
  simp only [List.length_cons,List.range'_succ,wpOps,S]
  rw [hw]
  by_cases B:wantB ops ts o=true
  ·rw [if_pos B] at h ⊢
   unfold evOpsK at h
   split at h
   ·rename_i v qc he
    refine .inl (op_sound J.inv Y Z qb he (fun b hb=>(U.post J) b hb) (fun x hx=>operand_rel K (consts_ok hc M hx)) fun E V W' N hv=> ?_)
    exact ih (i+1) _ _ E W' _ y h (J.trans' U N) ((K.mono N.le).put hv _) ((Act.put_def _ _ _).trans X)
   ·cases h
  ·rw [if_neg B] at h ⊢
   exact ih (i+1) _ _ φ W _ y h J (K.put rel_undef _) ((Act.put_def _ _ _).trans X)
def OrcSound (P:Program) (G base:Nat) (T:World→Prop) (orc:Orc):Prop:=
 ∀(g:FuncId) (args:List Value) (st:St) (v:Value) (φ:Phi) (W:World) (Args:Array Value),orc g args st.heap=some v→Inv P G base φ st W→base≤W.heap.size→T W→RelL G φ args Args.toList→
  CallR P g Args W fun V W'=>Rel G φ v V∧Below W.heap.size W W'
def NoNum (P:Program):Prop:= ∀(g:FuncId) (fn:Func),P.funcs[g]? =some fn→(fn.name== "runtime.NumGoroutine")=false
theorem below_post {φ:Phi} {st:St} {W W':World} (g:Inv P G base φ st W) (h:Below W.heap.size W W'):Post P G base φ st W st φ W':=by
 refine ⟨.rfl,fun _ _ h=> .inl h,fun b r y J D=>(by rw [J] at D;cases D),?_,Nat.le_refl _,Nat.le_refl _,fun _ _ _=>rfl,fun r E _=>h.block r E,h.size,h.os,h.tape,h.output⟩
 exact ⟨fun b r y B=>by have:=g.dom b r y B;exact ⟨this.1,this.2.1,Nat.lt_of_lt_of_le this.2.2 h.size⟩,g.wf,g.srt,fun b o r y I B=>(g.obj b o r y I B).mono .rfl (h.block r (g.dom b r y B).2.2),g.inj,g.low⟩
theorem cut_post {φ D:Phi} {st st':St} {W W':World} (g:Post P G base φ st W st' D W'):Post P G base φ st W ⟨cutB st'.heap st.next,st'.next,st'.low⟩ D W':=by
 have B:=g.inv
 have y: ∀c o,look (cutB st'.heap st.next) c=some o→look st'.heap c=some o:=fun c o h=>by
  rw [look_cutB B.srt] at h
  split at h
  ·exact h
  ·cases h
 refine ⟨g.le,g.new,g.newr,?_,g.next,g.low,?_,g.frame,g.size,g.os,g.tape,g.output⟩
 ·exact ⟨B.dom,fun c o h=>B.wf c o (y c o h),B.srt.sublist (sub_cutB _ _),fun c o r I h=>B.obj c o r I (y c o h),fun c d o q r I l K L=>B.inj c d o q r I l (y c o K) (y d q L),B.low⟩
 ·intro c J E
  show look (cutB st'.heap st.next) c=_
  rw [look_cutB B.srt,if_pos J]
  exact g.same c J E
theorem low_post {φ D:Phi} {st st':St} {W W':World} (g:Post P G base φ ⟨st.heap,st.next,st.next⟩ W st' D W'):Post P G base φ st W ⟨st'.heap,st'.next,Nat.min st.low st'.low⟩ D W':=by
 have y:Nat.min st.low st'.low≤st'.low:=Nat.min_le_right _ _
 refine ⟨g.le,g.new,?_,⟨g.inv.dom,g.inv.wf,g.inv.srt,g.inv.obj,g.inv.inj,g.inv.low⟩,g.next,Nat.min_le_left _ _,fun b I S=>g.same b I (Nat.lt_of_lt_of_le S y),fun r Q B=>g.frame r Q fun b K I L=>Nat.lt_of_lt_of_le (B b K I L) y,g.size,g.os,g.tape,g.output⟩
 intro b r K M O
 rcases g.newr b r K M O with h|⟨c,l,N,J,E⟩
 ·exact .inl h
 ·exact .inr ⟨c,l,N,Nat.le_trans y J,E⟩
theorem Inv.mark {φ:Phi} {st:St} {W:World} (h:Inv P G base φ st W) (l:Nat):Inv P G base φ ⟨st.heap,st.next,l⟩ W:=⟨h.dom,h.wf,h.srt,h.obj,h.inj,h.low⟩
def resF (A:Act) (x:ResultVar):Sem Value:=
 match x with
 | .tmp t=>pure (A.tmps.getD t undef)
 | .cell a t=>do loadVar t (←asAddr (A.tmps.getD a undef))
theorem resB_ok {φ:Phi} {st:St} {W:World} (K:Inv P G base φ st W) {m:Nat} {ts:Ts} {A:Act} (I:RelT G φ m ts A): ∀{rs:List ResultVar} {l:List Value},resB P st.heap ts rs=some l→
  ∃L,RelL G φ l L∧(rs.mapM (resF A)).run P W= .ok L W:=by
 intro rs
 induction rs with
 |nil=>intro l h;simp only [resB] at h;cases h;exact ⟨[],.nil,rfl⟩
 |cons x rs J=>
  intro l h
  cases x with
  |tmp t=>
   simp only [resB] at h
   split at h
   ·rename_i r y
    cases h
    obtain ⟨L,E,g⟩:=J y
    refine ⟨_,.cons (I.2.2 t) E,?_⟩
    have D:(resF A (.tmp t)).run P W= .ok (A.tmps.getD t undef) W:=rfl
    simp only [List.mapM_cons,Sem.run_bind,Sem.run_pure,Result.andThen_ok,D,g]
   ·cases h
  |cell a t=>
   simp only [resB] at h
   split at h
   ·rename_i v r M y
    cases h
    obtain ⟨L,E,g⟩:=J y
    obtain ⟨V,N,Q,O,B⟩:=loadB_ok K M (I.2.2 a)
    refine ⟨_,.cons N E,?_⟩
    have D:(resF A (.cell a t)).run P W= .ok V W:=by simp [resF,O,asAddr,B]
    simp only [List.mapM_cons,Sem.run_bind,Sem.run_pure,Result.andThen_ok,D,g]
   ·cases h
theorem results_ok {φ:Phi} {st:St} {W:World} (D:Inv P G base φ st W) {m:Nat} {ts:Ts} {A:Act} (I:RelT G φ m ts A) {fn:Func} {l:List Value} (h:resB P st.heap ts fn.results.toList=some l):
  ∃V,Rel G φ (retB l) V∧(results fn A.tmps).run P W= .ok V W:=by
 obtain ⟨L,g,y⟩:=resB_ok D I h
 have e:(results fn A.tmps).run P W= .ok (if h:L.toArray.size=1 then L.toArray[0] else .tuple L.toArray) W:=by
  unfold results
  rw [Array.mapM_eq_mapM_toList]
  change Sem.run P (do
   let vs ←List.toArray<$>List.mapM (resF A) fn.results.toList
   pure (if h:vs.size=1 then vs[0] else .tuple vs)) W=_
  simp only [Sem.run_bind,Sem.run_map,y,Result.andThen_ok]
  rfl
 rw [e]
 match l,g with
 |[],g=>rw [g.nil_inv];exact ⟨_,Rel.tupleL (l:=[]) (L:=[]) .nil,rfl⟩
 |[v],g=>
  obtain ⟨V,K,rfl,E,B⟩:=g.cons_inv
  rw [B.nil_inv]
  exact ⟨V,E,rfl⟩
 |v::w::l,g=>
  have J: ¬(L.toArray.size=1):=by
   have:=g.1
   simp at this ⊢
   omega
  rw [dif_neg J]
  exact ⟨_,Rel.tupleL g,rfl⟩
theorem evEnter_sound (_hT:Stays base T) (hN:NoNum P) {L:Rec} (Q:RecSound P G base T L) {g:FuncId} {args:List Value} {st:St} {v:Value} {st':St} {φ:Phi} {W:World} {Args:Array Value}
  (h:evEnter P G L g args st=some (v,st')) (hi:Inv P G base φ st W) (hb:base≤W.heap.size) (qh:T W) (hf:FreshU φ st) (ha:RelL G φ args Args.toList):
  (callFunc g Args).run P W= .ok (.enter g Args) W∧Calls P g Args W fun e W'=> ∃V,e= .returned V∧ ∃B,Post P G base φ st W st' B W'∧Rel G B v V:=by
 unfold evEnter at h
 split at h
 ·cases h
 ·rename_i fn M
  split at h
  ·cases h
  ·rename_i U D
   split at h
   ·rename_i hc
    rw [Bool.and_eq_true] at hc
    have qj:=Nat.le_of_ble_eq_true hc.1
    have qc:=Nat.le_of_ble_eq_true hc.2
    refine ⟨?_,?_⟩
    ·have hn:=hN g fn M
     have qi:fn.body.isNone=false:=by rw [D];rfl
     have qe: ¬fn.name= "runtime.NumGoroutine" :=by simpa using hn
     simp [callFunc,M,qe,D]
    ·have J:Args.size=args.length:=by rw [ha.1];simp
     have qf:RelT G φ fn.ntmps (ofArgs args) {tmps:=Args++Array.replicate (fn.ntmps - Args.size) undef,defers:=[]}:=by
      refine ⟨by simp;omega,qc,fun t=> ?_⟩
      rw [get_ofArgs args (by omega)]
      show Rel G φ _ ((Args++Array.replicate (fn.ntmps - Args.size) undef).getD t undef)
      by_cases Y:t<args.length
      ·have h1:=ha.2 t Y
       have h2:(Args++Array.replicate (fn.ntmps - Args.size) undef).getD t undef=Args.toList.getD t undef:=by
        simp [Array.getD_eq_getD_getElem?,Array.getElem?_append,J,Y,List.getD]
       rw [h2]
       exact h1
      ·have h1:args.getD t undef=undef:=by simp [List.getD,List.getElem?_eq_none (Nat.le_of_not_lt Y)]
       have h2:(Args++Array.replicate (fn.ntmps - Args.size) undef).getD t undef=undef:=by
        simp only [Array.getD_eq_getD_getElem?,Array.getElem?_append,J,if_neg Y,Array.getElem?_replicate]
        split<;>rfl
       rw [h1,h2]
       exact rel_undef
     generalize K:L fn.ntmps U (ofArgs args) ⟨st.heap,st.next,st.next⟩=qg at h
     have fin: ∀(ex:Ex) (N:Ts) (y:St),qg=some (ex,N,y)→(ex= .normal∨ex= .ret)→(match resB P y.heap N fn.results.toList with
       |some l=>match pf G 6 (retB l)&&Nat.ble st.next y.low with
        |true=>some (retB l,(⟨cutB y.heap st.next,y.next,Nat.min st.low y.low⟩:St))
        |false=>some (retB l,⟨y.heap,y.next,Nat.min st.low y.low⟩)
       |none=>none)=some (v,st')→Calls P g Args W fun e W'=> ∃V,e= .returned V∧ ∃B,Post P G base φ st W st' B W'∧Rel G B v V:=by
      intro ex N y qb qa h
      rw [qb] at K
      have qd:=Q _ _ _ _ _ _ _ φ W _ K (hi.mark _) hb qh hf qf
      refine calls_of_wp M D (Code.wp_mono ?_ qd)
      rintro e A' W' ⟨he,B,hp,S,hd⟩
      split at h
      ·rename_i l hl
       obtain ⟨V,Z,E⟩:=results_ok hp.inv S hl
       have X:=low_post hp
       have key: ∃V,(results fn A'.tmps).run P W'= .ok V W'∧ ∃I,Post P G base φ st W st' I W'∧Rel G I v V:=by
        split at h
        ·rename_i hq
         cases h
         exact ⟨V,E,B,cut_post X,Z⟩
        ·cases h
         exact ⟨V,E,B,X,Z⟩
       obtain ⟨V,E,I,O,Z⟩:=key
       rcases qa with rfl|rfl<;>cases e<;>first|exact he.elim|exact ⟨hd,V,E,V,rfl,I,O,Z⟩
      ·cases h
     unfold evRet at h
     split at h
     ·exact fin _ _ _ rfl (.inl rfl) h
     ·exact fin _ _ _ rfl (.inr rfl) h
     ·cases h
   ·cases h
end
end

section
open Go Go.RowKit
section
variable {P:Program} {G base:Nat} {T:World→Prop}
def DrawnSound (P:Program) (G base:Nat) (T:World→Prop) (callf:CallF):Prop:=
 ∀(m:Nat) (ops:Array Oper) (ts:Ts) (st:St) (ts':Ts) (st':St) (φ:Phi) (W:World) (A:Act) (id:Nat),constsB G ops=true→regionB ops=true→evDraw P G callf m ops ts st=some (ts',st')→
  Inv P G base φ st W→base≤W.heap.size→T W→FreshU φ st→RelT G φ m ts A→(Code.region id ops true).wp P (After P G base m φ st W A .normal ts' st') A W
theorem callF_sound (U:Stays base T) (Z:NoNum P) {orc:Orc} (Y:OrcSound P G base T orc) {y:Rec} (E:RecSound P G base T y):CallSound P G base T (evCallF P G orc y):=by
 intro g args st v st' φ W Args h J K I X L
 unfold evCallF at h
 split at h
 ·rename_i v' Q
  cases h
  rcases Y g args st v φ W Args Q J K I L with ⟨V,W',B,D,M⟩|⟨f,N,B,D⟩
  ·exact .inl ⟨V,W',B,φ,below_post J M,D⟩
  ·refine .inr ⟨f,N,B,Calls.mono D ?_⟩
   rintro e W' ⟨V,he,S,O⟩
   exact ⟨V,he,φ,below_post J O,S⟩
 ·obtain ⟨B,D⟩:=evEnter_sound U Z E h J K I X L
  exact .inr ⟨g,Args,B,D⟩
theorem range_zero (n:Nat):List.range n=List.range' 0 n:=List.range_eq_range'
theorem seq_next (hT:Stays base T) {I:Rec} {m:Nat} {st:St} {ex:Ex} {ts':Ts} {st':St} {φ:Phi} {W:World} {A:Act} (hi:Inv P G base φ st W) (hb:base≤W.heap.size) (Z:T W) (hf:FreshU φ st) (J:RecSound P G base T I):
  ∀(b:Code) (r:ResC),evSeq I m b r=some (ex,ts',st')→(∃E y g,r=some (E,y,g)∧ ∀e B W1,After P G base m φ st W A E y g e B W1→
   match e with
   | .normal=>b.wp P (After P G base m φ st W A ex ts' st') B W1
   |e=>After P G base m φ st W A ex ts' st' e B W1):=by
 intro b r h
 unfold evSeq at h
 split at h
 ·rename_i y g
  refine ⟨.normal,y,g,rfl,?_⟩
  rintro e B W1 ⟨K,L,D,N,Y⟩
  cases e<;>first|exact K.elim|skip
  have hw:=J _ _ _ _ _ _ _ L W1 B h D.inv (Nat.le_trans hb D.size) (hT W W1 (D.below hi hb) Z) (hf.post D) N
  refine Code.wp_mono ?_ hw
  rintro e A2 W2 ⟨M,O,U,S,Q⟩
  exact ⟨M,O,D.trans' hf U,S,Q.trans Y⟩
 ·rename_i X
  refine ⟨ex,ts',st',h,?_⟩
  intro e B W1 ha
  cases e with
  |normal=>
   have K:=ha.1
   cases ex with
   |normal=>exact absurd h (X _ _)
   |_=>exact K.elim
  |_=>exact ha
theorem codeD_sound (hT:Stays base T) (hN:NoNum P) {orc:Orc} (ho:OrcSound P G base T orc) {B:Rec} (y:RecSound P G base T B) (hd:DrawnSound P G base T (evCallF P G orc B))
  (S: ∀(m:Nat) (b:Code) (ts:Ts) (st:St) (ex:Ex) (ts':Ts) (st':St) (φ:Phi) (W:World) (A:Act),codeD (.loop b) P G orc B m ts st=some (ex,ts',st')→Inv P G base φ st W→base≤W.heap.size→T W→FreshU φ st→RelT G φ m ts A→
   (Code.loop b).wp P (After P G base m φ st W A ex ts' st') A W):
  RecSound P G base T fun m c ts st=>codeD c P G orc B m ts st:=by
 intro m c ts st ex ts' st' φ W A h E L D M I
 have qe:=callF_sound hT hN ho y
 have next:=seq_next hT (m:=m) (A:=A) E L D M y (ex:=ex) (ts':=ts') (st':=st')
 cases c with
 |skip=>
  have h:some (Ex.normal,ts,st)=some (ex,ts',st'):=h
  cases h
  exact wp_skip ⟨trivial,φ,Post.refl E,I,rfl⟩
 |label l=>
  have h:some (Ex.normal,ts,st)=some (ex,ts',st'):=h
  cases h
  exact wp_label ⟨trivial,φ,Post.refl E,I,rfl⟩
 |exit id=>
  have h:some (Ex.exit id,ts,st)=some (ex,ts',st'):=h
  cases h
  exact wp_exit ⟨rfl,φ,Post.refl E,I,rfl⟩
 |ret=>
  have h:some (Ex.ret,ts,st)=some (ex,ts',st'):=h
  cases h
  exact wp_ret ⟨trivial,φ,Post.refl E,I,rfl⟩
 |seq a b=>
  have h:evSeq B m b (B m a ts st)=some (ex,ts',st'):=h
  obtain ⟨qh,Y,X,qd,hn⟩:=next b _ h
  refine wp_seq (Code.wp_mono ?_ (y _ _ _ _ _ _ _ φ W A qd E L D M I))
  intro e A1 W1 Z
  have:=hn e A1 W1 Z
  cases e<;>exact this
 |cond x a b=>
  have h:evCond B m a b (ρ ts x) ts st=some (ex,ts',st'):=h
  have N: ∀t,ρ ts x= .bool t→A.eval x= .bool t:=by
   intro t ht
   cases x with
   |tmp k=>have:=I.2.2 k;change ts.get k= .bool t at ht;rw [ht] at this;exact this.bool
   |const v=>exact ht
   |global g=>cases ht
   |func f=>cases ht
  unfold evCond at h
  split at h
  ·rename_i e;exact wp_cond_true (N _ e) (y _ _ _ _ _ _ _ φ W A h E L D M I)
  ·rename_i e;exact wp_cond_false (N _ e) (y _ _ _ _ _ _ _ φ W A h E L D M I)
  ·cases h
 |block id b=>
  have h:evBlock id (B m b ts st)=some (ex,ts',st'):=h
  unfold evBlock at h
  split at h
  ·rename_i k Y X O
   have hw:=y _ _ _ _ _ _ _ φ W A O E L D M I
   refine wp_block (Code.wp_mono ?_ hw)
   rintro e A1 W1 ⟨N,J⟩
   cases e<;>first|exact N.elim|skip
   rename_i j
   have N:k=j:=N
   subst N
   split at h
   ·rename_i U
    have U:=Nat.eq_of_beq_eq_true U
    cases h
    simp only [Exit.inBlock,U,if_true]
    exact ⟨trivial,J⟩
   ·rename_i U
    have U:k≠id:=Nat.ne_of_beq_eq_false U
    cases h
    simp only [Exit.inBlock,U,if_false]
    exact ⟨rfl,J⟩
  ·rename_i qf
   have hw:=y _ _ _ _ _ _ _ φ W A h E L D M I
   refine wp_block (Code.wp_mono ?_ hw)
   intro e A1 W1 Z
   cases e with
   |exit j=>
    have N:=Z.1
    cases ex with
    |exit k=>exact absurd h (qf _ _ _)
    |_=>exact N.elim
   |_=>exact Z
 |loop b=>exact S m b ts st ex ts' st' φ W A h E L D M I
 |scope b=>
  have h:B m b ts st=some (ex,ts',st'):=h
  refine wp_scope_straight (Code.wp_mono ?_ (y _ _ _ _ _ _ _ φ W A h E L D M I))
  intro e A1 W1 Z
  cases e with
  |goto l=>have:=Z.1;cases ex<;>exact this.elim
  |_=>exact Z
 |region id ops Q=>
  have h:evRegion P G orc B m ops Q ts st=some (ex,ts',st'):=h
  have hc:constsB G ops=true:=by
   cases hc:constsB G ops
   ·unfold evRegion at h;rw [hc] at h;cases h
   ·rfl
  unfold evRegion at h
  rw [hc] at h
  cases Q with
  |false=>
   simp only at h
   cases O:evOps P G (evCallF P G orc B) m ops ops.toList ts st with
   |none=>rw [O] at h;cases h
   |some r=>
    obtain ⟨Y,X⟩:=r
    rw [O] at h
    cases h
    refine wp_region ?_
    rw [range_zero]
    have qa:ops.size=ops.toList.length:=by simp
    rw [qa]
    exact evOps_sound hT qe hc E L M D (fun qg A' W' hp qb qc=>⟨trivial,qg,hp,qb,qc⟩) ops.toList 0 ts st φ W A (by simp) O (Post.refl E) I rfl
  |true=>
   simp only at h
   cases K:regionB ops with
   |false=>rw [K] at h;cases h
   |true=>
    rw [K] at h
    simp only at h
    cases O:evDraw P G (evCallF P G orc B) m ops ts st with
    |none=>rw [O] at h;cases h
    |some r=>
     obtain ⟨Y,X⟩:=r
     rw [O] at h
     cases h
     exact hd m ops ts st _ _ φ W A id hc K O E L D M I
 |_=>cases h
theorem least {p:Nat→Prop} (h: ∃n,p n): ∃n,p n∧ ∀k,k<n→ ¬p k:=by
 obtain ⟨n,E⟩:=h
 induction n using Nat.strongRecOn with
 |_ n D=>
  by_cases B: ∃k,k<n∧p k
  ·obtain ⟨k,y,g⟩:=B
   exact D k y g
  ·exact ⟨n,E,fun k y g=>B ⟨k,y,g⟩⟩
open Classical in
noncomputable def leastN (p:Nat→Prop):Nat:=if h: ∃n,p n then (least h).choose else 0
theorem leastN_le {p:Nat→Prop} {n:Nat} (h:p n):leastN p≤n:=by
 have g: ∃n,p n:=⟨n,h⟩
 unfold leastN
 rw [dif_pos g]
 have:=(least g).choose_spec
 rcases Nat.lt_or_ge n (least g).choose with B|y
 ·exact absurd h (this.2 n B)
 ·exact y
theorem leastN_spec {p:Nat→Prop} (h: ∃n,p n):p (leastN p):=by
 unfold leastN
 rw [dif_pos h]
 exact (least h).choose_spec.1
theorem ec_succ (orc:Orc) (n:Nat) (m:Nat) (c:Code) (ts:Ts) (st:St):ec P G orc (n+1) m c ts st=codeD c P G orc (ec P G orc n) m ts st:=rfl
theorem loop_sound (hT:Stays base T) {orc:Orc} {n:Nat} (X: ∀k,k≤n→RecSound P G base T (ec P G orc k)) (m:Nat) (b:Code) (ts:Ts) (st:St) (ex:Ex) (ts':Ts) (st':St) (φ:Phi) (W:World) (A:Act)
  (h:codeD (.loop b) P G orc (ec P G orc n) m ts st=some (ex,ts',st')) (hi:Inv P G base φ st W) (hb:base≤W.heap.size) (qe:T W) (hf:FreshU φ st) (hr:RelT G φ m ts A):
  (Code.loop b).wp P (After P G base m φ st W A ex ts' st') A W:=by
 let R:Act→World→Nat→Prop:=fun a w k=>k≤n+1∧ ∃D B g,ec P G orc k m (.loop b) D B=some (ex,ts',st')∧Post P G base φ st W B g w∧RelT G g m D a∧a.defers=A.defers
 refine wp_loop (fun a w=> ∃k,R a w k) (fun a w=>leastN (R a w)) ⟨n+1,Nat.le_refl _,ts,st,φ,h,Post.refl hi,hr,rfl⟩ ?_
 intro a w qa
 obtain ⟨hk,D,B,g,y,I,O,Q⟩:=leastN_spec qa
 generalize qf:leastN (R a w)=k at hk y
 cases k with
 |zero=>cases y
 |succ k=>
  have y:evSeq (ec P G orc k) m (.loop b) (ec P G orc k m b D B)=some (ex,ts',st'):=y
  have E:=X k (by omega)
  have U:base≤w.heap.size:=Nat.le_trans hb I.size
  have S:T w:=hT W w (I.below hi hb) qe
  have N:=hf.post I
  unfold evSeq at y
  split at y
  ·rename_i qc st2 qd
   refine Code.wp_mono ?_ (E _ _ _ _ _ _ _ g w a qd I.inv U S N O)
   rintro e Z w2 ⟨Y,J,M,L,K⟩
   cases e<;>first|exact Y.elim|skip
   have hR:R Z w2 k:=⟨by omega,qc,st2,J,y,I.trans' hf M,L,K.trans Q⟩
   refine ⟨⟨k,hR⟩,?_⟩
   have:=leastN_le hR
   show leastN (R Z w2)<k+1
   omega
  ·rename_i qb
   refine Code.wp_mono ?_ (E _ _ _ _ _ _ _ g w a y I.inv U S N O)
   rintro e Z w2 ⟨Y,J,M,L,K⟩
   have ha:After P G base m φ st W A ex ts' st' e Z w2:=⟨Y,J,I.trans' hf M,L,K.trans Q⟩
   cases e with
   |normal=>
    cases ex with
    |normal=>exact absurd y (qb _ _)
    |_=>exact Y.elim
   |_=>exact ha
theorem ec_sound (B:Stays base T) (I:NoNum P) {orc:Orc} (E:OrcSound P G base T orc) (D: ∀rec,RecSound P G base T rec→DrawnSound P G base T (evCallF P G orc rec)) (n:Nat):RecSound P G base T (ec P G orc n):=by
 induction n using Nat.strongRecOn with
 |_ n y=>
  cases n with
  |zero=>intro m c ts st ex ts' st' φ W A h;cases h
  |succ n=>
   have g:=y n (Nat.lt_succ_self n)
   exact codeD_sound B I E g (D _ g) (loop_sound B fun k J=>y k (by omega))
end
end

section
open Go Go.RowKit
section
variable {P:Program} {G base:Nat} {T:World→Prop}
theorem cellsAt_congr {g h:Hp} {a:Addr} (n:Nat) (e:look h a.block=look g a.block):cellsAt h a n=cellsAt g a n:=by
 unfold cellsAt;rw [e]
theorem loadB_congr {g h:Hp} {t:TypeId} {v:Value} (e:look h (blockOf v)=look g (blockOf v)):loadB P h t v=loadB P g t v:=by
 unfold loadB
 cases v with
 |pointer a=>
  cases a with
  |none=>rfl
  |some a=>
   have y:look h a.block=look g a.block:=e
   simp only [cellsAt_congr _ y]
 |_=>rfl
theorem kind_rd {ts:Ts} {o:Oper} {w:Bool} {b:Nat} (h:kindOf ts o.op w= .rd b):(∃t a,o.op= .load t a∧b=blockOf (ρ ts a))∨(∃g dst x a n c,o.op= .convert g dst x∧ρ ts x= .slice (some a) n c∧b=a.block):=by
 obtain ⟨d,op,ty,pos,after,y⟩:=o
 cases op<;>simp only [kindOf] at h<;>first|(cases w<;>simp at h;done)|skip
 case load t a=>cases h;exact .inl ⟨t,a,rfl,rfl⟩
 case convert g dst x=>
  split at h
  ·rename_i a n c B
   cases h
   exact .inr ⟨g,dst,x,a,n,c,rfl,B,rfl⟩
  ·cases w<;>simp at h
theorem rd_eval {callf:CallF} {ts:Ts} {o:Oper} {w:Bool} {b:Nat} (J:kindOf ts o.op w= .rd b) {st st2 s:St} {v:Value} (h:evOp P G callf ts o st=some (v,s)) (e:look st2.heap b=look st.heap b):
  s=st∧evOp P G callf ts o st2=some (v,st2):=by
 rcases kind_rd J with ⟨t,a,B,rfl⟩|⟨g,dst,x,a,n,c,B,L,rfl⟩
 ·unfold evOp at h ⊢
  rw [B] at h ⊢
  simp only [opD,hLoad,evLoad] at h ⊢
  rw [loadB_congr e]
  split at h
  ·cases h;exact ⟨rfl,rfl⟩
  ·cases h
 ·unfold evOp at h ⊢
  rw [B] at h ⊢
  simp only [opD,hConvert,L] at h ⊢
  have key: ∀st:St,evConvert P G g dst (.slice (some a) n c) st=(match P.underlying g,P.underlying dst with
   |some (.slice e),some .string=>match P.underlying e with|some (.int .u8)=>evToString a n st|_=>none
   |_,_=>none):=by
   intro st
   have K:evPure P G [.slice (some a) n c] (convert g dst (.slice (some a) n c)) st=none:=by
    unfold evPure
    simp [pf]
   unfold evConvert
   split
   ·rename_i h;cases h
   ·rename_i E O U Q I y D;cases D;rw [I,y];rfl
   ·rename_i h;cases h
   ·rename_i h;cases h
   ·rename_i I y D S
    rw [K]
    split
    ·rename_i E N;exact absurd rfl (y _ _ _ _ E N)
    ·rfl
  rw [key] at h ⊢
  have M: ∀k,cellsAt st2.heap a k=cellsAt st.heap a k:=fun k=>cellsAt_congr k e
  split at h
  ·split at h
   ·unfold evToString at h ⊢
    rw [M]
    split at h
    ·split at h
     ·cases h;exact ⟨rfl,rfl⟩
     ·cases h
    ·cases h
   ·cases h
  ·cases h
theorem kind_wr {ts:Ts} {o:Oper} {w:Bool} {b:Nat} (g:kindOf ts o.op w= .wr b): ∃t a x,o.op= .store t a x∧b=blockOf (ρ ts a):=by
 obtain ⟨d,op,ty,pos,after,h⟩:=o
 cases op<;>simp only [kindOf] at g<;>first|(cases w<;>simp at g;done)|skip
 case store t a x=>cases g;exact ⟨t,a,x,rfl,rfl⟩
 case convert y dst x=>
  split at g
  ·cases g
  ·cases w<;>simp at g
theorem wr_look {callf:CallF} {ts:Ts} {o:Oper} {w:Bool} {b:Nat} (B:kindOf ts o.op w= .wr b) {st s:St} {v:Value} (h:evOp P G callf ts o st=some (v,s)) (c:Nat) (y:c≠b):look s.heap c=look st.heap c:=by
 obtain ⟨t,a,x,I,rfl⟩:=kind_wr B
 unfold evOp at h
 rw [I] at h
 simp only [opD,hStore,evStore] at h
 split at h
 ·rename_i J n D K
  split at h
  ·split at h
   ·rename_i E g
    cases h
    unfold writeB at g
    split at g
    ·split at g
     ·cases g
      show look (putB st.heap J.block _) c=_
      rw [look_putB,if_neg]
      intro e
      rw [D] at y
      exact y e.symm
     ·cases g
    ·cases g
   ·cases h
  ·cases h
 ·cases h
theorem kind_quiet {ts:Ts} {o:Oper} {w:Bool} (g:kindOf ts o.op w= .quiet):w=false:=by
 obtain ⟨d,op,ty,pos,after,h⟩:=o
 cases w
 ·rfl
 ·cases op<;>simp only [kindOf] at g<;>first|cases g;done|skip
  case convert y dst x=>split at g<;>cases g
theorem kind_not_calm {ts:Ts} {o:Op} {w:Bool}:kindOf ts o w≠ .calm:=by
 cases o<;>simp only [kindOf]<;>first|(cases w<;>simp;done)|skip
 all_goals (split<;>first|(simp;done)|(cases w<;>simp;done))
theorem kind_not_new {ts:Ts} {o:Op} {w:Bool} {b:Nat}:kindOf ts o w≠ .new b:=by
 cases o<;>simp only [kindOf]<;>first|(cases w<;>simp;done)|skip
 all_goals (split<;>first|(simp;done)|(cases w<;>simp;done))
def NN (k:Kind):Prop:= ∀b,k≠ .new b
theorem masksB_acc: ∀(l:List Oper) (g:List Nat),∃r,masksB l g=g++r∧r.length=l.length
 |[],g=>⟨[],by simp [masksB],rfl⟩
 |o::l,g=>by
  obtain ⟨r,y,h⟩:=masksB_acc l (g++[maskB g o])
  exact ⟨maskB g o::r,by simp [masksB,y],by simp [h]⟩
theorem masksB_get: ∀(l:List Oper) (g:List Nat) (i:Nat) (o:Oper),l[i]? =some o→(masksB l g)[g.length+i]? =some (maskB ((masksB l g).take (g.length+i)) o)
 |[],g,i,o,h=>by simp at h
 |p::l,g,i,o,h=>by
  cases i with
  |zero=>
   simp at h
   subst h
   obtain ⟨r,y,_⟩:=masksB_acc l (g++[maskB g p])
   have e:masksB (p::l) g=g++([maskB g p]++r):=by simp [masksB,y]
   rw [e]
   simp
  |succ i=>
   have:=masksB_get l (g++[maskB g p]) i o (by simpa using h)
   simp only [List.length_append,List.length_cons,List.length_nil] at this
   rw [show g.length+(i+1)=g.length+(0+1)+i by omega]
   exact this
theorem maskB_bit (l:List Nat) (o:Oper) (j:Nat) (h:(maskB l o).testBit j=true): ∃e∈o.after,Region.binds .any e=true∧(j=e.on∨(l.getD e.on 0).testBit j=true):=by
 have key: ∀(y:List Edge) (s:Nat),(y.foldl (fun s e=>match Region.binds .any e with|true=>s|||2^e.on|||l.getD e.on 0|false=>s) s).testBit j=true→s.testBit j=true∨ ∃e∈y,Region.binds .any e=true∧(j=e.on∨(l.getD e.on 0).testBit j=true):=by
  intro y
  induction y with
  |nil=>intro s h;exact .inl h
  |cons e y I=>
   intro s h
   simp only [List.foldl_cons] at h
   rcases I _ h with g|⟨J,D,E⟩
   ·cases B:Region.binds .any e with
    |false=>rw [B] at g;exact .inl g
    |true=>
     rw [B] at g
     simp only [Nat.testBit_or,Bool.or_eq_true] at g
     rcases g with (g|g)|g
     ·exact .inl g
     ·refine .inr ⟨e,by simp,B,.inl ?_⟩
      rw [Nat.testBit_two_pow] at g
      simpa using (of_decide_eq_true g).symm
     ·exact .inr ⟨e,by simp,B,.inr g⟩
   ·exact .inr ⟨J,by simp [D],E⟩
 unfold maskB at h
 rcases key o.after.toList 0 h with g|⟨e,K,E⟩
 ·simp at g
 ·exact ⟨e,by simpa using K,E⟩
theorem anc_ok {ops:Array Oper} {p:Nat→Prop} (M: ∀(i:Nat) (o:Oper),ops[i]? =some o→ ∀e∈o.after,Region.binds .any e=true→e.on<i)
  (I: ∀(i:Nat) (o:Oper),ops[i]? =some o→p i→ ∀e∈o.after,Region.binds .any e=true→p e.on):
  ∀(i:Nat) (o:Oper),ops[i]? =some o→(∀e∈o.after,Region.binds .any e=true→p e.on)→ ∀j,ancB ops i j=true→p j∧j<i:=by
 intro i
 induction i using Nat.strongRecOn with
 |_ i S=>
  intro o L y j K
  have B:=masksB_get ops.toList [] i o (by simpa using L)
  simp only [List.length_nil,Nat.zero_add] at B
  unfold ancB at K
  have O:(masksB ops.toList []).getD i 0=maskB ((masksB ops.toList []).take i) o:=by simp [List.getD,B]
  rw [O] at K
  obtain ⟨e,N,J,h⟩:=maskB_bit _ _ _ K
  have g:=M i o L e N J
  rcases h with rfl|h
  ·exact ⟨y e N J,g⟩
  ·have U:((masksB ops.toList []).take i).getD e.on 0=(masksB ops.toList []).getD e.on 0:=by
    simp [List.getD,g]
   rw [U] at h
   have E:e.on<ops.size:=by
    have:=(Array.getElem?_eq_some_iff.1 L).1
    omega
   have D:ops[e.on]? =some ops[e.on]:=Array.getElem?_eq_getElem E
   obtain ⟨Q,X⟩:=S e.on g _ D (I _ _ D (y e N J)) j h
   exact ⟨Q,by omega⟩
structure StepR (P:Program) (G:Nat) (callf:CallF) (m:Nat) (ops:Array Oper) (n0:Nat) (tsF:Nat→Ts) (stF:Nat→St) (vF:Nat→Value) (kF:Nat→Kind) (j:Nat) (o:Oper):Prop where
 ts:tsF (j+1)=putT m (tsF j) o.dst (vF j)
 how:(wantB ops (tsF j) o=false∧vF j=undef∧stF (j+1)=stF j∧kF j= .calm)∨
  (wantB ops (tsF j) o=true∧calmT (tsF j) o.op=true∧(∃s,evOp P G callf (tsF j) o (stF j)=some (vF j,s))∧stF (j+1)=stF j∧kF j= .calm)∨
  (wantB ops (tsF j) o=true∧ ∃s,evOp P G callf (tsF j) o ⟨(stF j).heap,(stF j).next,(stF j).next⟩=some (vF j,s)∧kF j=kindOf (tsF j) o.op (!Nat.ble (stF j).next s.low)∧
   stF (j+1)=⟨s.heap,s.next,Nat.min (stF j).low s.low⟩∧(stF j).next≤s.next)∨
  (wantB ops (tsF j) o=true∧(∃e,allocB o.op=some e)∧vF j=ptrV (n0+j)∧stF (j+1)=stF j∧kF j= .new (n0+j))
def pairB (ops:Array Oper) (kF:Nat→Kind) (k j:Nat):Prop:=Kind.free (kF k) (kF j)=true∨(ancB ops j k=true∧NN (kF j))
theorem freeN_ok {k:Kind} {ks:List (Nat×Kind)} (h:freeN k ks=true): ∀p∈ks,Kind.free p.2 k=true:=fun p g=>List.all_eq_true.1 h p g
theorem freeB_ok {ops:Array Oper} {i:Nat} {k:Kind}: ∀{ks:List (Nat×Kind)},freeB ops i k ks=true→ ∀p∈ks,Kind.free p.2 k=true∨ancB ops i p.1=true
 |[],_,p,g=>by cases g
 |(j,c)::l,h,p,g=>by
  simp only [freeB,Bool.and_eq_true,Bool.or_eq_true] at h
  rcases List.mem_cons.1 g with rfl|g
  ·exact h.1
  ·exact freeB_ok h.2 p g
theorem free_calm_right (c:Kind):Kind.free c .calm=true:=by cases c<;>rfl
theorem free_calm_left (c:Kind):Kind.free .calm c=true:=by cases c<;>rfl
theorem drawn_run {callf:CallF} {m:Nat} {ops:Array Oper} {n0:Nat} {ts':Ts} {st':St}: ∀(l:List Oper) (i:Nat) (ks:List (Nat×Kind)) (ts:Ts) (st:St),ops.toList.drop i=l→evDrawn P G callf m ops n0 l i ks ts st=some (ts',st')→
  ∃(tsF:Nat→Ts) (stF:Nat→St) (vF:Nat→Value) (kF:Nat→Kind),tsF i=ts∧stF i=st∧tsF (i+l.length)=ts'∧stF (i+l.length)=st'∧
   ∀j o,i≤j→ops[j]? =some o→StepR P G callf m ops n0 tsF stF vF kF j o∧(∀p∈ks,Kind.free p.2 (kF j)=true∨(ancB ops j p.1=true∧NN (kF j)))∧ ∀k,i≤k→k<j→pairB ops kF k j:=by
 intro l
 induction l with
 |nil=>
  intro i ks ts st L h
  have h:some (ts,st)=some (ts',st'):=h
  cases h
  refine ⟨fun _=>ts',fun _=>st',fun _=>undef,fun _=> .calm,rfl,rfl,rfl,rfl,fun j o qb ho=> ?_⟩
  have K:j<ops.size:=(Array.getElem?_eq_some_iff.1 ho).1
  have X:ops.toList.length≤i:=by
   rcases Nat.lt_or_ge i ops.toList.length with h|h
   ·rw [List.drop_eq_getElem_cons h] at L;cases L
   ·exact h
  simp at X
  omega
 |cons o l ih=>
  intro i ks ts st L h
  have Q:ops[i]? =some o:=by
   have K:(ops.toList.drop i)[0]? =some o:=by rw [L];rfl
   rw [List.getElem?_drop] at K
   simpa using K
  have qa:ops.toList.drop (i+1)=l:=by
   have:(ops.toList.drop i).drop 1=l:=by rw [L];rfl
   rwa [List.drop_drop] at this
  have y: ∀(v:Value) (E:Kind) (B:St) (D:List (Nat×Kind)),evDrawn P G callf m ops n0 l (i+1) D (putT m ts o.dst v) B=some (ts',st')→(∀p∈ks,p∈D)→(E= .calm∨(i,E)∈D)→(∀p∈ks,Kind.free p.2 E=true∨(ancB ops i p.1=true∧NN E))→
    ((wantB ops ts o=false∧v=undef∧B=st∧E= .calm)∨(wantB ops ts o=true∧calmT ts o.op=true∧(∃s,evOp P G callf ts o st=some (v,s))∧B=st∧E= .calm)∨
     (wantB ops ts o=true∧ ∃s,evOp P G callf ts o ⟨st.heap,st.next,st.next⟩=some (v,s)∧E=kindOf ts o.op (!Nat.ble st.next s.low)∧B=⟨s.heap,s.next,Nat.min st.low s.low⟩∧st.next≤s.next)∨(wantB ops ts o=true∧(∃e,allocB o.op=some e)∧v=ptrV (n0+i)∧B=st∧E= .new (n0+i)))→
    ∃(tsF:Nat→Ts) (stF:Nat→St) (vF:Nat→Value) (kF:Nat→Kind),tsF i=ts∧stF i=st∧tsF (i+(o::l).length)=ts'∧stF (i+(o::l).length)=st'∧
     ∀j o,i≤j→ops[j]? =some o→StepR P G callf m ops n0 tsF stF vF kF j o∧(∀p∈ks,Kind.free p.2 (kF j)=true∨(ancB ops j p.1=true∧NN (kF j)))∧ ∀k,i≤k→k<j→pairB ops kF k j:=by
   intro v E B D S Z qd I how
   obtain ⟨tsF,stF,vF,kF,K,X,h3,h4,h5⟩:=ih (i+1) D _ _ qa S
   refine ⟨fun j=>if j=i then ts else tsF j,fun j=>if j=i then st else stF j,fun j=>if j=i then v else vF j,fun j=>if j=i then E else kF j,by simp,by simp,?_,?_,?_⟩
   ·simp only [List.length_cons]
    rw [if_neg (by omega),show i+(l.length+1)=i+1+l.length by omega]
    exact h3
   ·simp only [List.length_cons]
    rw [if_neg (by omega),show i+(l.length+1)=i+1+l.length by omega]
    exact h4
   ·intro j o' qb J
    by_cases M:j=i
    ·subst M
     rw [Q] at J
     cases J
     refine ⟨⟨?_,?_⟩,?_,fun k K X=>by omega⟩
     ·simp only [if_true]
      rw [if_neg (by omega)]
      exact K
     ·simp only [if_true]
      rw [if_neg (by omega),X]
      exact how
     ·simpa using I
    ·obtain ⟨hs,g,hk⟩:=h5 j o' (by omega) J
     refine ⟨⟨?_,?_⟩,?_,?_⟩
     ·simp only [if_neg M]
      rw [if_neg (by omega)]
      exact hs.ts
     ·simp only [if_neg M]
      rw [if_neg (by omega)]
      exact hs.how
     ·intro p qe
      simp only [if_neg M]
      exact g p (Z p qe)
     ·intro k qf Y
      unfold pairB
      simp only [if_neg M]
      by_cases U:k=i
      ·subst U
       simp only [if_true]
       rcases qd with rfl|hm
       ·exact .inl (free_calm_left _)
       ·exact g _ hm
      ·rw [if_neg U]
       exact hk k (by omega) Y
  simp only [evDrawn] at h
  split at h
  ·rename_i N
   split at h
   ·rename_i e qc
    split at h
    ·rename_i O
     exact y _ _ _ _ h (fun p g=>List.mem_cons_of_mem _ g) (.inr List.mem_cons_self) (fun p g=> .inl (freeN_ok O p g)) (.inr (.inr (.inr ⟨N,⟨e,qc⟩,rfl,rfl,rfl⟩)))
    ·cases h
   split at h
   ·rename_i hc
    split at h
    ·rename_i v s S
     exact y v .calm st ks h (fun p g=>g) (.inl rfl) (fun p _=> .inl (free_calm_right _)) (.inr (.inl ⟨N,hc,⟨s,S⟩,rfl,rfl⟩))
    ·cases h
   ·rename_i hc
    split at h
    ·rename_i v s S
     split at h
     ·rename_i O
      rw [Bool.and_eq_true] at O
      exact y v _ _ _ h (fun p g=>List.mem_cons_of_mem _ g) (.inr List.mem_cons_self) (fun p g=>(freeB_ok O.1 p g).imp_right fun h=>⟨h,fun _=>kind_not_new⟩) (.inr (.inr (.inl ⟨N,s,S,rfl,rfl,Nat.le_of_ble_eq_true O.2⟩)))
     ·cases h
    ·cases h
  ·rename_i N
   exact y undef .calm st ks h (fun p g=>g) (.inl rfl) (fun p _=> .inl (free_calm_right _)) (.inl ⟨N,rfl,rfl,rfl⟩)
end
end

section
open Go Go.RowKit
section
variable {P:Program} {G base:Nat} {T:World→Prop}
theorem wp_ends {o:Oper} {A:Act} {W:World} {K:Act→World→Prop} (h:o.wp P A W K fun _ _ _=>False): ∃a w,K a w:=by
 unfold Oper.wp Oper.upon at h
 split at h
 ·exact ⟨_,_,h⟩
 ·exact ⟨_,_,h⟩
 ·exact ⟨_,_,h⟩
 ·obtain ⟨e,y,D,g,_⟩:=h []
  cases e with
  |returned v=>exact ⟨_,_,g⟩
  |panicked c=>exact g.elim
  |outgrown=>obtain ⟨_,_,B⟩:=g;exact B.elim
 ·obtain ⟨v,y,g,_⟩:=h default []
  exact ⟨_,_,g⟩
 ·exact h.elim
 ·exact h.elim
theorem Inv.heap_eq {φ:Phi} {st:St} {W:World} (h:Inv P G base φ st W) (l:Nat):Inv P G base φ ⟨st.heap,st.next,l⟩ W:=h.mark l
theorem step_sound {callf:CallF} (N:CallSound P G base T callf) {m n0:Nat} {ops:Array Oper} {tsF:Nat→Ts} {stF:Nat→St} {vF:Nat→Value} {kF:Nat→Kind} {j:Nat} {o:Oper}
  (hs:StepR P G callf m ops n0 tsF stF vF kF j o) (M:NN (kF j)) {φ:Phi} {W:World} {A:Act} (S:Inv P G base φ (stF j) W) (J:base≤W.heap.size) (U:T W) (hf:FreshU φ (stF j)) (Y: ∀x∈o.op.operands,Rel G φ (ρ (tsF j) x) (A.eval x))
  (L:wantB ops (tsF j) o=true) {K:Act→World→Prop} {Q:Exit→Act→World→Prop} (k: ∀y V W',Post P G base φ (stF j) W (stF (j+1)) y W'→Rel G y (vF j) V→
   (kF j= .quiet→ ∀b,b<(stF j).next→look (stF (j+1)).heap b=look (stF j).heap b)→(stF j).next≤(stF (j+1)).next→K (A.put o.dst V) W'):o.wp P A W K Q:=by
 rcases hs.how with ⟨Z,_⟩|⟨_,hc,⟨s,O⟩,g,B⟩|⟨_,s,O,B,g,hn⟩|⟨_,_,_,_,B⟩
 ·rw [L] at Z;cases Z
 ·obtain ⟨_,V,hV,E⟩:=calmT_sound S.above hc O Y
  refine wp_value (E W) (k φ V W ?_ hV (fun h=>by rw [B] at h;cases h) ?_)
  ·rw [g];exact Post.refl S
  ·rw [g];exact Nat.le_refl _
 ·refine op_sound (S.mark _) J N U O (fun b J=>hf b J) Y fun y V W' X hv=> ?_
  refine k y V W' ?_ hv ?_ ?_
  ·rw [g];exact low_post X
  ·intro hq b D
   rw [g]
   have I:(stF j).next≤s.low:=by
    rw [hq] at B
    have L:=kind_quiet B.symm
    have:Nat.ble (stF j).next s.low=true:=by simpa using L
    exact Nat.le_of_ble_eq_true this
   exact X.same b D (Nat.lt_of_lt_of_le D I)
  ·rw [g];exact hn
 ·exact absurd B (M _)
theorem late_inv {φ:Phi} {s:St} {W:World} (g:Inv P G base φ s W) (Z:base≤W.heap.size) {b:Nat} (hf:φ b=none) {o:AObj} (U:look s.heap b=some o) (O:Obj) {M:Nat}
  (hO:ObjOk P G (φ.add b (W.heap.size,M)) M o (W.alloc O) W.heap.size):Inv P G base (φ.add b (W.heap.size,M)) s (W.alloc O):=by
 have S:(W.alloc O).heap.size=W.heap.size+1:=by simp
 have K: ∀r,r<W.heap.size→(W.alloc O).heap[r]? =W.heap[r]? :=fun r hr=>by
  show (W.heap.push O)[r]? =_
  rw [Array.getElem?_push,if_neg (by omega)]
 have N:=Phi.add_le (x:=(W.heap.size,M)) hf
 refine ⟨?_,g.wf,g.srt,?_,?_,g.low⟩
 ·intro c r κ' h
  unfold Phi.add at h
  split at h
  ·rename_i y;subst y;cases h;exact ⟨(g.wf _ _ U).1,Z,by rw [S];omega⟩
  ·have:=g.dom c r κ' h;exact ⟨this.1,this.2.1,by rw [S];omega⟩
 ·intro c q r κ' Q h
  by_cases y:c=b
  ·subst y
   rw [Phi.add_self] at h
   cases h
   rw [U] at Q
   cases Q
   exact hO
  ·have I:φ c=some (r,κ'):=by unfold Phi.add at h;rwa [if_neg y] at h
   exact (g.obj c q r κ' Q I).mono N (K r (g.dom c r κ' I).2.2)
 ·intro c d q X r κ' l Y h2 L D
  by_cases y:c=b
  ·by_cases E:d=b
   ·rw [y,E]
   ·have B:φ d=some (r,l):=by unfold Phi.add at D;rwa [if_neg E] at D
    rw [y,Phi.add_self] at L
    cases L
    have:=(g.dom d _ l B).2.2
    omega
  ·have J:φ c=some (r,κ'):=by unfold Phi.add at L;rwa [if_neg y] at L
   by_cases E:d=b
   ·rw [E,Phi.add_self] at D
    cases D
    have:=(g.dom c _ κ' J).2.2
    omega
   ·have B:φ d=some (r,l):=by unfold Phi.add at D;rwa [if_neg E] at D
    exact g.inj c d q X r κ' l Y h2 J B
theorem late_post {φ D:Phi} {st s:St} {W w:World} (g:Post P G base φ st W s D w) (N:base≤w.heap.size) {b:Nat} (K:D b=none) (M:st.next≤b) (U:b<s.next) {o:AObj} (Y:look s.heap b=some o) (O:Obj) {I:Nat}
  (S:ObjOk P G (D.add b (w.heap.size,I)) I o (w.alloc O) w.heap.size):Post P G base φ st W s (D.add b (w.heap.size,I)) (w.alloc O):=by
 have X:(w.alloc O).heap.size=w.heap.size+1:=by simp
 have y: ∀r,r<w.heap.size→(w.alloc O).heap[r]? =w.heap[r]? :=fun r J=>by
  show (w.heap.push O)[r]? =_
  rw [Array.getElem?_push,if_neg (by omega)]
 have E:=g.size
 refine ⟨g.le.trans (Phi.add_le K),?_,?_,late_inv g.inv N K Y O S,g.next,g.low,g.same,fun r J B=>(y r (by omega)).trans (g.frame r J B),by rw [X];omega,g.os,g.tape,g.output⟩
 ·intro c x h
  unfold Phi.add at h
  split at h
  ·rename_i Q;subst Q;exact .inr ⟨M,U⟩
  ·exact g.new c x h
 ·intro c r κ' h L
  unfold Phi.add at h
  split at h
  ·cases h;exact .inl E
  ·exact g.newr c r κ' h L
theorem alloc_run {e:TypeId} {z:Value} (D:zeroB P G e=some z) (φ:Phi) (b:Nat) (W:World):
  ∃O,ObjOk P G (φ.add b (W.heap.size,0)) 0 (.row z.cells.toList e false false) (W.alloc O) W.heap.size∧(Instr.alloc e true (.tuple #[])).run P W= .ok (.pointer (some ⟨W.heap.size,0,none⟩)) (W.alloc O):=by
 obtain ⟨i,y,g,h⟩:=zeroB_ok D
 have B:=row_new (P:=P) (e:=e) (Rel.free (φ:=φ.add b (W.heap.size,0)) h).cells.1 W
 simp only [Array.toArray_toList] at B
 refine ⟨_,B,?_⟩
 simp [Instr.alloc,zeroValue,typeInfo,y,g,newVar,newRow]
end
end

section
open Go Go.RowKit
section
variable {P:Program} {G base:Nat} {T:World→Prop}
theorem low_weaken {φ B:Phi} {st st':St} {W W':World} {l:Nat} (g:Post P G base φ st W st' B W') (D:l≤st'.low):Post P G base φ st W ⟨st'.heap,st'.next,l⟩ B W':=by
 refine ⟨g.le,g.new,?_,g.inv.mark l,g.next,Nat.le_trans D g.low,fun b J E=>g.same b J (Nat.lt_of_lt_of_le E D),fun r S y=>g.frame r S fun b L J M=>Nat.lt_of_lt_of_le (y b L J M) D,g.size,g.os,g.tape,g.output⟩
 intro b r L N Q
 rcases g.newr b r L N Q with h|⟨c,k,O,K,I⟩
 ·exact .inl h
 ·exact .inr ⟨c,k,O,Nat.le_trans D K,I⟩
theorem nodupB_ok: ∀{l:List Nat},nodupB l=true→l.Pairwise (· ≠ ·)
 |[],_=> .nil
 |x::l,h=>by
  simp only [nodupB,Bool.and_eq_true,Bool.not_eq_true'] at h
  refine List.pairwise_cons.2 ⟨fun y g e=> ?_,nodupB_ok h.2⟩
  have:l.any (Nat.beq x)=true:=List.any_eq_true.2 ⟨y,g,beq_yes e⟩
  rw [this] at h
  exact absurd h.1 (by simp)
structure RegOk (ops:Array Oper):Prop where
 dst: ∀(i j:Nat) (o p:Oper) (d:Tmp),ops[i]? =some o→ops[j]? =some p→o.dst=some d→p.dst=some d→i=j
 on: ∀(i:Nat) (o:Oper),ops[i]? =some o→ ∀e∈o.after,Region.binds .any e=true→e.on<i
 sees: ∀(i j:Nat) (o p:Oper) (d:Tmp),ops[i]? =some o→ops[j]? =some p→p.dst=some d→d∈o.looksAt ops→i≠j→ancB ops i j=true∨ancB ops j i=true
theorem regionB_ok {ops:Array Oper} (h:regionB ops=true):RegOk ops:=by
 unfold regionB at h
 rw [Bool.and_eq_true] at h
 obtain ⟨U,Y⟩:=h
 have I: ∀i,i<ops.size→_:=fun i K=>List.all_eq_true.1 Y i (List.mem_range.2 K)
 have L: ∀{i:Nat} {o:Oper},ops[i]? =some o→i<ops.size:=fun h=>(Array.getElem?_eq_some_iff.1 h).1
 refine ⟨?_,?_,?_⟩
 ·intro i j o p d B E D y
  have J:=List.pairwise_filterMap.1 (nodupB_ok U)
  have J:=List.pairwise_iff_getElem.1 J
  have key: ∀(i j:Nat) (o p:Oper),ops[i]? =some o→ops[j]? =some p→o.dst=some d→p.dst=some d→ ¬i<j:=by
   intro i j o p B E D y N
   have K:=L B
   have O:=L E
   have Q:ops.toList[i]'(by simpa using K)=o:=by
    have:=Array.getElem?_eq_getElem K
    rw [B] at this
    simpa using (Option.some.inj this).symm
   have Z:ops.toList[j]'(by simpa using O)=p:=by
    have:=Array.getElem?_eq_getElem O
    rw [E] at this
    simpa using (Option.some.inj this).symm
   have:=J i j (by simpa using K) (by simpa using O) N
   rw [Q,Z] at this
   exact this d D d y rfl
  rcases Nat.lt_trichotomy i j with h|h|h
  ·exact absurd h (key i j o p B E D y)
  ·exact h
  ·exact absurd h (key j i p o E B y D)
 ·intro i o B e he X
  have:=I i (L B)
  rw [B] at this
  simp only [Bool.and_eq_true] at this
  have g:=Array.all_eq_true_iff_forall_mem.1 this.1.1 e he
  rw [X] at g
  simp only [Bool.not_true,Bool.false_or] at g
  exact blt_ok g
 ·intro i j o p d B E y S M
  have:=I i (L B)
  rw [B] at this
  simp only [Bool.and_eq_true] at this
  have g:=List.all_eq_true.1 this.2 j (List.mem_range.2 (L E))
  rw [E] at g
  simp only [y,Bool.or_eq_true,Bool.not_eq_true'] at g
  rcases g with ((g|g)|g)|g
  ·have:(o.looksAt ops).any (Nat.beq d)=true:=List.any_eq_true.2 ⟨d,S,beq_yes rfl⟩
   rw [this] at g
   cases g
  ·exact absurd (Nat.eq_of_beq_eq_true g) M
  ·exact .inl g
  ·exact .inr g
def Firm:Kind→Prop
 | .quiet| .wr _| .any=>True
 |_=>False
theorem filter_lt {p q:Nat→Bool} {i:Nat}: ∀{l:List Nat},i∈l→p i=true→q i=false→(∀j,q j=true→p j=true)→(l.filter q).length<(l.filter p).length
 |x::l,h,E,I,g=>by
  have K:(l.filter q).length≤(l.filter p).length:=by
   clear h
   induction l with
   |nil=>exact Nat.le_refl _
   |cons y l J=>
    simp only [List.filter_cons]
    cases D:q y
    ·cases p y<;>simp<;>omega
    ·simp [g y D];exact J
  rcases List.mem_cons.1 h with rfl|h
  ·simp only [List.filter_cons,E,I]
   simp
   omega
  ·have:=filter_lt h E I g
   simp only [List.filter_cons]
   cases B:q x
   ·cases p x<;>simp<;>omega
   ·simp [g x B];exact this
theorem rd_live {callf:CallF} {ts:Ts} {o:Oper} {w:Bool} {b:Nat} (I:kindOf ts o.op w= .rd b) {st s:St} {v:Value} (h:evOp P G callf ts o st=some (v,s)): ∃q,look st.heap b=some q:=by
 cases L:look st.heap b with
 |some q=>exact ⟨q,rfl⟩
 |none=>
  exfalso
  obtain ⟨_,g⟩:=rd_eval (st2:=⟨[],st.next,st.low⟩) I h (by rw [L];rfl)
  rcases kind_rd I with ⟨t,a,E,rfl⟩|⟨D,dst,x,a,n,c,E,K,rfl⟩
  ·unfold evOp at g
   rw [E] at g
   simp only [opD,hLoad,evLoad,loadB] at g
   have B: ∀(a:Addr) (n:Nat),cellsAt [] a n=none:=by
    intro a n
    unfold cellsAt
    split
    ·rfl
    ·rfl
   simp only [B] at g
   split at g
   ·rename_i y
    split at y
    ·split at y<;>cases y
    ·cases y
   ·cases g
  ·have B: ∀(a:Addr) (n:Nat),cellsAt [] a n=none:=by
    intro a n
    unfold cellsAt
    split
    ·rfl
    ·rfl
   have J:evPure P G [.slice (some a) n c] (convert D dst (.slice (some a) n c)) ⟨[],st.next,st.low⟩=none:=by
    unfold evPure
    simp [pf]
   unfold evOp at g
   rw [E] at g
   simp only [opD,hConvert,K] at g
   unfold evConvert at g
   split at g
   ·rename_i e;cases e
   ·split at g
    ·unfold evToString at g
     rw [B] at g
     cases g
    ·cases g
   ·rename_i e;cases e
   ·rename_i e;cases e
   ·rw [J] at g;cases g
end
end

section
open Go Go.RowKit
section
variable {P:Program} {G base:Nat} {T:World→Prop}
theorem firm_not {k:Kind} (h: ¬Firm k):k= .calm∨(∃b,k= .rd b)∨ ∃b,k= .new b:=by
 cases k with
 |calm=>exact .inl rfl
 |rd b=>exact .inr (.inl ⟨b,rfl⟩)
 |new b=>exact .inr (.inr ⟨b,rfl⟩)
 |_=>exact absurd trivial h
theorem firm_pair {k l:Kind} (h:Firm k) (g:Firm l):Kind.free k l=false:=by
 cases k<;>first|exact h.elim|skip
 all_goals cases l<;>first|exact g.elim|rfl
theorem new_pair {k:Kind} {b:Nat} (h:Firm k) (g:Kind.free k (.new b)=true∨Kind.free (.new b) k=true):k= .quiet∨ ∃c,k= .wr c∧b≠c:=by
 cases k with
 |calm=>exact h.elim
 |rd b=>exact h.elim
 |new b=>exact h.elim
 |quiet=>exact .inl rfl
 |any=>rcases g with h|h<;>cases h
 |wr c=>
  refine .inr ⟨c,rfl,?_⟩
  rintro rfl
  rcases g with h|h
  ·simp only [Kind.free,beq_yes rfl] at h;cases h
  ·simp only [Kind.free,beq_yes rfl] at h;cases h
theorem rd_pair {k:Kind} {b:Nat} (h:Firm k) (g:Kind.free k (.rd b)=true∨Kind.free (.rd b) k=true):k= .quiet∨ ∃c,k= .wr c∧b≠c:=by
 cases k with
 |calm=>exact h.elim
 |rd b=>exact h.elim
 |new b=>exact h.elim
 |quiet=>exact .inl rfl
 |any=>rcases g with h|h<;>cases h
 |wr c=>
  refine .inr ⟨c,rfl,?_⟩
  rintro rfl
  rcases g with h|h
  ·simp only [Kind.free,beq_yes rfl] at h;cases h
  ·simp only [Kind.free,beq_yes rfl] at h;cases h
theorem step_look {callf:CallF} {m n0:Nat} {ops:Array Oper} {tsF:Nat→Ts} {stF:Nat→St} {vF:Nat→Value} {kF:Nat→Kind} {j:Nat} {o:Oper} (L:StepR P G callf m ops n0 tsF stF vF kF j o)
  (K:kF j= .quiet→ ∀b,b<(stF j).next→look (stF (j+1)).heap b=look (stF j).heap b) {b:Nat} (I:b<(stF j).next) (g:Kind.free (kF j) (.new b)=true):look (stF (j+1)).heap b=look (stF j).heap b:=by
 rcases L.how with ⟨_,_,h,_⟩|⟨_,_,_,h,_⟩|⟨_,s,E,y,D,_⟩|⟨_,_,_,h,_⟩
 ·rw [h]
 ·rw [h]
 ·cases B:kF j with
  |calm=>rw [B] at y;exact absurd y.symm kind_not_calm
  |new c=>rw [B] at y;exact absurd y.symm kind_not_new
  |rd c=>
   rw [B] at y
   obtain ⟨J,_⟩:=rd_eval (st2:=⟨(stF j).heap,(stF j).next,(stF j).next⟩) y.symm E rfl
   rw [D,J]
  |quiet=>exact K B b I
  |any=>rw [B] at g;cases g
  |wr c=>
   rw [B] at y g
   rw [D]
   refine wr_look y.symm E b ?_
   rintro rfl
   simp only [Kind.free,beq_yes rfl] at g
   cases g
 ·rw [h]
theorem lex_facts (hT:Stays base T) {callf:CallF} (qi:CallSound P G base T callf) {m n0:Nat} {ops:Array Oper} (hc:constsB G ops=true) {tsF:Nat→Ts} {stF:Nat→St} {vF:Nat→Value} {kF:Nat→Kind}
  (hs: ∀j o,ops[j]? =some o→StepR P G callf m ops n0 tsF stF vF kF j o) (qc: ∀j o,ops[j]? =some o→ ∀k,k<j→pairB ops kF k j) (h0:(stF 0).next=n0+ops.size)
  (qg: ∀j o e,ops[j]? =some o→allocB o.op=some e→ ∃z,zeroB P G e=some z∧look (stF 0).heap (n0+j)=some (.row z.cells.toList e false false))
  {φ:Phi} {W:World} {A:Act} (hi:Inv P G base φ (stF 0) W) (hb:base≤W.heap.size) (qj:T W) (hf:FreshU φ (stF 0)) (hn: ∀k,k<ops.size→φ (n0+k)=none) (hr:RelT G φ m (tsF 0) A):
  ∀j,j≤ops.size→(∃E W' A',Inv P G base E (stF j) W'∧base≤W'.heap.size∧T W'∧FreshU E (stF j)∧RelT G E m (tsF j) A'∧(∀k,j≤k→k<ops.size→E (n0+k)=none)∧(stF 0).next≤(stF j).next∧
    (∀k,j≤k→k<ops.size→kF k= .new (n0+k)→look (stF j).heap (n0+k)=look (stF 0).heap (n0+k)))∧
   ∀i,i<j→(kF i= .quiet→ ∀b,b<(stF i).next→look (stF (i+1)).heap b=look (stF i).heap b)∧(stF i).next≤(stF (i+1)).next:=by
 intro j
 induction j with
 |zero=>intro _;exact ⟨⟨φ,W,A,hi,hb,qj,hf,hr,fun k _ h=>hn k h,Nat.le_refl _,fun _ _ _ _=>rfl⟩,fun i h=>by omega⟩
 |succ j ih=>
  intro hj
  obtain ⟨⟨E,W',A',Z,I,N,Q,S,Y,M,qh⟩,X⟩:=ih (by omega)
  have ho:ops[j]? =some ops[j]:=Array.getElem?_eq_getElem (by omega)
  have D:=hs j _ ho
  have qe:ops[j]∈ops.toList:=by simp
  have qb:(kF j= .quiet→ ∀b,b<(stF j).next→look (stF (j+1)).heap b=look (stF j).heap b)→ ∀k,j+1≤k→k<ops.size→kF k= .new (n0+k)→look (stF (j+1)).heap (n0+k)=look (stF 0).heap (n0+k):=by
   intro hq k J B qd
   rw [←qh k (by omega) B qd]
   refine step_look D hq (by omega) ?_
   rcases qc k _ (Array.getElem?_eq_getElem B) j (by omega) with h|h
   ·rw [qd] at h;exact h
   ·exact absurd qd (h.2 _)
  have fin:(∃g y L,Inv P G base g (stF (j+1)) y∧base≤y.heap.size∧T y∧FreshU g (stF (j+1))∧RelT G g m (tsF (j+1)) L∧(∀k,j+1≤k→k<ops.size→g (n0+k)=none)∧(stF 0).next≤(stF (j+1)).next)∧
    (kF j= .quiet→ ∀b,b<(stF j).next→look (stF (j+1)).heap b=look (stF j).heap b)∧(stF j).next≤(stF (j+1)).next:=by
   by_cases hw:wantB ops (tsF j) ops[j]=true
   ·by_cases U:NN (kF j)
    ·obtain ⟨_,_,h⟩:=wp_ends (step_sound (A:=A') qi D U Z I N Q (fun x hx=>operand_rel S (consts_ok hc qe hx)) hw
      (K:=fun _ _=>(∃g y L,Inv P G base g (stF (j+1)) y∧base≤y.heap.size∧T y∧FreshU g (stF (j+1))∧RelT G g m (tsF (j+1)) L∧(∀k,j+1≤k→k<ops.size→g (n0+k)=none)∧(stF 0).next≤(stF (j+1)).next)∧
       (kF j= .quiet→ ∀b,b<(stF j).next→look (stF (j+1)).heap b=look (stF j).heap b)∧(stF j).next≤(stF (j+1)).next)
      (fun g V y hp hv hq qa=>⟨⟨g,y,_,hp.inv,Nat.le_trans I hp.size,hT _ _ (hp.below Z I) N,Q.post hp,by rw [D.ts];exact (S.mono hp.le).put hv _,fun k J B=>by
       cases hx:g (n0+k) with
       |none=>rfl
       |some x=>
        rcases hp.new _ _ hx with h|h
        ·rw [Y k (by omega) B] at h;cases h
        ·omega,Nat.le_trans M qa⟩,hq,qa⟩))
     exact h
    ·rcases D.how with ⟨_,_,_,J⟩|⟨_,_,_,_,J⟩|⟨_,s,_,J,_⟩|⟨_,⟨e,qk⟩,hv,he,J⟩
     ·exact absurd (fun b h=>by rw [J] at h;cases h) U
     ·exact absurd (fun b h=>by rw [J] at h;cases h) U
     ·exact absurd (fun b h=>kind_not_new (J.symm.trans h)) U
     ·obtain ⟨z,hz,ql⟩:=qg j _ e ho qk
      have qo:=(qh j (Nat.le_refl _) (by omega) J).trans ql
      obtain ⟨O,hO,_⟩:=alloc_run hz E (n0+j) W'
      have qf:=Y j (Nat.le_refl _) (by omega)
      rw [he]
      refine ⟨⟨_,W'.alloc O,A'.put ops[j].dst (.pointer (some ⟨W'.heap.size,0,none⟩)),late_inv Z I qf qo O hO,by simp;omega,hT _ _ ((Below.refl base W').alloc I O) N,fun b qn=> ?_,?_,fun k qm B=> ?_,M⟩,(fun h=>by rw [J] at h;cases h),Nat.le_refl _⟩
      ·unfold Phi.add
       rw [if_neg (by omega)]
       exact Q b qn
      ·rw [D.ts,hv]
       exact (S.mono (Phi.add_le qf)).put (.ptr (Phi.add_self _ _ _)) _
      ·unfold Phi.add
       rw [if_neg (by omega)]
       exact Y k (by omega) B
   ·rcases D.how with ⟨_,hv,he,J⟩|⟨h1,_⟩|⟨h1,_⟩|⟨h1,_⟩
    ·rw [he]
     exact ⟨⟨E,W',A'.put ops[j].dst undef,Z,I,N,Q,by rw [D.ts,hv];exact S.put rel_undef _,fun k qm B=>Y k (by omega) B,M⟩,⟨fun h=>(by rw [J] at h;cases h),Nat.le_refl _⟩⟩
    ·exact absurd h1 hw
    ·exact absurd h1 hw
    ·exact absurd h1 hw
  obtain ⟨⟨g,y,L,g1,g2,g3,g4,g5,g6,g7⟩,g8⟩:=fin
  refine ⟨⟨g,y,L,g1,g2,g3,g4,g5,g6,g7,qb g8.1⟩,fun i qq=> ?_⟩
  by_cases qp:i=j
  ·subst qp;exact g8
  ·exact X i (by omega)
structure Lex (P:Program) (G:Nat) (callf:CallF) (m:Nat) (ops:Array Oper) (n0:Nat) (tsF:Nat→Ts) (stF:Nat→St) (vF:Nat→Value) (kF:Nat→Kind):Prop where
 step: ∀j o,ops[j]? =some o→StepR P G callf m ops n0 tsF stF vF kF j o
 pair: ∀j o,ops[j]? =some o→ ∀k,k<j→pairB ops kF k j
 quiet: ∀i,i<ops.size→kF i= .quiet→ ∀b,b<(stF i).next→look (stF (i+1)).heap b=look (stF i).heap b
 mono: ∀i,i<ops.size→(stF i).next≤(stF (i+1)).next
 wf: ∀i,i≤ops.size→ ∀b q,look (stF i).heap b=some q→G≤b∧b<(stF i).next
 low: ∀i,i≤ops.size→G≤(stF i).next
 size0:(stF 0).next=n0+ops.size
 pre: ∀j o e,ops[j]? =some o→allocB o.op=some e→ ∃z,zeroB P G e=some z∧look (stF 0).heap (n0+j)=some (.row z.cells.toList e false false)
section
variable {callf:CallF} {m n0:Nat} {ops:Array Oper} {tsF:Nat→Ts} {stF:Nat→St} {vF:Nat→Value} {kF:Nat→Kind}
theorem Lex.calm (L:Lex P G callf m ops n0 tsF stF vF kF) {i:Nat} (I:i<ops.size) (B: ¬Firm (kF i)):
  (stF (i+1)).heap=(stF i).heap∧(stF (i+1)).next=(stF i).next∧(stF (i+1)).low≤(stF i).low:=by
 have D:=L.step i _ (Array.getElem?_eq_getElem I)
 rcases D.how with ⟨_,_,h,_⟩|⟨_,_,_,h,_⟩|⟨_,s,J,g,y,_⟩|⟨_,_,_,h,_⟩
 ·rw [h];exact ⟨rfl,rfl,Nat.le_refl _⟩
 ·rw [h];exact ⟨rfl,rfl,Nat.le_refl _⟩
 rotate_left
 ·rw [h];exact ⟨rfl,rfl,Nat.le_refl _⟩
 ·rcases firm_not B with h|⟨b,h⟩|⟨b,h⟩
  ·rw [h] at g;exact absurd g.symm kind_not_calm
  rotate_left
  ·rw [h] at g;exact absurd g.symm kind_not_new
  ·rw [h] at g
   obtain ⟨E,_⟩:=rd_eval (st2:=⟨(stF i).heap,(stF i).next,(stF i).next⟩) g.symm J rfl
   rw [y,E]
   exact ⟨rfl,rfl,Nat.min_le_left _ _⟩
theorem Lex.lowM (L:Lex P G callf m ops n0 tsF stF vF kF) {i:Nat} (B:i<ops.size):(stF (i+1)).low≤(stF i).low:=by
 have y:=L.step i _ (Array.getElem?_eq_getElem B)
 rcases y.how with ⟨_,_,h,_⟩|⟨_,_,_,h,_⟩|⟨_,s,_,_,g,_⟩|⟨_,_,_,h,_⟩
 ·rw [h];exact Nat.le_refl _
 ·rw [h];exact Nat.le_refl _
 ·rw [g];exact Nat.min_le_left _ _
 ·rw [h];exact Nat.le_refl _
theorem Lex.range (L:Lex P G callf m ops n0 tsF stF vF kF) {i:Nat}: ∀{j:Nat},i≤j→j≤ops.size→(∀k,i≤k→k<j→ ¬Firm (kF k))→
  (stF j).heap=(stF i).heap∧(stF j).next=(stF i).next∧(stF j).low≤(stF i).low:=by
 intro j
 induction j with
 |zero=>intro h _ _;rw [show i=0 by omega];exact ⟨rfl,rfl,Nat.le_refl _⟩
 |succ j y=>
  intro h E g
  by_cases D:i=j+1
  ·rw [D];exact ⟨rfl,rfl,Nat.le_refl _⟩
  ·obtain ⟨a,b,c⟩:=y (by omega) (by omega) fun k B I=>g k B (by omega)
   obtain ⟨d,e,f⟩:=L.calm (i:=j) (by omega) (g j (by omega) (by omega))
   exact ⟨d.trans a,e.trans b,Nat.le_trans f c⟩
theorem Lex.next (L:Lex P G callf m ops n0 tsF stF vF kF) {i:Nat}: ∀{j:Nat},i≤j→j≤ops.size→(stF i).next≤(stF j).next:=by
 intro j
 induction j with
 |zero=>intro h _;rw [show i=0 by omega];exact Nat.le_refl _
 |succ j g=>
  intro h B
  by_cases y:i=j+1
  ·rw [y];exact Nat.le_refl _
  ·exact Nat.le_trans (g (by omega) (by omega)) (L.mono j (by omega))
theorem Lex.same (L:Lex P G callf m ops n0 tsF stF vF kF) {i b:Nat} (M:b<(stF i).next): ∀{j:Nat},i≤j→j≤ops.size→
  (∀k,i≤k→k<j→Firm (kF k)→kF k= .quiet∨ ∃c,kF k= .wr c∧b≠c)→look (stF j).heap b=look (stF i).heap b:=by
 intro j
 induction j with
 |zero=>intro h _ _;rw [show i=0 by omega]
 |succ j O=>
  intro h U J
  by_cases I:i=j+1
  ·rw [I]
  ·have D:=O (by omega) (by omega) fun k D X=>J k D (by omega)
   have g:j<ops.size:=by omega
   refine Eq.trans ?_ D
   by_cases K:Firm (kF j)
   ·rcases J j (by omega) (by omega) K with N|⟨c,Q,B⟩
    ·exact L.quiet j g N b (Nat.lt_of_lt_of_le M (L.next (by omega) (by omega)))
    ·have S:=L.step j _ (Array.getElem?_eq_getElem g)
     rcases S.how with ⟨_,_,h,_⟩|⟨_,_,_,h,_⟩|⟨_,s,I,y,E,_⟩|⟨_,_,_,h,_⟩
     ·rw [h]
     ·rw [h]
     ·rw [Q] at y
      rw [E]
      exact wr_look y.symm I b B
     ·rw [h]
   ·rw [(L.calm g K).1]
theorem Lex.dst (L:Lex P G callf m ops n0 tsF stF vF kF) (R:RegOk ops) (E:m≤4000) {k:Nat} {o:Oper} {t:Tmp} (g:ops[k]? =some o) (y:o.dst=some t) (I:t<m):
  ∀{j:Nat},k<j→j≤ops.size→(tsF j).get t=vF k:=by
 intro j
 induction j with
 |zero=>intro h _;omega
 |succ j D=>
  intro h M
  have J:=L.step j _ (Array.getElem?_eq_getElem (show j<ops.size by omega))
  rw [J.ts,get_putT E]
  by_cases B:k=j
  ·subst B
   have e:ops[k]'(by omega)=o:=by
    have:=Array.getElem?_eq_getElem (xs:=ops) (i:=k) (by omega)
    rw [g] at this
    exact (Option.some.inj this).symm
   rw [e,if_pos ⟨y,I⟩]
  ·rw [if_neg]
   ·exact D (by omega) (by omega)
   ·rintro ⟨K,_⟩
    exact B (R.dst k j o _ t g (Array.getElem?_eq_getElem (by omega)) y K)
theorem Lex.old (L:Lex P G callf m ops n0 tsF stF vF kF) (B:m≤4000) {t:Tmp}: ∀{j:Nat},j≤ops.size→(∀k o,k<j→ops[k]? =some o→o.dst=some t→ ¬t<m)→(tsF j).get t=(tsF 0).get t:=by
 intro j
 induction j with
 |zero=>intro _ _;rfl
 |succ j y=>
  intro J g
  have D:=L.step j _ (Array.getElem?_eq_getElem (show j<ops.size by omega))
  rw [D.ts,get_putT B,if_neg]
  ·exact y (by omega) fun k o h=>g k o (by omega)
  ·rintro ⟨E,I⟩
   exact g j _ (by omega) (Array.getElem?_eq_getElem (by omega)) E I
theorem ready_mem {listed:Array Bool} {i:Nat} (I:listed.size=ops.size) (h:i∈Region.ready .any ops listed):
  ∃o,ops[i]? =some o∧listed.getD i false=false∧ ∀e∈o.after,Region.binds .any e=true→listed.getD e.on false=true:=by
 unfold Region.ready at h
 rw [List.mem_filter,List.mem_range] at h
 obtain ⟨E,h⟩:=h
 rw [Bool.and_eq_true] at h
 refine ⟨ops[i],Array.getElem?_eq_getElem E,?_,?_⟩
 ·have D:=h.1
  have g:i<listed.size:=by omega
  simp only [Array.getD_eq_getD_getElem?,Array.getElem?_eq_getElem g,Option.getD_some,Bool.not_eq_true'] at D ⊢
  exact D
 ·intro e K J
  have y:=h.2
  rw [Array.getElem?_eq_getElem E] at y
  simp only [Option.map_some,Option.getD_some] at y
  have B:=Array.all_eq_true_iff_forall_mem.1 y e K
  rw [J] at B
  simpa using B
theorem ready_nil {listed:Array Bool} (R:RegOk ops) (I:listed.size=ops.size) (h:Region.ready .any ops listed=[]): ∀i,i<ops.size→listed.getD i false=true:=by
 intro i
 induction i using Nat.strongRecOn with
 |_ i E=>
  intro B
  cases e:listed.getD i false with
  |true=>rfl
  |false=>
   have D:i∈Region.ready .any ops listed:=by
    unfold Region.ready
    rw [List.mem_filter,List.mem_range]
    refine ⟨B,?_⟩
    have g:i<listed.size:=by omega
    have J:listed.getD i true=false:=by
     simp only [Array.getD_eq_getD_getElem?,Array.getElem?_eq_getElem g,Option.getD_some] at e ⊢
     exact e
    rw [J,Array.getElem?_eq_getElem B]
    simp only [Bool.not_false,Bool.true_and,Option.map_some,Option.getD_some]
    refine Array.all_eq_true_iff_forall_mem.2 fun x K=> ?_
    cases L:Region.binds .any x with
    |false=>rfl
    |true=>
     have y:=R.on i _ (Array.getElem?_eq_getElem B) x K L
     rw [E _ y (by omega)]
     rfl
   rw [h] at D
   cases D
theorem ready_full {listed:Array Bool} (D:listed.size=ops.size) (h: ∀i,i<ops.size→listed.getD i false=true):Region.ready .any ops listed=[]:=by
 unfold Region.ready
 rw [List.filter_eq_nil_iff]
 intro i y
 rw [List.mem_range] at y
 have:=h i y
 have g:i<listed.size:=by omega
 have B:listed.getD i true=true:=by
  simp only [Array.getD_eq_getD_getElem?,Array.getElem?_eq_getElem g,Option.getD_some] at this ⊢
  exact this
 rw [B]
 simp
structure Mid (P:Program) (G base m:Nat) (ops:Array Oper) (n0:Nat) (st:St) (tsF:Nat→Ts) (stF:Nat→St) (vF:Nat→Value) (kF:Nat→Kind) (φ:Phi) (W:World) (A:Act) (f:Nat) (ψ:Phi) (listed:Array Bool) (a:Act) (w:World):Prop where
 size:listed.size=ops.size
 le:f≤ops.size
 closed: ∀i o,ops[i]? =some o→listed.getD i false=true→ ∀e∈o.after,Region.binds .any e=true→listed.getD e.on false=true
 firm: ∀j,j<ops.size→Firm (kF j)→(listed.getD j false=true↔j<f)
 post:Post P G base φ st W (stF f) ψ w
 fresh: ∀j,j<ops.size→listed.getD j false=false→ψ (n0+j)=none
 tmps:a.tmps.size=m
 defers:a.defers=A.defers
 done: ∀j o t,ops[j]? =some o→o.dst=some t→t<m→listed.getD j false=true→Rel G ψ (vF j) (a.tmps.getD t undef)
 rest: ∀t,(∀j o,ops[j]? =some o→o.dst=some t→listed.getD j false=true→ ¬t<m)→Rel G ψ ((tsF 0).get t) (a.tmps.getD t undef)
theorem getD_set {listed:Array Bool} {i:Nat} (g:i<listed.size) (j:Nat):(listed.setIfInBounds i true).getD j false=if i=j then true else listed.getD j false:=by
 simp only [Array.getD_eq_getD_getElem?]
 by_cases e:i=j
 ·subst e;simp [g]
 ·rw [Array.getElem?_setIfInBounds_ne e,if_neg e]
theorem Mid.after {st:St} {φ:Phi} {W:World} {A:Act} {f:Nat} {ψ:Phi} {listed:Array Bool} {a:Act} {w:World} (M:Mid P G base m ops n0 st tsF stF vF kF φ W A f ψ listed a w) (R:RegOk ops) {i:Nat} {o:Oper} (L:ops[i]? =some o)
  (U: ∀e∈o.after,Region.binds .any e=true→listed.getD e.on false=true) (_hnl:listed.getD i false=false) {N:Nat} {E:Phi} {V:Value} {w':World} (J:ψ.le E) (Y:N≤ops.size)
  (I: ∀j,j<ops.size→Firm (kF j)→((i=j∨listed.getD j false=true)↔j<N)) (hp:Post P G base φ st W (stF N) E w') (X: ∀j,j<ops.size→i≠j→listed.getD j false=false→E (n0+j)=none) (hv:Rel G E (vF i) V):
  Mid P G base m ops n0 st tsF stF vF kF φ W A N E (listed.setIfInBounds i true) (a.put o.dst V) w':=by
 have S:i<listed.size:=by rw [M.size];exact (Array.getElem?_eq_some_iff.1 L).1
 have B:=fun j=>getD_set S j
 refine ⟨by simpa using M.size,Y,?_,?_,hp,fun j Q D=> ?_,?_,(Act.put_def _ _ _).trans M.defers,?_,?_⟩
 rotate_left 2
 ·rw [B] at D
  by_cases g:i=j
  ·rw [if_pos g] at D;cases D
  ·rw [if_neg g] at D;exact X j Q g D
 rotate_left 3
 ·intro j p y D e he hb
  rw [B] at D ⊢
  have:listed.getD e.on false=true:=by
   by_cases g:i=j
   ·subst g;rw [L] at y;cases y;exact U e he hb
   ·rw [if_neg g] at D;exact M.closed j p y D e he hb
  rw [this]
  split<;>rfl
 ·intro j Q hk
  rw [B,←I j Q hk]
  by_cases g:i=j
  ·rw [if_pos g];exact ⟨fun _=> .inl g,fun _=>rfl⟩
  ·rw [if_neg g]
   exact ⟨.inr,fun h=>h.resolve_left g⟩
 ·rw [←M.tmps];unfold Act.put;cases o.dst<;>simp
 ·intro j p t y K ht D
  rw [getD_put,M.tmps]
  by_cases g:i=j
  ·subst g
   rw [L] at y
   cases y
   rw [if_pos ⟨K,ht⟩]
   exact hv
  ·rw [B,if_neg g] at D
   rw [if_neg]
   ·exact (M.done j p t y K ht D).mono J
   ·rintro ⟨O,_⟩
    exact g (R.dst i j o p t L y O K)
 ·intro t Z
  rw [getD_put,M.tmps,if_neg]
  ·refine (M.rest t fun j p y K D=>Z j p y K ?_).mono J
   rw [B,D]
   split<;>rfl
  ·rintro ⟨O,h2⟩
   exact Z i o L O (by rw [B,if_pos rfl]) h2
theorem Mid.fin {st:St} {φ:Phi} {W:World} {A:Act} {f:Nat} {Q:Phi} {listed:Array Bool} {a:Act} {w:World} (M:Mid P G base m ops n0 st tsF stF vF kF φ W A f Q listed a w) (L:Lex P G callf m ops n0 tsF stF vF kF) (R:RegOk ops) (J:m≤4000)
  (B: ∀i,i<ops.size→listed.getD i false=true):After P G base m φ st W A .normal (tsF ops.size) (stF ops.size) .normal a w:=by
 have h: ∀k,f≤k→k<ops.size→ ¬Firm (kF k):=fun k y g U=>by
  have:=(M.firm k g U).1 (B k g)
  omega
 obtain ⟨y,g,I⟩:=L.range M.le (Nat.le_refl _) h
 have K:=low_weaken M.post I
 have e:(⟨(stF f).heap,(stF f).next,(stF ops.size).low⟩:St)=stF ops.size:=by rw [←y,←g]
 rw [e] at K
 refine ⟨trivial,Q,K,⟨M.tmps,J,fun t=> ?_⟩,M.defers⟩
 by_cases E:t<m∧ ∃(j:Nat) (p:Oper),ops[j]? =some p∧p.dst=some t
 ·obtain ⟨S,j,p,D,N⟩:=E
  have O:=(Array.getElem?_eq_some_iff.1 D).1
  rw [L.dst R J D N S O (Nat.le_refl _)]
  exact M.done j p t D N S (B j O)
 ·have h: ∀(k:Nat) (o:Oper),ops[k]? =some o→o.dst=some t→ ¬t<m:=fun k o y g I=>E ⟨I,k,o,y,g⟩
  rw [L.old J (Nat.le_refl _) fun k o _ y g=>h k o y g]
  exact M.rest t fun j o y g _=>h j o y g
theorem allocB_ok {o:Op} {e:TypeId} (h:allocB o=some e):o= .alloc e:=by
 cases o<;>first|(cases h;done)|skip
 cases h;rfl
theorem alloc_wp {o:Oper} {e:TypeId} (h:allocB o.op=some e) {A:Act} {w B:World} {V:Value} (g:(Instr.alloc e true (.tuple #[])).run P w= .ok V B) {K:Act→World→Prop} {Q:Exit→Act→World→Prop} (k:K (A.put o.dst V) B):o.wp P A w K Q:=by
 obtain ⟨dst,op,ty,pos,after,y⟩:=o
 obtain rfl:=allocB_ok h
 refine wp_value (V:=V) ?_ k
 show ((do pure (.value (←Instr.alloc e true (.tuple #[]))):Sem Next)).run P w=_
 simp only [Sem.run_bind,g,Result.andThen_ok]
 rfl
theorem firm_nn {k:Kind} (h:Firm k):NN k:=fun b e=>by rw [e] at h;exact h
theorem Mid.step (hT:Stays base T) (qC:CallSound P G base T callf) (hc:constsB G ops=true) {st:St} (qL:st.next=n0) {φ:Phi} {W:World} {A:Act} (hi:Inv P G base φ st W) (hb:base≤W.heap.size) (qP:T W) (hf:FreshU φ st)
  {f:Nat} {ψ:Phi} {listed:Array Bool} {a:Act} {w:World} (M:Mid P G base m ops n0 st tsF stF vF kF φ W A f ψ listed a w) (L:Lex P G callf m ops n0 tsF stF vF kF) (R:RegOk ops) (hm:m≤4000) {i:Nat} (hr:i∈Region.ready .any ops listed)
  {Q:Exit→Act→World→Prop} {K:Act→World→Prop} (k: ∀f' qd a' w',Mid P G base m ops n0 st tsF stF vF kF φ W A f' qd (listed.setIfInBounds i true) a' w'→K a' w'):wpOp P ops Q i K a w:=by
 obtain ⟨o,ho,N,qe⟩:=ready_mem M.size hr
 have I:i<ops.size:=(Array.getElem?_eq_some_iff.1 ho).1
 have qE:o∈ops.toList:=by
  have:=Array.mem_of_getElem? ho
  simpa using this
 have hs:=L.step i o ho
 have qj: ∀j,ancB ops i j=true→listed.getD j false=true∧j<i:=anc_ok (p:=fun j=>listed.getD j false=true) R.on (fun j p B S=>M.closed j p B S) i o ho qe
 have Y: ∀(j:Nat) (p:Oper),ops[j]? =some p→ancB ops j i=true→listed.getD j false=false∧i<j:=by
  intro j p B ha
  have J:=(anc_ok (p:=fun _=>True) R.on (fun _ _ _ _ _ _ _=>trivial) j p B (fun _ _ _=>trivial) i ha).2
  refine ⟨?_,J⟩
  cases S:listed.getD j false with
  |false=>rfl
  |true=>
   have:=(anc_ok (p:=fun j=>listed.getD j false=true) R.on (fun j p B S=>M.closed j p B S) j p B (M.closed j p B S) i ha).1
   rw [N] at this
   cases this
 have qh: ∀t,t∈o.looksAt ops→Rel G ψ ((tsF i).get t) (a.tmps.getD t undef):=by
  intro t ht
  by_cases qI:t<m∧ ∃(j:Nat) (p:Oper),ops[j]? =some p∧p.dst=some t
  ·obtain ⟨qG,j,p,B,hd⟩:=qI
   have hj:j<ops.size:=(Array.getElem?_eq_some_iff.1 B).1
   have qn:i≤j→listed.getD j false=false→Rel G ψ ((tsF i).get t) (a.tmps.getD t undef):=by
    intro qo qO
    rw [L.old hm (Nat.le_of_lt I) fun k q hk hq qy _=>by have:=R.dst k j q p t hq B qy hd;omega]
    refine M.rest t fun k q hq qy S _=> ?_
    have:=R.dst k j q p t hq B qy hd
    subst this
    rw [qO] at S
    cases S
   by_cases qo:i=j
   ·subst qo;exact qn (Nat.le_refl _) N
   ·rcases R.sees i j o p t ho B hd ht qo with h|h
    ·obtain ⟨S,ql⟩:=qj j h
     rw [L.dst R hm B hd qG ql (Nat.le_of_lt I)]
     exact M.done j p t B hd qG S
    ·obtain ⟨S,ql⟩:=Y j p B h
     exact qn (Nat.le_of_lt ql) S
  ·have qq: ∀(k:Nat) (o:Oper),ops[k]? =some o→o.dst=some t→ ¬t<m:=fun k o J h2 h3=>qI ⟨h3,k,o,J,h2⟩
   rw [L.old hm (Nat.le_of_lt I) fun k o _ J h2=>qq k o J h2]
   exact M.rest t fun j o J h2 _=>qq j o J h2
 have hw:Region.wanted o (yielded ops a.tmps)=wantB ops (tsF i) o:=want_ok (φ:=ψ) fun j w d hg hd=>qh d (by
  unfold Oper.looksAt
  rw [hg]
  simp only [hd]
  simp)
 have hx: ∀x∈o.op.operands,Rel G ψ (ρ (tsF i) x) (a.eval x):=by
  intro x qH
  have qD:=consts_ok hc qE qH
  cases x with
  |tmp t=>
   refine qh t ?_
   unfold Oper.looksAt
   refine List.mem_append_left _ (List.mem_filterMap.2 ⟨.tmp t,by simpa using qH,rfl⟩)
  |const v=>exact .free (d:=6) qD
  |global g=>exact free_ptr (blt_ok qD)
  |func f=>exact .free (d:=1) rfl
 have qA:base≤w.heap.size:=Nat.le_trans hb M.post.size
 have qJ:T w:=hT W w (M.post.below hi hb) qP
 have qx:=hf.post M.post
 have qs: ∀(s:St) (W1:World) (s':St) (qd:Phi) (W':World),n0+ops.size≤s.next→Post P G base ψ s W1 s' qd W'→ ∀j,j<ops.size→i≠j→listed.getD j false=false→qd (n0+j)=none:=by
  intro s W1 s' qd W' hn B j hj _ S
  cases hx:qd (n0+j) with
  |none=>rfl
  |some x=>
   rcases B.new _ _ hx with h|h
   ·rw [M.fresh j hj S] at h;cases h
   ·omega
 have qv: ∀g,g≤ops.size→n0+ops.size≤(stF g).next:=fun g hg=>by rw [←L.size0];exact L.next (Nat.zero_le _) hg
 have U: ¬Firm (kF i)→ ∀j,j<ops.size→Firm (kF j)→((i=j∨listed.getD j false=true)↔j<f):=by
  intro hk j hj y
  rw [←M.firm j hj y]
  constructor
  ·rintro (rfl|h)
   ·exact absurd y hk
   ·exact h
  ·exact .inr
 unfold wpOp
 simp only [ho]
 rw [hw]
 by_cases D:wantB ops (tsF i) o=true
 ·rw [if_pos D]
  refine .inl ?_
  by_cases hk:Firm (kF i)
  · -- all that is firm ahead of it has been carried out,and nothing that is firm behind it
   have qc: ∀j,j<i→Firm (kF j)→listed.getD j false=true:=by
    intro j hj y
    rcases L.pair i o ho j hj with h|h
    ·rw [firm_pair y hk] at h;cases h
    ·exact (qj j h.1).1
   have qk: ∀j,i<j→j<ops.size→Firm (kF j)→listed.getD j false=false:=by
    intro j hj X y
    have B:ops[j]? =some ops[j]:=Array.getElem?_eq_getElem X
    rcases L.pair j _ B i hj with h|h
    ·rw [firm_pair hk y] at h;cases h
    ·exact (Y j _ B h.1).1
   have qw:f≤i:=by
    rcases Nat.lt_or_ge i f with h|h
    ·have:=(M.firm i I hk).2 h
     rw [N] at this
     cases this
    ·exact h
   have qq: ∀k,f≤k→k<i→ ¬Firm (kF k):=fun k J h2 qM=>by
    have:=(M.firm k (by omega) qM).1 (qc k h2 qM)
    omega
   obtain ⟨J,h2,h3⟩:=L.range qw (Nat.le_of_lt I) qq
   have B:=low_weaken M.post h3
   have e:(⟨(stF f).heap,(stF f).next,(stF i).low⟩:St)=stF i:=by rw [←J,←h2]
   rw [e] at B
   refine step_sound qC hs (firm_nn hk) B.inv qA qJ (hf.post B) hx D fun qt V W' qa hv _ _=> ?_
   refine k (i+1) qt _ W' (M.after R ho qe N qa.le (by omega) ?_ (B.trans' hf qa) (qs _ _ _ _ _ (qv i (Nat.le_of_lt I)) qa) hv)
   intro j hj y
   rcases Nat.lt_trichotomy j i with h|h|h
   ·exact ⟨fun _=>by omega,fun _=> .inr (qc j h y)⟩
   ·exact ⟨fun _=>by omega,fun _=> .inl h.symm⟩
   ·refine ⟨?_,fun _=>by omega⟩
    rintro (E|E)
    ·omega
    ·rw [qk j h hj y] at E;cases E
  ·rcases hs.how with ⟨J,_⟩|⟨_,qz,⟨s,he⟩,qB,qf⟩|⟨_,s,he,Z,qB,hn⟩|⟨_,⟨e,qF⟩,hv,qB,qf⟩
   ·rw [D] at J;cases J
   ·obtain ⟨_,V,hV,qi⟩:=calmT_sound M.post.inv.above qz he hx
    exact wp_value (qi w) (k f ψ _ w (M.after R ho qe N .rfl M.le (U hk) M.post (fun j hj _ S=>M.fresh j hj S) hV))
   ·rcases firm_not hk with h|⟨b,h⟩|⟨b,h⟩
    ·rw [h] at Z;exact absurd Z.symm kind_not_calm
    rotate_left
    ·rw [h] at Z;exact absurd Z.symm kind_not_new
    ·rw [h] at Z
     have qS:b<(stF f).next:=by
      have hG:G≤(stF f).next:=L.low f M.le
      rcases kind_rd Z.symm with ⟨t,x,qg,qr⟩|⟨qU,dst,x,ad,n,c,qg,qT,qr⟩
      ·have hrel:=hx x (by rw [qg];simp [Op.operands])
       rw [qr]
       cases hv:ρ (tsF i) x with
       |pointer ad=>
        cases ad with
        |none=>
         obtain ⟨q,hq⟩:=rd_live Z.symm he
         have:=(L.wf i (Nat.le_of_lt I) b q hq).1
         rw [qr,hv] at this
         have h0:blockOf (.pointer none)=0:=rfl
         rw [h0] at this ⊢
         have:=L.low f M.le
         unfold evOp at he
         rw [qg] at he
         simp only [opD,hLoad,evLoad,hv,loadB] at he
         cases he
        |some ad=>
         rw [hv] at hrel
         rcases hrel.ptr_inv with ⟨ql,_⟩|⟨r,κ,_,qm,_⟩
         ·exact Nat.lt_of_lt_of_le ql hG
         ·show ad.block<_
          rcases Nat.lt_or_ge ad.block (stF f).next with E|E
          ·exact E
          ·rw [qx _ E] at qm;cases qm
       |_=>
        unfold evOp at he
        rw [qg] at he
        simp only [opD,hLoad,evLoad,hv,loadB] at he
        cases he
      ·have hrel:=hx x (by rw [qg];simp [Op.operands])
       rw [qT] at hrel
       obtain ⟨r,κ,_,qm,_⟩:=hrel.slice_inv
       rw [qr]
       rcases Nat.lt_or_ge ad.block (stF f).next with E|E
       ·exact E
       ·rw [qx _ E] at qm;cases qm
     have qb:look (stF f).heap b=look (stF i).heap b:=by
      rcases Nat.lt_or_ge i f with qN|qw
      ·obtain ⟨q,hq⟩:=rd_live Z.symm he
       refine L.same (L.wf i (Nat.le_of_lt I) b q hq).2 (Nat.le_of_lt qN) M.le fun j J h2 y=> ?_
       have X:j<ops.size:=Nat.lt_of_lt_of_le h2 M.le
       have qp:=(M.firm j X y).2 h2
       have qo:i≠j:=by rintro rfl;exact hk y
       have B:ops[j]? =some ops[j]:=Array.getElem?_eq_getElem X
       rcases L.pair j _ B i (by omega) with E|E
       ·rw [h] at E;exact rd_pair y (.inr E)
       ·have:=(Y j _ B E.1).1
        rw [qp] at this
        cases this
      ·refine (L.same qS qw (Nat.le_of_lt I) fun j J h2 y=> ?_).symm
       have X:j<ops.size:=by omega
       rcases L.pair i o ho j h2 with E|E
       ·rw [h] at E;exact rd_pair y (.inl E)
       ·have:=(M.firm j X y).1 (qj j E.1).1
        omega
     obtain ⟨_,qR⟩:=rd_eval (st2:=stF f) Z.symm he qb
     refine op_sound M.post.inv qA qC qJ qR (fun b hb=>qx b hb) hx fun qt V W' qa hv=> ?_
     exact k f qt _ W' (M.after R ho qe N qa.le M.le (U hk) (M.post.trans' hf qa) (qs _ _ _ _ _ (qv f M.le) qa) hv)
   · -- a new variable
    obtain ⟨z,hz,qQ⟩:=L.pre i o e ho qF
    have qb:look (stF f).heap (n0+i)=look (stF 0).heap (n0+i):=by
     refine L.same (by rw [L.size0];omega) (Nat.zero_le _) M.le fun j _ h2 y=> ?_
     have X:j<ops.size:=Nat.lt_of_lt_of_le h2 M.le
     have qp:=(M.firm j X y).2 h2
     rcases Nat.lt_trichotomy j i with h|h|h
     ·rcases L.pair i o ho j h with E|E
      ·rw [qf] at E;exact new_pair y (.inl E)
      ·exact absurd qf (E.2 _)
     ·rw [h,N] at qp;cases qp
     ·have B:ops[j]? =some ops[j]:=Array.getElem?_eq_getElem X
      rcases L.pair j _ B i h with E|E
      ·rw [qf] at E;exact new_pair y (.inr E)
      ·have:=(Y j _ B E.1).1
       rw [qp] at this
       cases this
    obtain ⟨O,hO,qi⟩:=alloc_run hz ψ (n0+i) w
    have qK:=M.fresh i I N
    have B:=late_post M.post qA qK (by rw [qL];omega) (by have:=qv f M.le;omega) (qb.trans qQ) O hO
    refine alloc_wp qF qi (k f _ _ _ (M.after R ho qe N (Phi.add_le qK) M.le (U hk) B (fun j hj qo S=> ?_) (by rw [hv];exact .ptr (Phi.add_self _ _ _))))
    unfold Phi.add
    rw [if_neg (by omega)]
    exact M.fresh j hj S
 ·rw [if_neg D]
  rcases hs.how with ⟨_,hv,_,qf⟩|⟨J,_⟩|⟨J,_⟩|⟨J,_⟩
  ·have hk: ¬Firm (kF i):=by rw [qf];exact fun h=>h
   exact k f ψ _ w (M.after R ho qe N .rfl M.le (U hk) M.post (fun j hj _ S=>M.fresh j hj S) (by rw [hv];exact rel_undef))
  ·exact absurd J D
  ·exact absurd J D
  ·exact absurd J D
end
theorem preB_ok: ∀(l:List Oper) (i b:Nat) (h E:Hp),preB P G (newsB l i) b h=some E→Srt h→(∀c o,look h c=some o→G≤c∧c<b+i)→G≤b→
  Srt E∧(∀c o,look E c=some o→G≤c∧c<b+i+l.length)∧(∀c,c<b+i→look E c=look h c)∧
   ∀j o e,l[j]? =some o→allocB o.op=some e→ ∃z,zeroB P G e=some z∧look E (b+i+j)=some (.row z.cells.toList e false false)
 |[],i,b,h,E,B,M,J,_=>by
  cases B
  exact ⟨M,fun c o g=>by have:=J c o g;simp;omega,fun _ _=>rfl,fun j o e D=>by simp at D⟩
 |o::l,i,b,h,E,B,M,J,hG=>by
  unfold newsB at B
  split at B
  rotate_left
  ·rename_i hn
   obtain ⟨O,Y,L,X⟩:=preB_ok l (i+1) b h E B M (fun c q g=>by have:=J c q g;omega) hG
   refine ⟨O,fun c q g=>by have:=Y c q g;simp only [List.length_cons];omega,fun c g=>L c (by omega),fun j q e D K=> ?_⟩
   cases j with
   |zero=>simp at D;subst D;rw [hn] at K;cases K
   |succ j=>
    obtain ⟨z,N,Z⟩:=X j q e (by simpa using D) K
    exact ⟨z,N,by rw [show b+i+(j+1)=b+(i+1)+j by omega];exact Z⟩
  ·rename_i e K
   unfold preB at B
   split at B
   ·rename_i z N
    have Q:Srt ((b+i,AObj.row z.cells.toList e false false)::h):=by
     refine List.pairwise_cons.2 ⟨fun x hx=> ?_,M⟩
     have key: ∀l:Hp,x∈l→ ∃q',look l x.1=some q':=by
      intro l
      induction l with
      |nil=>intro h;cases h
      |cons y l ih=>
       intro h
       rw [look_cons]
       split
       ·exact ⟨_,rfl⟩
       ·rename_i U
        rcases List.mem_cons.1 h with rfl|h
        ·exact absurd rfl U
        ·exact ih h
     obtain ⟨q,hq⟩:=key h hx
     exact (J _ q hq).2
    obtain ⟨O,Y,L,X⟩:=preB_ok l (i+1) b _ E B Q (fun c q g=>by
     rw [look_cons] at g
     split at g
     ·rename_i e2;have e2:b+i=c:=e2;omega
     ·have:=J c q g;omega) hG
    refine ⟨O,fun c q g=>by have:=Y c q g;simp only [List.length_cons];omega,fun c g=> ?_,fun j q e' D I=> ?_⟩
    ·rw [L c (by omega),look_cons,if_neg (by show ¬b+i=c;omega)]
    ·cases j with
     |zero=>
      simp at D
      subst D
      rw [K] at I
      cases I
      refine ⟨z,N,?_⟩
      rw [Nat.add_zero,L (b+i) (by omega),look_cons,if_pos rfl]
     |succ j=>
      obtain ⟨z',S,Z⟩:=X j q e' (by simpa using D) I
      exact ⟨z',S,by rw [show b+i+(j+1)=b+(i+1)+j by omega];exact Z⟩
   ·cases B
theorem drawn_sound (hT:Stays base T) (hM:P.follows .mixedOrders=true) {callf:CallF} (qc:CallSound P G base T callf):DrawnSound P G base T callf:=by
 intro m ops ts st ts' st' φ W A id hc qm Q S hb qg Z hr
 have R:=regionB_ok qm
 unfold evDraw at Q
 split at Q
 rotate_left
 ·cases Q
 rename_i hh qb
 obtain ⟨p1,p2,p3,p4⟩:=preB_ok ops.toList 0 st.next st.heap hh qb S.srt S.wf S.low
 simp only [Nat.add_zero] at p2 p3 p4
 have he:=Q
 have N:Inv P G base φ ⟨hh,st.next+ops.size,st.low⟩ W:=by
  refine ⟨S.dom,fun b o h=>by have:=p2 b o h;simpa using this,p1,fun b o r κ D hx=> ?_,fun b c o q r κ l h1 h2 h3 h4=> ?_,by have:=S.low;show G≤st.next+ops.size;omega⟩
  ·have O:b<st.next:=by
    rcases Nat.lt_or_ge b st.next with h|h
    ·exact h
    ·rw [Z b h] at hx;cases hx
   exact S.obj b o r κ (by rw [←p3 b O];exact D) hx
  ·have O: ∀b x,φ b=some x→b<st.next:=fun b x hx=>by
    rcases Nat.lt_or_ge b st.next with h|h
    ·exact h
    ·rw [Z b h] at hx;cases hx
   exact S.inj b c o q r κ l (by rw [←p3 b (O b _ h3)];exact h1) (by rw [←p3 c (O c _ h4)];exact h2) h3 h4
 have ql:FreshU φ ⟨hh,st.next+ops.size,st.low⟩:=fun b hb=>Z b (by have:st.next+ops.size≤b:=hb;omega)
 have B:Post P G base φ st W ⟨hh,st.next+ops.size,st.low⟩ φ W:=
  ⟨.rfl,fun _ _ h=> .inl h,fun b r κ h k=>(by rw [h] at k;cases k),N,Nat.le_add_right _ _,Nat.le_refl _,fun b hb _=>p3 b hb,fun _ _ _=>rfl,Nat.le_refl _,rfl,rfl,rfl⟩
 obtain ⟨tsF,stF,vF,kF,qr,qa,qi,qf,Y⟩:=drawn_run ops.toList 0 [] ts _ rfl he
 have qd:0+ops.toList.length=ops.size:=by simp
 rw [qd] at qi qf
 subst qr qi qf
 rw [←qa] at N ql B
 have X:(stF 0).next=st.next+ops.size:=by rw [qa]
 have J: ∀j o e,ops[j]? =some o→allocB o.op=some e→ ∃z,zeroB P G e=some z∧look (stF 0).heap (st.next+j)=some (.row z.cells.toList e false false):=fun j o e ho qq=>by rw [qa];exact p4 j o e (by simpa using ho) qq
 have K: ∀j o,ops[j]? =some o→StepR P G callf m ops st.next tsF stF vF kF j o:=fun j o ho=>(Y j o (Nat.zero_le _) ho).1
 have E: ∀j o,ops[j]? =some o→ ∀k,k<j→pairB ops kF k j:=fun j o ho k hk=>(Y j o (Nat.zero_le _) ho).2.2 k (Nat.zero_le _) hk
 have g:=lex_facts hT qc hc K E X J N hb qg ql (fun k _=>Z _ (Nat.le_add_right _ _)) hr
 have L:Lex P G callf m ops st.next tsF stF vF kF:=⟨K,E,
  fun i y hq=>((g (i+1) y).2 i (Nat.lt_succ_self i)).1 hq,fun i y=>((g (i+1) y).2 i (Nat.lt_succ_self i)).2,
  fun i y b q hq=>by obtain ⟨⟨qp,W',A',h1,_⟩,_⟩:=g i y;exact h1.wf b q hq,
  fun i y=>by obtain ⟨⟨qp,W',A',h1,_⟩,_⟩:=g i y;exact h1.low,X,J⟩
 have hm:=hr.2.1
 refine wp_region_any hM ?_
 have qe: ∀(fuel f:Nat) (ψ:Phi) (listed:Array Bool) (a:Act) (w:World),Mid P G base m ops st.next st tsF stF vF kF φ W A f ψ listed a w→((List.range ops.size).filter fun j=> !listed.getD j false).length≤fuel→
   wpAny P .any ops (After P G base m φ st W A .normal (tsF ops.size) (stF ops.size)) fuel listed a w:=by
  intro fuel
  induction fuel with
  |zero=>
   intro f ψ listed a w M U
   have I: ∀i,i<ops.size→listed.getD i false=true:=by
    intro i y
    cases e:listed.getD i false with
    |true=>rfl
    |false=>
     have:i∈(List.range ops.size).filter fun j=> !listed.getD j false:=List.mem_filter.2 ⟨List.mem_range.2 y,by rw [e];rfl⟩
     rw [List.eq_nil_of_length_eq_zero (Nat.le_zero.1 U)] at this
     cases this
   exact ⟨ready_full M.size I,M.fin L R hm I⟩
  |succ fuel ih=>
   intro f ψ listed a w M U
   refine ⟨fun hr=>M.fin L R hm (ready_nil R M.size hr),fun i qh=> ?_⟩
   refine M.step hT qc hc rfl S hb qg Z L R hm qh fun f' qo a' w' M'=>ih f' qo _ a' w' M' ?_
   obtain ⟨o,ho,qn,_⟩:=ready_mem M.size qh
   have qj:i<ops.size:=(Array.getElem?_eq_some_iff.1 ho).1
   have qk:i<listed.size:=by rw [M.size];exact qj
   have:=filter_lt (p:=fun j=> !listed.getD j false) (q:=fun j=> !(listed.setIfInBounds i true).getD j false) (i:=i) (l:=List.range ops.size) (List.mem_range.2 qj) (by simp [qn]) (by rw [getD_set qk];simp)
    (fun j hj=>by rw [getD_set qk] at hj;split at hj<;>simp_all)
   omega
 refine qe ops.size 0 φ _ A _ ⟨by simp,Nat.zero_le _,?_,?_,B.trans' Z (below_post N ((Below.refl _ W).drew)),fun j _ _=>Z _ (Nat.le_add_right _ _),hr.1,rfl,?_,?_⟩ ?_
 ·intro i o _ D;simp [Array.getD_eq_getD_getElem?,Array.getElem?_replicate] at D;split at D<;>simp at D
 ·intro j hj _
  constructor
  ·intro D;simp [Array.getD_eq_getD_getElem?,Array.getElem?_replicate] at D;split at D<;>simp at D
  ·intro h;omega
 ·intro j o t _ _ _ D;simp [Array.getD_eq_getD_getElem?,Array.getElem?_replicate] at D;split at D<;>simp at D
 ·intro t _;exact hr.2.2 t
 ·have:=List.length_filter_le (fun j=> !(Array.replicate ops.size false).getD j false) (List.range ops.size)
  rw [List.length_range] at this
  exact this
end
end

section
open Go Go.RowKit
section
variable {P:Program} {G base:Nat} {T:World→Prop}
theorem ec_all (h:Stays base T) (B:NoNum P) (D:P.follows .mixedOrders=true) {orc:Orc} (y:OrcSound P G base T orc) (n:Nat):RecSound P G base T (ec P G orc n):=
 ec_sound h B y (fun _ g=>drawn_sound h D (callF_sound h B y g)) n
theorem runF_sound (E:Stays base T) (I:NoNum P) (J:P.follows .mixedOrders=true) {orc:Orc} (Q:OrcSound P G base T orc) {n:Nat} {f:FuncId} {args:List Value} {v:Value}
  (h:runF P G orc n f args=some v) (U:args.all (pf G 6)=true) (M:pf G 6 v=true) (W:World) (K:W.heap.size=base) (g:T W):
  Calls P f args.toArray W fun e y=>e= .returned v∧Below W.heap.size W y:=by
 unfold runF at h
 split at h
 ·rename_i Y st' X
  cases h
  have D:Inv P G base (fun _=>none) ⟨[],G,G⟩ W:=⟨fun _ _ _ h=>(by cases h),fun _ _ h=>(by cases h),List.Pairwise.nil,fun _ _ _ _ h=>(by cases h),fun _ _ _ _ _ _ _ h=>(by cases h),Nat.le_refl _⟩
  obtain ⟨_,L⟩:=evEnter_sound E I (ec_all E I J Q n) (Args:=args.toArray) X D (by omega) g (fun _ _=>rfl) (RelL.of_free U)
  refine Calls.mono L ?_
  rintro e y ⟨V,rfl,S,B,O⟩
  have N:=O.eq_of_pf B.inv.above 6 M
  subst N
  have:=B.below D (by omega)
  rw [K]
  exact ⟨rfl,this⟩
 ·cases h
def noArg (v:Value):List Value→Option Value
 |[]=>some v
 |_=>none
noncomputable def orcAdd (orc:Orc) (f:FuncId) (v:Value):Orc:=fun g args h=>br (Nat.beq g f) (noArg v args) (orc g args h)
theorem OrcSound.add {orc:Orc} (O:OrcSound P G base T orc) {f:FuncId} {v:Value} (M:pf G 6 v=true) (B: ∀W,(callFunc f #[]).run P W= .ok (.enter f #[]) W)
  (L: ∀W,base≤W.heap.size→T W→Calls P f #[] W fun e D=>e= .returned v∧Below W.heap.size W D):OrcSound P G base T (orcAdd orc f v):=by
 intro g args st u φ W Args h N E y I
 unfold orcAdd at h
 by_cases e:g=f
 ·subst e
  rw [beq_yes rfl] at h
  have h:noArg v args=some u:=h
  cases args with
  |nil=>
   cases h
   have J:Args= #[]:=by
    have:=I.nil_inv
    apply Array.ext'
    simpa using this
   subst J
   refine .inr ⟨g,#[],B W,Calls.mono (L W E y) ?_⟩
   rintro e D ⟨rfl,K⟩
   exact ⟨v,rfl,.free M,K⟩
  |cons _ _=>cases h
 ·rw [beq_no e] at h
  exact O g args st u φ W Args h N E y I
end
end

section
open Go Go.RowKit
section
variable {P:Program} {G base:Nat} {T:World→Prop}
abbrev OrcH:=List Value→Hp→Option Value
noncomputable def orcWith (orc:Orc) (f:FuncId) (k:OrcH):Orc:=fun g args h=>br (Nat.beq g f) (k args h) (orc g args h)
def orcNone:Orc:=fun _ _ _=>none
def OrcFn (P:Program) (G base:Nat) (T:World→Prop) (f:FuncId) (k:OrcH):Prop:=
 ∀(args:List Value) (st:St) (v:Value) (φ:Phi) (W:World) (Args:Array Value),k args st.heap=some v→Inv P G base φ st W→base≤W.heap.size→T W→RelL G φ args Args.toList→
  CallR P f Args W fun V W'=>Rel G φ v V∧Below W.heap.size W W'
theorem orcNone_sound:OrcSound P G base T orcNone:=fun _ _ _ _ _ _ _ h=>by cases h
theorem OrcSound.with {orc:Orc} (J:OrcSound P G base T orc) {f:FuncId} {k:OrcH} (I:OrcFn P G base T f k):OrcSound P G base T (orcWith orc f k):=by
 intro g args st v φ W Args h B D y E
 unfold orcWith at h
 by_cases e:g=f
 ·subst e
  rw [beq_yes rfl] at h
  exact I args st v φ W Args h B D y E
 ·rw [beq_no e] at h
  exact J g args st v φ W Args h B D y E
theorem args1 {φ:Phi} {a:Value} {Args:Array Value} (h:RelL G φ [a] Args.toList): ∃A,Args= #[A]∧Rel G φ a A:=by
 obtain ⟨A,L,e,g,y⟩:=h.cons_inv
 rw [y.nil_inv] at e
 exact ⟨A,Array.ext' (by simpa using e),g⟩
theorem args2 {φ:Phi} {a b:Value} {Args:Array Value} (h:RelL G φ [a,b] Args.toList): ∃A B,Args= #[A,B]∧Rel G φ a A∧Rel G φ b B:=by
 obtain ⟨A,L,e,D,I⟩:=h.cons_inv
 obtain ⟨B,M,E,g,y⟩:=I.cons_inv
 rw [E,y.nil_inv] at e
 exact ⟨A,B,Array.ext' (by simpa using e),D,g⟩
theorem args0 {φ:Phi} {Args:Array Value} (h:RelL G φ [] Args.toList):Args= #[]:=Array.ext' (by simpa using h.nil_inv)
def idxB:List UInt8→Nat→Nat→Int
 |[],_,_=> -1
 |c::l,x,i=>match Nat.beq c.toNat x with|true=>i|false=>idxB l x (i+1)
def cntB:List UInt8→Nat→Nat→Nat
 |[],_,n=>n
 |c::l,x,n=>match Nat.beq c.toNat x with|true=>cntB l x (n+1)|false=>cntB l x n
def prefB:List UInt8→List UInt8→Bool
 |[],_=>true
 |_::_,[]=>false
 |a::l,b::m=>match Nat.beq a.toNat b.toNat with|true=>prefB l m|false=>false
def idxS:List UInt8→List UInt8→Nat→Int
 |[],t,i=>match t with|[]=>i|_::_=> -1
 |c::l,t,i=>match prefB t (c::l) with|true=>i|false=>idxS l t (i+1)
def digs:Nat→Nat→List UInt8→Option (List UInt8)
 |0,_,_=>none
 |f+1,n,g=>match Nat.ble n 9 with|true=>some (UInt8.ofNat (48+n)::g)|false=>digs f (n/10) (UInt8.ofNat (48+n % 10)::g)
def joinB:List (List UInt8)→List UInt8→List UInt8
 |[],_=>[]
 |[x],_=>x
 |x::y::l,p=>x++(p++joinB (y::l) p)
def ctzB:Nat→Nat→Nat→Nat
 |0,_,i=>i
 |f+1,x,i=>match Nat.beq (x % 2) 1 with|true=>i|false=>ctzB f (x/2) (i+1)
def lenB:Nat→Nat→Nat→Nat
 |0,_,i=>i
 |f+1,x,i=>match Nat.beq x 0 with|true=>i|false=>lenB f (x/2) (i+1)
theorem idxB_ok (x:UInt8): ∀(l:List UInt8) (i:Nat),idxB l x.toNat i=if Lib.indexByte l x= -1 then -1 else Lib.indexByte l x+i
 |[],i=>rfl
 |c::l,i=>by
  unfold idxB Lib.indexByte
  have E:=Lib.indexByte_ge l x
  by_cases e:c=x
  ·subst e
   rw [beq_yes rfl]
   simp
  ·have y:c.toNat≠x.toNat:=fun h=>e (UInt8.toNat_inj.1 h)
   rw [beq_no y,idxB_ok x l (i+1)]
   have B:(c==x)=false:=by simpa using e
   simp only [B,Bool.false_eq_true,if_false]
   by_cases g:Lib.indexByte l x= -1
   ·simp [g]
   ·have D:(Lib.indexByte l x== -1)=false:=by simpa using g
    simp only [D,if_neg g,Bool.false_eq_true,if_false]
    rw [if_neg (by omega)]
    push_cast
    omega
theorem idxB_zero (x:UInt8) (l:List UInt8):idxB l x.toNat 0=Lib.indexByte l x:=by
 rw [idxB_ok];split
 ·rename_i h;exact h.symm
 ·simp
theorem cntB_ok (x:UInt8): ∀(l:List UInt8) (n:Nat),cntB l x.toNat n=n+Lib.countByte l x
 |[],n=>rfl
 |c::l,n=>by
  unfold cntB Lib.countByte
  rw [List.count_cons]
  by_cases e:c=x
  ·subst e
   rw [beq_yes rfl]
   simp only [beq_self_eq_true,if_true]
   rw [cntB_ok c l (n+1)]
   show _=n+(l.count c+1)
   unfold Lib.countByte
   omega
  ·have g:c.toNat≠x.toNat:=fun h=>e (UInt8.toNat_inj.1 h)
   rw [beq_no g]
   have y:(c==x)=false:=by simpa using e
   simp only [y,Bool.false_eq_true,if_false,Nat.add_zero]
   exact cntB_ok x l n
theorem prefB_ok: ∀(t l:List UInt8),prefB t l=t.isPrefixOf l
 |[],_=>by simp [prefB]
 |_::_,[]=>by simp [prefB]
 |a::t,b::l=>by
  unfold prefB
  by_cases e:a=b
  ·subst e
   rw [beq_yes rfl]
   simp only [List.isPrefixOf,beq_self_eq_true,Bool.true_and]
   exact prefB_ok t l
  ·have g:a.toNat≠b.toNat:=fun h=>e (UInt8.toNat_inj.1 h)
   rw [beq_no g]
   have y:(a==b)=false:=by simpa using e
   simp [List.isPrefixOf,y]
theorem idxS_ok (t:List UInt8): ∀(l:List UInt8) (i:Nat),idxS l t i=if Lib.index l t= -1 then -1 else Lib.index l t+i
 |[],i=>by
  unfold idxS Lib.index
  cases t<;>simp
 |c::l,i=>by
  unfold idxS Lib.index
  have B:=Lib.index_ge l t
  rw [prefB_ok]
  cases h:t.isPrefixOf (c::l) with
  |true=>simp
  |false=>
   simp only [Bool.false_eq_true,if_false]
   rw [idxS_ok t l (i+1)]
   by_cases g:Lib.index l t= -1
   ·simp [g]
   ·have y:(Lib.index l t== -1)=false:=by simpa using g
    simp only [y,if_neg g,Bool.false_eq_true,if_false]
    rw [if_neg (by omega)]
    push_cast
    omega
theorem idxS_zero (t l:List UInt8):idxS l t 0=Lib.index l t:=by
 rw [idxS_ok];split
 ·rename_i h;exact h.symm
 ·simp
theorem digs_ok: ∀(f n:Nat) (g r:List UInt8),digs f n g=some r→r=Lib.decDigits n++g
 |0,_,_,_,h=>by cases h
 |f+1,n,g,r,h=>by
  unfold digs at h
  rw [Lib.decDigits]
  by_cases e:n≤9
  ·rw [Nat.ble_eq_true_of_le e] at h
   cases h
   rw [dif_pos (by omega)]
   rfl
  ·have B:Nat.ble n 9=false:=by
    cases y:Nat.ble n 9
    ·rfl
    ·exact absurd (Nat.le_of_ble_eq_true y) e
   rw [B] at h
   rw [dif_neg (by omega),digs_ok f _ _ _ h]
   simp
theorem joinB_ok: ∀(l:List (List UInt8)) (p:List UInt8),joinB l p=Lib.join l p
 |[],_=>rfl
 |[x],p=>by simp [joinB,Lib.join,List.intercalate]
 |x::y::l,p=>by
  unfold joinB
  rw [joinB_ok (y::l) p]
  simp [Lib.join,List.intercalate]
theorem ctzB_ok: ∀(f x i:Nat),ctzB f x i=i+Lib.ctzFrom f x
 |0,_,_=>rfl
 |f+1,x,i=>by
  unfold ctzB Lib.ctzFrom
  by_cases e:x % 2=1
  ·rw [beq_yes e,if_pos e];rfl
  ·rw [beq_no e,if_neg e];show ctzB f (x/2) (i+1)=_;rw [ctzB_ok f];omega
theorem lenB_ok: ∀(f x i:Nat),lenB f x i=i+Lib.bitLenAux f x
 |0,_,_=>rfl
 |f+1,x,i=>by
  unfold lenB Lib.bitLenAux
  by_cases e:x=0
  ·rw [beq_yes e,if_pos e];rfl
  ·rw [beq_no e,if_neg e];show lenB f (x/2) (i+1)=_;rw [lenB_ok f];omega
end
end

noncomputable section
open Go Go.RowKit Go.Proofs
section
variable {P:Program} {G base:Nat} {T:World→Prop}
def oNoEscape:OrcH:=fun args _=>match args with|[x]=>some x|_=>none
def oIndexByte:OrcH:=fun args _=>match args with
 |[.string s,.int .u8 (.ofNat n)]=>(match Nat.blt n 256 with|true=>some (.int .i64 (idxB s.data.toList n 0))|false=>none)
 |_=>none
def oCount:OrcH:=fun args _=>match args with
 |[.string s,.int .u8 (.ofNat n)]=>(match Nat.blt n 256 with|true=>some (.int .i64 (.ofNat (cntB s.data.toList n 0)))|false=>none)
 |_=>none
def oIndex:OrcH:=fun args _=>match args with
 |[.string s,.string t]=>(match Nat.blt s.size 4294967281 with|true=>some (.int .i64 (idxS s.data.toList t.data.toList 0))|false=>none)
 |_=>none
def oLen:OrcH:=fun args _=>match args with
 |[.int .u64 (.ofNat n)]=>(match Nat.blt n 18446744073709551616 with|true=>some (.int .i64 (.ofNat (lenB 64 n 0)))|false=>none)
 |_=>none
def oCtz:OrcH:=fun args _=>match args with
 |[.int .u64 (.ofNat n)]=>(match Nat.blt n 18446744073709551616 with|true=>some (.int .i64 (.ofNat (match Nat.beq n 0 with|true=>64|false=>ctzB 64 n 0)))|false=>none)
 |_=>none
def oItoa:OrcH:=fun args _=>match args with
 |[.int .i64 (.ofNat n)]=>(match Nat.blt n 9223372036854775808,digs 20 n [] with|true,some l=>some (.string ⟨l.toArray⟩)|_,_=>none)
 |_=>none
def oTz:OrcH:=fun args _=>match args with
 |[.int .u64 (.ofNat n)]=>(match Nat.beq n 16 with|true=>some (.int .i64 4)|false=>(match Nat.beq n 8 with|true=>some (.int .i64 3)|false=>none))
 |_=>none
def oReplace:OrcH:=fun args _=>match args with
 |[.string s,.string o,.string n]=>(match Nat.blt s.size 4294967281&&Nat.blt 0 o.size&&Nat.ble (s.size+Lib.countB s o*n.size) 1000000 with|true=>some (.string ⟨(Lib.replaceAll s.data.toList o.data.toList n.data.toList).toArray⟩)|false=>none)
 |_=>none
def strsB:List Value→Option (List ByteArray)
 |[]=>some []
 | .string s::l=>(match strsB l with|some m=>some (s::m)|none=>none)
 |_=>none
def oJoin:OrcH:=fun args h=>match args with
 |[.slice (some a) n c,.string g]=>(match cellsAt h a n with
  |some cs=>(match strsB cs,Nat.ble n (c/2)&&Nat.ble n 1000000 with
   |some xs,true=>(match Nat.ble (joinB (xs.map (·.data.toList)) g.data.toList).length 1000000 with|true=>some (.string ⟨(joinB (xs.map (·.data.toList)) g.data.toList).toArray⟩)|false=>none)
   |_,_=>none)
  |none=>none)
 |_=>none
theorem value_callR {f:FuncId} {Args:Array Value} {W:World} {V v:Value} {φ:Phi} (h:(callFunc f Args).run P W= .ok (.value V) W) (g:Rel G φ v V):
  CallR P f Args W fun V W'=>Rel G φ v V∧Below W.heap.size W W':= .inl ⟨V,W,h,g,Below.refl _ _⟩
theorem calls_callR {f:FuncId} {Args:Array Value} {W:World} {V v:Value} {φ:Phi} (y:Enters P f) (h:Calls P f Args W fun e W'=>e= .returned V∧Below W.heap.size W W') (g:Rel G φ v V):
  CallR P f Args W fun V W'=>Rel G φ v V∧Below W.heap.size W W':= .inr ⟨f,Args,y Args W,h.mono fun _ _ h=>⟨V,h.1,g,h.2⟩⟩
theorem oNoEscape_ok {f:FuncId} {fn:Func} (E:P.funcs[f]? =some fn) (g:(fn.name== "runtime.NumGoroutine")=false) (D:fn.body.isNone=true) (y:Extern.findNext fn=none) (L:Extern.find fn=some Extern.AbiNoEscape.same):OrcFn P G base T f oNoEscape:=by
 intro args st v φ W Args h M I K J
 match args,h with
 |[x],h=>
  cases h
  obtain ⟨X,rfl,B⟩:=args1 J
  refine value_callR (V:=X) ?_ B
  rw [run_callFunc_extern E g D y L,Lib.run_noEscape]
  rfl
theorem u8_nat {n:Nat} (h:n<256):((Int.ofNat n).toNat.toUInt8).toNat=n:=by
 show (UInt8.ofNat n).toNat=n
 simp;omega
theorem oIndexByte_ok {f:FuncId} {fn:Func} (K:P.funcs[f]? =some fn) (g:(fn.name== "runtime.NumGoroutine")=false) (I:fn.body.isNone=true) (D:Extern.findNext fn=none) (O:Extern.find fn=some Extern.BytealgIndexByte.indexByte):OrcFn P G base T f oIndexByte:=by
 intro args st v φ W Args h Q L N M
 unfold oIndexByte at h
 split at h
 ·rename_i s n
  split at h
  ·rename_i y
   cases h
   obtain ⟨A,B,rfl,E,J⟩:=args2 M
   cases E.string
   cases J.int
   have y:=blt_ok y
   refine value_callR (V:= .int .i64 (Lib.indexByte s.data.toList (Int.ofNat n).toNat.toUInt8)) ?_ ?_
   ·rw [run_callFunc_extern K g I D O,Lib.run_indexByteString]
    rfl
   ·have e:=idxB_zero (Int.ofNat n).toNat.toUInt8 s.data.toList
    rw [u8_nat y] at e
    rw [e]
    exact .free (d:=0) rfl
  ·cases h
 ·cases h
theorem oCount_ok {f:FuncId} {fn:Func} (K:P.funcs[f]? =some fn) (g:(fn.name== "runtime.NumGoroutine")=false) (I:fn.body.isNone=true) (D:Extern.findNext fn=none) (O:Extern.find fn=some Extern.BytealgCount.count):OrcFn P G base T f oCount:=by
 intro args st v φ W Args h Q L N M
 unfold oCount at h
 split at h
 ·rename_i s n
  split at h
  ·rename_i y
   cases h
   obtain ⟨A,B,rfl,E,J⟩:=args2 M
   cases E.string
   cases J.int
   have y:=blt_ok y
   refine value_callR (V:= .int .i64 (Lib.countByte s.data.toList (Int.ofNat n).toNat.toUInt8)) ?_ ?_
   ·rw [run_callFunc_extern K g I D O,Lib.run_countString]
    rfl
   ·have e:=cntB_ok (Int.ofNat n).toNat.toUInt8 s.data.toList 0
    rw [u8_nat y,Nat.zero_add] at e
    rw [e]
    exact .free (d:=0) rfl
  ·cases h
 ·cases h
theorem oIndex_ok {f:FuncId} (I:Enters P f) (E: ∀(s t:ByteArray) (W:World),T W→s.size<4294967281→Calls P f #[.string s,.string t] W fun e w'=>e= .returned (.int .i64 (Lib.index s.data.toList t.data.toList))∧w'=W):OrcFn P G base T f oIndex:=by
 intro args st v φ W Args h M K y L
 unfold oIndex at h
 split at h
 ·rename_i s t
  split at h
  ·rename_i g
   cases h
   obtain ⟨A,B,rfl,D,J⟩:=args2 L
   cases D.string
   cases J.string
   refine calls_callR I ((E s t W y (blt_ok g)).mono fun _ _ h=>⟨h.1,h.2▸Below.refl _ _⟩) ?_
   rw [idxS_zero]
   exact .free (d:=0) rfl
  ·cases h
 ·cases h
theorem oLen_ok {f:FuncId} (D:Enters P f) (B: ∀(x:Int) (W:World),0≤x→x≤18446744073709551615→Calls P f #[.int .u64 x] W fun e w'=>e= .returned (.int .i64 (Lib.bitLen x.toNat))∧w'=W):OrcFn P G base T f oLen:=by
 intro args st v φ W Args h K E J I
 unfold oLen at h
 split at h
 ·rename_i n
  split at h
  ·rename_i g
   cases h
   obtain ⟨A,rfl,y⟩:=args1 I
   cases y.int
   have g:=blt_ok g
   refine calls_callR D ((B (Int.ofNat n) W (Int.natCast_nonneg n) (by show (n:Int)≤_;omega)).mono fun _ _ h=>⟨h.1,h.2▸Below.refl _ _⟩) ?_
   rw [lenB_ok,Nat.zero_add]
   exact .free (d:=0) rfl
  ·cases h
 ·cases h
theorem oCtz_ok {f:FuncId} (E:Enters P f) (D: ∀(x:Nat) (W:World),T W→x<18446744073709551616→Calls P f #[.int .u64 x] W fun e w'=>e= .returned (.int .i64 (Lib.ctz 64 x))∧w'=W):OrcFn P G base T f oCtz:=by
 intro args st v φ W Args h K I y J
 unfold oCtz at h
 split at h
 ·rename_i n
  split at h
  ·rename_i g
   cases h
   obtain ⟨A,rfl,B⟩:=args1 J
   cases B.int
   refine calls_callR E ((D n W y (blt_ok g)).mono fun _ _ h=>⟨h.1,h.2▸Below.refl _ _⟩) ?_
   have e:(match Nat.beq n 0 with|true=>64|false=>ctzB 64 n 0)=Lib.ctz 64 n:=by
    unfold Lib.ctz
    by_cases e:n=0
    ·rw [beq_yes e,if_pos e]
    ·rw [beq_no e,if_neg e]
     show ctzB 64 n 0=_
     rw [ctzB_ok,Nat.zero_add]
   rw [e]
   exact .free (d:=0) rfl
  ·cases h
 ·cases h
theorem oItoa_ok {f:FuncId} (L:Enters P f) (E: ∀(n:Int) (W:World),T W→ -9223372036854775808≤n→n≤9223372036854775807→Calls P f #[.int .i64 n] W fun e w'=>e= .returned (.string ⟨(Lib.itoa n).toArray⟩)∧Below W.heap.size W w'):OrcFn P G base T f oItoa:=by
 intro args st v φ W Args h M J y K
 unfold oItoa at h
 split at h
 ·rename_i n
  split at h
  ·rename_i l g B
   cases h
   obtain ⟨A,rfl,D⟩:=args1 K
   cases D.int
   have g:=blt_ok g
   refine calls_callR L ((E (Int.ofNat n) W y (by show _≤(n:Int);omega) (by show (n:Int)≤_;omega))) ?_
   ·have e:=digs_ok 20 n [] l B
    rw [List.append_nil] at e
    have I:Lib.itoa (Int.ofNat n)=l:=by
     unfold Lib.itoa
     rw [if_neg (by show ¬(n:Int)<0;omega),e]
     rfl
    rw [I]
    exact .free (d:=0) rfl
  ·cases h
 ·cases h
theorem oTz_ok {f:FuncId} (B:Enters P f) (E: ∀W,T W→Calls P f #[.int .u64 8] W fun e w'=>e= .returned (.int .i64 3)∧w'=W) (y: ∀W,T W→Calls P f #[.int .u64 16] W fun e w'=>e= .returned (.int .i64 4)∧w'=W):OrcFn P G base T f oTz:=by
 intro args st v φ W Args h K I g J
 unfold oTz at h
 split at h
 ·rename_i n
  obtain ⟨A,rfl,D⟩:=args1 J
  cases D.int
  by_cases e:n=16
  ·subst e
   cases h
   exact calls_callR B ((y W g).mono fun _ _ h=>⟨h.1,h.2▸Below.refl _ _⟩) (.free (d:=0) rfl)
  ·rw [beq_no e] at h
   by_cases e:n=8
   ·subst e
    cases h
    exact calls_callR B ((E W g).mono fun _ _ h=>⟨h.1,h.2▸Below.refl _ _⟩) (.free (d:=0) rfl)
   ·rw [beq_no e] at h
    cases h
 ·cases h
theorem args3 {φ:Phi} {a b c:Value} {Args:Array Value} (h:RelL G φ [a,b,c] Args.toList): ∃A B C,Args= #[A,B,C]∧Rel G φ a A∧Rel G φ b B∧Rel G φ c C:=by
 obtain ⟨A,L,e,E,J⟩:=h.cons_inv
 obtain ⟨B,M,I,y,D⟩:=J.cons_inv
 obtain ⟨C,K,g,N,O⟩:=D.cons_inv
 rw [I,g,O.nil_inv] at e
 exact ⟨A,B,C,Array.ext' (by simpa using e),E,y,N⟩
theorem oReplace_ok {f:FuncId} (M:Enters P f) (I: ∀(s o n:ByteArray) (W:World),T W→s.size<4294967281→1≤o.size→s.size+Lib.countB s o*n.size≤140737488355328→
   Calls P f #[.string s,.string o,.string n] W fun e w'=>e= .returned (.string ⟨(Lib.replaceAll s.data.toList o.data.toList n.data.toList).toArray⟩)∧Below W.heap.size W w'):OrcFn P G base T f oReplace:=by
 intro args st v φ W Args h O K y L
 unfold oReplace at h
 split at h
 ·rename_i s o n
  split at h
  ·rename_i g
   cases h
   rw [Bool.and_eq_true,Bool.and_eq_true] at g
   obtain ⟨A,B,C,rfl,E,J,D⟩:=args3 L
   cases E.string
   cases J.string
   cases D.string
   have N:=Nat.le_of_ble_eq_true g.2
   exact calls_callR M (I s o n W y (blt_ok g.1.1) (blt_ok g.1.2) (by omega)) (.free (d:=0) rfl)
  ·cases h
 ·cases h
theorem strsB_ok: ∀{l:List Value} {m:List ByteArray},strsB l=some m→l=m.map .string
 |[],m,h=>by cases h;rfl
 | .string s::l,m,h=>by
  unfold strsB at h
  split at h
  ·rename_i y g
   cases h
   rw [strsB_ok g]
   rfl
  ·cases h
 | .bool _::_,_,h=>by cases h
 | .int _ _::_,_,h=>by cases h
 | .float _ _::_,_,h=>by cases h
 | .complex _ _ _::_,_,h=>by cases h
 | .pointer _::_,_,h=>by cases h
 | .slice _ _ _::_,_,h=>by cases h
 | .map _::_,_,h=>by cases h
 | .chan _::_,_,h=>by cases h
 | .func _ _ _::_,_,h=>by cases h
 | .nilFunc::_,_,h=>by cases h
 | .iface _ _::_,_,h=>by cases h
 | .nilIface::_,_,h=>by cases h
 | .agg _::_,_,h=>by cases h
 | .tuple _::_,_,h=>by cases h
theorem oJoin_ok {f:FuncId} (he:Enters P f) (Z: ∀(bk o c:Nat) (xs:List ByteArray) (y:ByteArray) (w:World),(∀(j:Nat) x,xs[j]? =some x→w.cell? ⟨bk,o+j,none⟩=some (.string x))→bk<w.heap.size→xs.length≤140737488355328→xs.length≤c→
   (Lib.join (xs.map (·.data.toList)) y.data.toList).length≤140737488355328→Calls P f #[.slice (some ⟨bk,o,none⟩) xs.length c,.string y] w fun e w'=>e= .returned (.string ⟨(Lib.join (xs.map (·.data.toList)) y.data.toList).toArray⟩)∧Below w.heap.size w w'):OrcFn P G base T f oJoin:=by
 intro args st v φ W Args h K qc qd ha
 unfold oJoin at h
 split at h
 ·rename_i a n c y
  split at h
  ·rename_i cs N
   split at h
   ·rename_i xs Q E
    rw [Bool.and_eq_true] at E
    have qa:=Nat.le_of_ble_eq_true E.1
    have Y:=Nat.le_of_ble_eq_true E.2
    split at h
    ·rename_i D
     cases h
     have D:=Nat.le_of_ble_eq_true D
     obtain ⟨A,B,rfl,h1,h2⟩:=args2 ha
     cases h2.string
     obtain ⟨r,κ,qb,M,hA⟩:=h1.slice_inv
     obtain ⟨L,hL,S,_,I⟩:=cellsAt_ok K N M
     have hx:=strsB_ok Q
     have J:L=xs.map .string:=by
      refine hL.eq_of_pf K.above (d:=0) ?_|>.trans hx
      rw [hx]
      simp [pf]
     have X:xs.length=n:=by rw [←S,J];simp
     have g: ∀(j:Nat) x,xs[j]? =some x→W.cell? ⟨r,a.off+j,none⟩=some (.string x):=by
      intro j x hj
      have:=I j (.string x) (by rw [J];simp [hj])
      rwa [addr_add] at this
     rw [joinB_ok] at D ⊢
     rcases hA with ⟨U,O,rfl⟩|⟨U,O,rfl⟩
     ·subst X
      exact calls_callR he (Z r a.off U xs y W g (K.dom _ _ _ M).2.2 (by omega) (by omega) (by omega)) (.free (d:=0) rfl)
     ·subst X
      exact calls_callR he (Z r a.off (U+κ) xs y W g (K.dom _ _ _ M).2.2 (by omega) (by omega) (by omega)) (.free (d:=0) rfl)
    ·cases h
   ·cases h
  ·cases h
 ·cases h
theorem oFn_ok {f:FuncId} {k:OrcH} (I:Enters P f) (h: ∀args hp v,k args hp=some v→args.all (pf G 6)=true∧pf G 6 v=true∧ ∀W,base≤W.heap.size→T W→Calls P f args.toArray W fun e w'=>e= .returned v∧Below W.heap.size W w'):OrcFn P G base T f k:=by
 intro args st v φ W Args B K g y M
 obtain ⟨D,L,J⟩:=h args st.heap v B
 have e:=M.eq_of_pf K.above D
 have E:Args=args.toArray:=Array.ext' (by simpa using e)
 subst E
 exact calls_callR I (J W g y) (.free L)
def eqL (l:List UInt8):List UInt8→Bool:=
 List.rec (motive:=fun _=>List UInt8→Bool) (fun m=>List.rec (motive:=fun _=>Bool) true (fun _ _ _=>false) m)
  (fun x _ g m=>List.rec (motive:=fun _=>Bool) false (fun y m _=>Bool.rec (motive:=fun _=>Bool) false (g m) (Nat.beq x.toNat y.toNat)) m) l
theorem eqL_ok: ∀{l m:List UInt8},eqL l m=true→l=m
 |[],[],_=>rfl
 |[],_::_,h=>by cases h
 |_::_,[],h=>by cases h
 |x::l,y::m,h=>by
  have e:eqL (x::l) (y::m)=Bool.rec (motive:=fun _=>Bool) false (eqL l m) (Nat.beq x.toNat y.toNat):=rfl
  rw [e] at h
  by_cases g:x.toNat=y.toNat
  ·rw [beq_yes g] at h
   rw [UInt8.toNat_inj.1 g,eqL_ok h]
  ·rw [beq_no g] at h;cases h
abbrev Memo:=List (List UInt8×Value)
def memoL (t:Memo) (s:List UInt8):Option Value:=
 List.rec (motive:=fun _=>Option Value) none (fun x _ g=>Bool.rec (motive:=fun _=>Option Value) g (some x.2) (eqL x.1 s)) t
theorem memoL_ok: ∀{t:Memo} {s:List UInt8} {v:Value},memoL t s=some v→(s,v)∈t
 |[],_,_,h=>by cases h
 |x::t,s,v,h=>by
  have e:memoL (x::t) s=Bool.rec (motive:=fun _=>Option Value) (memoL t s) (some x.2) (eqL x.1 s):=rfl
  rw [e] at h
  cases g:eqL x.1 s with
  |true=>
   rw [g] at h
   cases h
   rw [←eqL_ok g]
   exact List.mem_cons_self
  |false=>rw [g] at h;exact List.mem_cons_of_mem _ (memoL_ok h)
def oMemo (t:Memo):OrcH:=fun args _=>match args with
 |[.string s]=>memoL t s.data.toList
 |_=>none
theorem oMemo_ok {f:FuncId} {t:Memo} (J:Enters P f) (B:t.all (fun x=>pf G 6 x.2)=true)
  (h: ∀x∈t,∀W,base≤W.heap.size→T W→Calls P f #[.string ⟨x.1.toArray⟩] W fun e w'=>e= .returned x.2∧Below W.heap.size W w'):OrcFn P G base T f (oMemo t):=by
 refine oFn_ok J fun args D v g=> ?_
 unfold oMemo at g
 split at g
 ·rename_i s
  have y:=memoL_ok g
  refine ⟨rfl,List.all_eq_true.1 B _ y,fun W I E=> ?_⟩
  have:=h _ y W I E
  simpa using this
 ·cases g
theorem map_eq {B D:Type} {f g:B→D}: ∀{l:List B},l.map f=l.map g→ ∀x∈l,f x=g x
 |[],_,_,h=>by cases h
 |y::l,e,x,h=>by
  rw [List.map_cons,List.map_cons] at e
  rcases List.mem_cons.1 h with rfl|h
  ·exact (List.cons.inj e).1
  ·exact map_eq (List.cons.inj e).2 x h
end
end

noncomputable section
open Go Go.RowKit Go.Proofs
inductive R where|no|yes (v:Value) (st:St)
inductive RT where|no|yes (ts:Ts) (st:St)
inductive RC where|no|nrm (ts:Ts) (st:St)|ex (id:Nat) (ts:Ts) (st:St)|rt (ts:Ts) (st:St)
def ofRes (r:Res):R:=Option.rec (motive:=fun _=>R) .no (fun x=> .yes x.1 x.2) r
inductive VI where|i (k:IntKind) (n:Nat)|o
inductive VB where|t|f|o
inductive VP where|p (b o:Nat)|o
inductive VT where|t (l:List Value)|o
def vI:Value→VI:= @Value.rec (fun _=>VI) (fun _=>Unit) (fun _=>Unit) (fun _=> .o) (fun k n=>Int.rec (motive:=fun _=>VI) (fun n=> .i k n) (fun _=> .o) n) (fun _ _=> .o) (fun _ _ _=> .o) (fun _=> .o) (fun _=> .o) (fun _ _ _=> .o) (fun _=> .o) (fun _=> .o)
 (fun _ _ _ _ _=> .o) .o (fun _ _ _=> .o) .o (fun _ _=> .o) (fun _ _=> .o) (fun _ _=>()) () (fun _ _ _ _=>())
def vB:Value→VB:= @Value.rec (fun _=>VB) (fun _=>Unit) (fun _=>Unit) (fun b=>Bool.rec (motive:=fun _=>VB) .f .t b) (fun _ _=> .o) (fun _ _=> .o) (fun _ _ _=> .o) (fun _=> .o) (fun _=> .o) (fun _ _ _=> .o) (fun _=> .o) (fun _=> .o)
 (fun _ _ _ _ _=> .o) .o (fun _ _ _=> .o) .o (fun _ _=> .o) (fun _ _=> .o) (fun _ _=>()) () (fun _ _ _ _=>())
def vPa (a:Addr):VP:=Addr.rec (motive:=fun _=>VP) (fun b o s=>Option.rec (motive:=fun _=>VP) (.p b o) (fun _=> .o) s) a
def vP:Value→VP:= @Value.rec (fun _=>VP) (fun _=>Unit) (fun _=>Unit) (fun _=> .o) (fun _ _=> .o) (fun _ _=> .o) (fun _ _ _=> .o) (fun _=> .o) (fun a=>Option.rec (motive:=fun _=>VP) .o vPa a) (fun _ _ _=> .o) (fun _=> .o) (fun _=> .o)
 (fun _ _ _ _ _=> .o) .o (fun _ _ _=> .o) .o (fun _ _=> .o) (fun _ _=> .o) (fun _ _=>()) () (fun _ _ _ _=>())
def vT:Value→VT:= @Value.rec (fun _=>VT) (fun _=>Unit) (fun _=>Unit) (fun _=> .o) (fun _ _=> .o) (fun _ _=> .o) (fun _ _ _=> .o) (fun _=> .o) (fun _=> .o) (fun _ _ _=> .o) (fun _=> .o) (fun _=> .o)
 (fun _ _ _ _ _=> .o) .o (fun _ _ _=> .o) .o (fun _ _=> .o) (fun vs _=>Array.rec (motive:=fun _=>VT) (fun l=> .t l) vs) (fun _ _=>()) () (fun _ _ _ _=>())
def vOne:Value→Bool:= @Value.rec (fun _=>Bool) (fun _=>Unit) (fun _=>Unit) (fun _=>true) (fun _ _=>true) (fun _ _=>true) (fun _ _ _=>true) (fun _=>true) (fun _=>true) (fun _ _ _=>true) (fun _=>true) (fun _=>true)
 (fun _ _ _ _ _=>true) true (fun _ _ _=>true) true (fun _ _=>false) (fun _ _=>false) (fun _ _=>()) () (fun _ _ _ _=>())
def kNo (k:IntKind):Nat:=IntKind.rec (motive:=fun _=>Nat) 0 1 2 3 4 5 6 7 k
def kMax (k:IntKind):Nat:=IntKind.rec (motive:=fun _=>Nat) 127 32767 2147483647 9223372036854775807 255 65535 4294967295 18446744073709551615 k
def sameK (k l:IntKind):Bool:=Nat.beq (kNo k) (kNo l)
def okN (k:IntKind) (n:Nat):Option Value:=br (Nat.ble n (kMax k)) (some (.int k (.ofNat n))) none
def inK (k:IntKind) (m n:Nat) (o:Option Value):Option Value:=br (Nat.ble m (kMax k)) (br (Nat.ble n (kMax k)) o none) none
def kBits (k:IntKind):Nat:=IntKind.rec (motive:=fun _=>Nat) 8 16 32 64 8 16 32 64 k
abbrev NB:=Bool→IntKind→Nat→Nat→Option Value
def natBin:BinOp→NB:=
 @BinOp.rec (fun _=>NB) (fun s k m n=>br s (okN k (Nat.add m n)) none) (fun s k m n=>br s (br (Nat.ble n m) (okN k (Nat.sub m n)) none) none) (fun s k m n=>br s (okN k (Nat.mul m n)) none)
  (fun s k m n=>br s (br (Nat.beq n 0) none (okN k (Nat.div m n))) none) (fun s k m n=>br s (br (Nat.beq n 0) none (okN k (Nat.mod m n))) none)
  (fun s k m n=>br s (inK k m n (okN k (Nat.land m n))) none) (fun s k m n=>br s (inK k m n (okN k (Nat.lor m n))) none) (fun s k m n=>br s (inK k m n (okN k (Nat.xor m n))) none)
  (fun _ k m n=>br (Nat.ble n (kBits k)) (okN k (Nat.mul m (Nat.pow 2 n))) none) (fun _ k m n=>br (Nat.ble n (kBits k)) (some (.int k (.ofNat (Nat.div m (Nat.pow 2 n))))) none) (fun _ _ _ _=>none)
  (fun s _ m n=>br s (some (.bool (Nat.beq m n))) none) (fun s _ m n=>br s (some (.bool (br (Nat.beq m n) false true))) none) (fun s _ m n=>br s (some (.bool (Nat.blt m n))) none) (fun s _ m n=>br s (some (.bool (Nat.ble m n))) none)
  (fun s _ m n=>br s (some (.bool (Nat.blt n m))) none) (fun s _ m n=>br s (some (.bool (Nat.ble n m))) none)
def ovR (o:Option Value) (st:St) (g:R):R:=Option.rec (motive:=fun _=>R) g (fun v=> .yes v st) o
def binR1 (op:BinOp) (k:IntKind) (m:Nat) (b:VI) (st:St) (g:R):R:=VI.rec (motive:=fun _=>R) (fun l n=>ovR (natBin op (sameK k l) k m n) st g) g b
def binR (op:BinOp) (a b:Value) (st:St) (g:R):R:=VI.rec (motive:=fun _=>R) (fun k m=>binR1 op k m (vI b) st g) g (vI a)
def pathB (f:Nat):Nat→List Bool:=
 Nat.rec (motive:=fun _=>Nat→List Bool) (fun _=>[]) (fun _ g k=>Bool.rec (motive:=fun _=>List Bool) (Bool.rec (motive:=fun _=>List Bool) (false::g (Nat.sub (Nat.div k 2) 1)) (true::g (Nat.div k 2)) (Nat.beq (Nat.mod k 2) 1)) [] (Nat.beq k 0)) f
def path (k:Nat):List Bool:=pathB (Nat.add k 2) k
def Tr.getP (t:Tr):List Bool→Value:=
 Tr.rec (motive:=fun _=>List Bool→Value) (fun _=>undef) (fun _ v _ h g p=>List.rec (motive:=fun _=>Value) v (fun b q _=>Bool.rec (motive:=fun _=>Value) (g q) (h q) b) p) t
def putE (v:Value) (p:List Bool):Tr:=List.rec (motive:=fun _=>Tr) (.n .e v .e) (fun b _ g=>Bool.rec (motive:=fun _=>Tr) (.n .e undef g) (.n g undef .e) b) p
def Tr.putP (v:Value) (t:Tr):List Bool→Tr:=
 Tr.rec (motive:=fun _=>List Bool→Tr) (putE v) (fun l x r g h p=>List.rec (motive:=fun _=>Tr) (.n l v r) (fun b q _=>Bool.rec (motive:=fun _=>Tr) (.n l x (h q)) (.n (g q) x r) b) p) t
def ρF (ts:Ts):Operand→Value:= @Operand.rec (fun _=>Value) (fun t=>ts.getP (path t)) (fun v=>v) (fun g=> .pointer (some ⟨g,0,none⟩)) (fun f=> .func (.func f) #[] #[])
def putF (m:Nat) (ts:Ts) (d:Option Tmp) (v:Value):Ts:=Option.rec (motive:=fun _=>Ts) ts (fun d=>Bool.rec (motive:=fun _=>Ts) ts (ts.putP v (path d)) (Nat.blt d m)) d
def nthL (l:List Value):Nat→Option Value:=
 List.rec (motive:=fun _=>Nat→Option Value) (fun _=>none) (fun x _ g n=>Nat.rec (motive:=fun _=>Option Value) (some x) (fun m _=>g m) n) l
def consO (y:Value) (o:Option (List Value)):Option (List Value):=Option.rec (motive:=fun _=>Option (List Value)) none (fun l=>some (y::l)) o
def setL (x:Value) (l:List Value):Nat→Option (List Value):=
 List.rec (motive:=fun _=>Nat→Option (List Value)) (fun _=>none) (fun y l g n=>Nat.rec (motive:=fun _=>Option (List Value)) (some (x::l)) (fun m _=>consO y (g m)) n) l
abbrev FH:=Program→Nat→CallF→Ts→TypeId→St→R
def fMove (x:Operand):FH:=fun _ _ _ ts _ st=> .yes (ρF ts x) st
def pickR (c:VB) (a b:Value) (st:St):R:=VB.rec (motive:=fun _=>R) (.yes a st) (.yes b st) .no c
def fPick (c a b:Operand):FH:=fun _ _ _ ts _ st=>pickR (vB (ρF ts c)) (ρF ts a) (ρF ts b) st
def fBin (op:BinOp) (t:TypeId) (x y:Operand):FH:=fun P G callf ts ty st=>binR op (ρF ts x) (ρF ts y) st (ofRes (hBin op t x y P G callf ts ty st))
def vK:Option TypeDesc→Option IntKind:=fun d=>match d with|some (.int k)=>some k|_=>none
def convR1 (k:Option IntKind) (n:Nat) (st:St) (g:R):R:=Option.rec (motive:=fun _=>R) g (fun k=>ovR (okN k n) st g) k
def convR (k:Option IntKind) (x:VI) (st:St) (g:R):R:=VI.rec (motive:=fun _=>R) (fun _ n=>convR1 k n st g) g x
def someB (o:Option TypeDesc):Bool:=match o with|some _=>true|none=>false
def fConvert (g dst:TypeId) (x:Operand):FH:=fun P G callf ts ty st=>br (someB (P.underlying g)) (convR (vK (P.underlying dst)) (vI (ρF ts x)) st (ofRes (hConvert g dst x P G callf ts ty st))) (ofRes (hConvert g dst x P G callf ts ty st))
def notAgg (P:Program) (t:TypeId):Bool:=match isAggB P t with|some false=>true|_=>false
def loadO (h:AObj) (o:Nat) (st:St) (g:R):R:=AObj.rec (motive:=fun _=>R) (fun cs _ _ _=>ovR (nthL cs o) st g) (fun _ _=>g) (fun _ _=>g) h
def loadR1 (b o:Nat) (st:St) (g:R):R:=Option.rec (motive:=fun _=>R) g (fun h=>loadO h o st g) (look st.heap b)
def loadR (a:VP) (st:St) (g:R):R:=VP.rec (motive:=fun _=>R) (fun b o=>loadR1 b o st g) g a
def fLoad (t:TypeId) (a:Operand):FH:=fun P G callf ts ty st=>br (notAgg P t) (loadR (vP (ρF ts a)) st (ofRes (hLoad t a P G callf ts ty st))) (ofRes (hLoad t a P G callf ts ty st))
def size1 (P:Program) (t:TypeId):Bool:=match sizeB P t with|some 1=>true|_=>false
def storeS (r:Option (List Value)) (b:Nat) (e:TypeId) (ext:Bool) (st:St) (g:R):R:=Option.rec (motive:=fun _=>R) g (fun cs=> .yes undef (st.set b (.row cs e ext false))) r
def storeO (h:AObj) (b o:Nat) (x:Value) (st:St) (g:R):R:=AObj.rec (motive:=fun _=>R) (fun cs e ext fz=>br fz g (storeS (setL x cs o) b e ext st g)) (fun _ _=>g) (fun _ _=>g) h
def storeR1 (b o:Nat) (x:Value) (st:St) (g:R):R:=Option.rec (motive:=fun _=>R) g (fun h=>storeO h b o x st g) (look st.heap b)
def storeR (a:VP) (x:Value) (st:St) (g:R):R:=VP.rec (motive:=fun _=>R) (fun b o=>br (vOne x) (storeR1 b o x st g) g) g a
def fStore (t:TypeId) (a x:Operand):FH:=fun P G callf ts ty st=>br (size1 P t) (storeR (vP (ρF ts a)) (ρF ts x) st (ofRes (hStore t a x P G callf ts ty st))) (ofRes (hStore t a x P G callf ts ty st))
def offB (P:Program) (s:TypeId) (f:Nat):Option Nat:=
 match P.underlying s with
 |some (.struct g)=>(match g[f]? with
  |some f=>(match sizeB P f.type with|some (_+1)=>some f.offset|_=>none)
  |none=>none)
 |_=>none
def faR1 (b o:Nat) (d:Option Nat) (st:St):R:=Option.rec (motive:=fun _=>R) .no (fun d=> .yes (.pointer (some ⟨b,Nat.add o d,none⟩)) st) d
def faR (a:VP) (d:Option Nat) (st:St):R:=VP.rec (motive:=fun _=>R) (fun b o=>faR1 b o d st) .no a
def fFieldAddr (s:TypeId) (x:Operand) (f:Nat):FH:=fun P _ _ ts _ st=>faR (vP (ρF ts x)) (offB P s f) st
def extR (t:VT) (i:Nat) (st:St):R:=VT.rec (motive:=fun _=>R) (fun l=>ovR (nthL l i) st .no) .no t
def fExtract (t:Operand) (i:Nat):FH:=fun _ _ _ ts _ st=>extR (vT (ρF ts t)) i st
inductive VS where|s (l:List UInt8)|o
def vS:Value→VS:= @Value.rec (fun _=>VS) (fun _=>Unit) (fun _=>Unit) (fun _=> .o) (fun _ _=> .o) (fun _ _=> .o) (fun _ _ _=> .o) (fun s=> .s s.data.toList) (fun _=> .o) (fun _ _ _=> .o) (fun _=> .o) (fun _=> .o)
 (fun _ _ _ _ _=> .o) .o (fun _ _ _=> .o) .o (fun _ _=> .o) (fun _ _=> .o) (fun _ _=>()) () (fun _ _ _ _=>())
def dropL (l:List UInt8):Nat→List UInt8:=
 List.rec (motive:=fun _=>Nat→List UInt8) (fun _=>[]) (fun x t g n=>Nat.rec (motive:=fun _=>List UInt8) (x::t) (fun m _=>g m) n) l
def takeL (l:List UInt8):Nat→List UInt8:=
 List.rec (motive:=fun _=>Nat→List UInt8) (fun _=>[]) (fun x _ g n=>Nat.rec (motive:=fun _=>List UInt8) [] (fun m _=>x::g m) n) l
def nthB (l:List UInt8):Nat→Option UInt8:=
 List.rec (motive:=fun _=>Nat→Option UInt8) (fun _=>none) (fun x _ g n=>Nat.rec (motive:=fun _=>Option UInt8) (some x) (fun m _=>g m) n) l
def lenL (l:List UInt8):Nat→Nat:=List.rec (motive:=fun _=>Nat→Nat) (fun n=>n) (fun _ _ g n=>g (Nat.add n 1)) l
def isStrT (P:Program) (t:TypeId):Bool:=match P.underlying t with|some .string=>true|_=>false
def strV (l:List UInt8):Value:= .string ⟨⟨l⟩⟩
def sliS2 (l:List UInt8) (h:Nat) (st:St) (a:Option Nat):R:=Option.rec (motive:=fun _=>R) .no (fun a=> .yes (strV (takeL (dropL l a) (Nat.sub h a))) st) a
def sliS1 (l:List UInt8) (g:Option Value) (st:St) (h:Option Nat):R:=Option.rec (motive:=fun _=>R) .no (fun h=>sliS2 l h st (boundB g 0 h)) h
def sliS (g y:Option Value) (st:St) (h:R) (x:VS):R:=VS.rec (motive:=fun _=>R) (fun l=>sliS1 l g st (boundB y (lenL l 0) (lenL l 0))) h x
def fSlice (t:TypeId) (x:Operand) (h y g:Option Operand):FH:=fun P G callf ts ty st=>
 br (isStrT P t) (Option.rec (motive:=fun _=>R) (sliS (h.map (ρF ts)) (y.map (ρF ts)) st .no (vS (ρF ts x))) (fun _=> .no) g) (ofRes (hSlice t x h y g P G callf ts ty st))
def idxS2 (b:Option UInt8) (st:St):R:=Option.rec (motive:=fun _=>R) .no (fun b=> .yes (.int .u8 (.ofNat b.toNat)) st) b
def idxS1 (x:VS) (n:Nat) (st:St) (g:R):R:=VS.rec (motive:=fun _=>R) (fun l=>idxS2 (nthB l n) st) g x
def idxS0 (x:VS) (i:VI) (st:St) (g:R):R:=VI.rec (motive:=fun _=>R) (fun _ n=>idxS1 x n st g) g i
def fIndex (t:TypeId) (x g:Operand):FH:=fun P G callf ts ty st=>br (isStrT P t) (idxS0 (vS (ρF ts x)) (vI (ρF ts g)) st (ofRes (hIndex t x g P G callf ts ty st))) (ofRes (hIndex t x g P G callf ts ty st))
def nxtB (b:Option UInt8) (s:ByteArray) (pos:Nat) (k:Nat) (st:St) (g:R):R:=
 Option.rec (motive:=fun _=>R) g (fun b=>br (Nat.blt b.toNat 128) (.yes (.tuple #[.bool true,.int .i64 (.ofNat pos),.int .i32 (.ofNat b.toNat)]) (st.set k (.iter s (Nat.add pos 1)))) g) b
def nxtO (h:AObj) (k:Nat) (st:St) (g:R):R:=AObj.rec (motive:=fun _=>R) (fun _ _ _ _=>g) (fun s pos=>nxtB (nthB s.data.toList pos) s pos k st g) (fun _ _=>g) h
def nxt1 (k o:Nat) (st:St) (g:R):R:=br (Nat.beq o 0) (Option.rec (motive:=fun _=>R) g (fun h=>nxtO h k st g) (look st.heap k)) g
def nxt0 (p:VP) (st:St) (g:R):R:=VP.rec (motive:=fun _=>R) (fun k o=>nxt1 k o st g) g p
def fNext (it:Operand) (s:Bool):FH:=fun P G callf ts ty st=>br s (nxt0 (vP (ρF ts it)) st (ofRes (hNext it s P G callf ts ty st))) .no
def calleeF (c:Callee):Option FuncId:=match c with| .value (.func g)=>some g|_=>none
def argsF (ts:Ts) (l:List Operand):List Value:=List.rec (motive:=fun _=>List Value) [] (fun x _ g=>ρF ts x::g) l
def fCall (c:Call):FH:=fun P G callf ts ty st=>Option.rec (motive:=fun _=>R) (ofRes (hCall c P G callf ts ty st)) (fun g=>ofRes (callf g (argsF ts c.args.toList) st)) (calleeF c.callee)
def slowH (h:H):FH:=fun P G callf ts ty st=>ofRes (h P G callf ts ty st)
def opF:Op→FH:= @Op.rec (fun _=>FH) fMove fMove fPick (fun e=>slowH (hAlloc e)) (fun e x=>slowH (hBox e x)) (fun t p=>slowH (hBuild t p)) (fun t n p=>slowH (hBuildSlice t n p)) (fun t m k v=>slowH (hMapUpdate t m k v)) fLoad fStore (fun _=>slowH hNone) (fun _=>slowH hNone)
 (fun x=>slowH (hNil x)) (fun op t x y _=>fBin op t x y) (fun op _ x=>slowH (hUn op x)) fConvert (fun _ _=>slowH hNone) (fun t x=>slowH (hIface t x)) (fun f a c=>slowH (hFunc f a c)) (fun t r=>slowH (hMakeMap t r)) (fun _ _=>slowH hNone) (fun t l c=>slowH (hMakeSlice t l c))
 fSlice fFieldAddr (fun t x f=>slowH (hField t x f)) (fun t x i=>slowH (hIndexAddr t x i)) fIndex (fun t x i ok=>slowH (hLookup t x i ok)) (fun t m k v=>slowH (hMapUpdate t m k v)) (fun _ _ _=>slowH hNone) (fun _ _ _ _=>slowH hNone)
 (fun t x=>slowH (hRange t x)) fNext (fun _=>slowH hNone) (fun x _ t ok=>slowH (hAssert x t ok)) fExtract fCall (fun _=>slowH hNone) (fun _=>slowH hNone) (fun _=>slowH hNone) (fun _ _=>slowH hNone) (fun _ _ _=>slowH hNone) (fun _ _=>slowH hNone)
abbrev KF:=Ts→St→RT
def runK (P:Program) (G:Nat) (callf:CallF) (m:Nat) (o:Oper) (g:KF) (ts:Ts) (st:St):RT:=
 R.rec (motive:=fun _=>RT) .no (fun v st=>g (putF m ts o.dst v) st) (opF o.op P G callf ts o.type st)
def wantP (ops:Array Oper) (ts:Ts) (g:Nat×Bool):Bool:=match yieldB ops ts g.1,g.2 with
  |some true,true|some false,false=>true
  |_,_=>false
def guardK (ops:Array Oper) (ts:Ts) (g:Option (Nat×Bool)) (a b:RT):RT:=Option.rec (motive:=fun _=>RT) a (fun g=>br (wantP ops ts g) a b) g
def opsF (P:Program) (G:Nat) (callf:CallF) (m:Nat) (ops:Array Oper) (l:List Oper):KF:=
 List.rec (motive:=fun _=>KF) (fun ts st=> .yes ts st)
  (fun o _ g ts st=>guardK ops ts o.guard (runK P G callf m o g ts st) (g (putF m ts o.dst undef) st)) l
abbrev KD:=Nat→List (Nat×Kind)→Ts→St→RT
def calmK (P:Program) (G:Nat) (callf:CallF) (m:Nat) (o:Oper) (g:KD) (i:Nat) (ks:List (Nat×Kind)) (ts:Ts) (st:St):RT:=
 R.rec (motive:=fun _=>RT) .no (fun v _=>g (Nat.add i 1) ks (putF m ts o.dst v) st) (opF o.op P G callf ts o.type st)
def firmK (ops:Array Oper) (m:Nat) (o:Oper) (g:KD) (i:Nat) (ks:List (Nat×Kind)) (ts:Ts) (st:St) (r:R):RT:=
 R.rec (motive:=fun _=>RT) .no (fun v st'=>br (freeB ops i (kindOf ts o.op (!Nat.ble st.next st'.low)) ks&&Nat.ble st.next st'.next)
  (g (Nat.add i 1) ((i,kindOf ts o.op (!Nat.ble st.next st'.low))::ks) (putF m ts o.dst v) ⟨st'.heap,st'.next,Nat.min st.low st'.low⟩) .no) r
def newK (m:Nat) (n0:Nat) (o:Oper) (g:KD) (i:Nat) (ks:List (Nat×Kind)) (ts:Ts) (st:St):RT:=
 br (freeN (.new (Nat.add n0 i)) ks) (g (Nat.add i 1) ((i,.new (Nat.add n0 i))::ks) (putF m ts o.dst (ptrV (Nat.add n0 i))) st) .no
def drawK (P:Program) (G:Nat) (callf:CallF) (m:Nat) (ops:Array Oper) (n0:Nat) (o:Oper) (g:KD) (i:Nat) (ks:List (Nat×Kind)) (ts:Ts) (st:St):RT:=
 br (calmB o.op) (calmK P G callf m o g i ks ts st) (Option.rec (motive:=fun _=>RT) (br (calmT ts o.op) (calmK P G callf m o g i ks ts st)
  (firmK ops m o g i ks ts st (opF o.op P G callf ts o.type ⟨st.heap,st.next,st.next⟩))) (fun _=>newK m n0 o g i ks ts st) (allocB o.op))
def drawnF (P:Program) (G:Nat) (callf:CallF) (m:Nat) (ops:Array Oper) (n0:Nat) (l:List Oper):KD:=
 List.rec (motive:=fun _=>KD) (fun _ _ ts st=> .yes ts st)
  (fun o _ g i ks ts st=>guardK ops ts o.guard (drawK P G callf m ops n0 o g i ks ts st) (g (Nat.add i 1) ks (putF m ts o.dst undef) st)) l
def drwF (P:Program) (G:Nat) (callf:CallF) (m:Nat) (ops:Array Oper) (ts:Ts) (st:St):RT:=
 Option.rec (motive:=fun _=>RT) .no (fun h=>drawnF P G callf m ops st.next ops.toList 0 [] ts ⟨h,Nat.add st.next ops.size,st.low⟩) (preB P G (newsB ops.toList 0) st.next st.heap)
abbrev RecF:=Nat→Code→Ts→St→RC
def vFree:Value→Bool:= @Value.rec (fun _=>Bool) (fun _=>Unit) (fun _=>Unit) (fun _=>true) (fun _ _=>true) (fun _ _=>true) (fun _ _ _=>true) (fun _=>true) (fun a=>Option.rec (motive:=fun _=>Bool) true (fun _=>false) a) (fun _ _ _=>false) (fun _=>false) (fun _=>false)
 (fun _ _ _ _ _=>false) true (fun _ _ _=>false) true (fun _ _=>false) (fun _ _=>false) (fun _ _=>()) () (fun _ _ _ _=>())
def resF' (P:Program) (h:Hp) (ts:Ts) (l:List ResultVar):Option (List Value):=
 List.rec (motive:=fun _=>Option (List Value)) (some []) (fun x _ g=>ResultVar.rec (motive:=fun _=>Option (List Value)) (fun t=>consO (ts.getP (path t)) g) (fun a t=>Option.rec (motive:=fun _=>Option (List Value)) none (fun v=>consO v g) (loadB P h t (ts.get a))) x) l
def cutR (v:Value) (st st':St) (b:Bool):Res:=br b (some (v,⟨cutB st'.heap st.next,st'.next,Nat.min st.low st'.low⟩)) (some (v,⟨st'.heap,st'.next,Nat.min st.low st'.low⟩))
def freeV (G d:Nat) (v:Value):Bool:=br (vFree v) true (pf G d v)
def retV (G:Nat) (st st':St) (v:Value):Res:=cutR v st st' (br (Nat.ble st.next st'.low) (freeV G 6 v) false)
def retL (G:Nat) (st st':St) (l:List Value):Res:=
 List.rec (motive:=fun _=>Res) (cutR (.tuple #[]) st st' (Nat.ble st.next st'.low))
  (fun v r _=>List.rec (motive:=fun _=>Res) (retV G st st' v) (fun _ _ _=>cutR (.tuple ⟨v::r⟩) st st' (br (Nat.ble st.next st'.low) (List.rec (motive:=fun _=>Bool) true (fun x _ g=>br (freeV G 5 x) g false) (v::r)) false)) r) l
def retS (P:Program) (G:Nat) (rs:List ResultVar) (st:St) (ts':Ts) (st':St):Res:=Option.rec (motive:=fun _=>Res) none (retL G st st') (resF' P st'.heap ts' rs)
def retF (P:Program) (G:Nat) (rs:List ResultVar) (st:St) (r:RC):Res:=
 RC.rec (motive:=fun _=>Res) none (retS P G rs st) (fun _ _ _=>none) (retS P G rs st) r
def lenV (l:List Value):Nat→Nat:=List.rec (motive:=fun _=>Nat→Nat) (fun n=>n) (fun _ _ g n=>g (Nat.add n 1)) l
def ofArgsF (l:List Value):Nat→Tr→Tr:=List.rec (motive:=fun _=>Nat→Tr→Tr) (fun _ t=>t) (fun v _ g k t=>g (Nat.add k 1) (t.putP v (path k))) l
def enter2 (P:Program) (G:Nat) (h:RecF) (args:List Value) (st:St) (fn:Func) (g:Code):Res:=
 br (Nat.ble (lenV args 0) fn.ntmps) (br (Nat.ble fn.ntmps 4000) (retF P G fn.results.toList st (h fn.ntmps g (ofArgsF args 0 .e) ⟨st.heap,st.next,st.next⟩)) none) none
def enter1 (P:Program) (G:Nat) (g:RecF) (args:List Value) (st:St) (fn:Func):Res:=Option.rec (motive:=fun _=>Res) none (enter2 P G g args st fn) fn.body
def enterF (P:Program) (G:Nat) (h:RecF) (g:FuncId) (args:List Value) (st:St):Res:=Option.rec (motive:=fun _=>Res) none (enter1 P G h args st) P.funcs[g]?
def callFF (P:Program) (G:Nat) (orc:Orc) (h:RecF):CallF:=fun g args st=>
 Option.rec (motive:=fun _=>Res) (enterF P G h g args st) (fun v=>some (v,st)) (orc g args st.heap)
def ofRT (r:RT):RC:=RT.rec (motive:=fun _=>RC) .no (fun ts st=> .nrm ts st) r
abbrev FC:=Program→Nat→Orc→RecF→Nat→Ts→St→RC
def seqF (g:RecF) (m:Nat) (b:Code) (r:RC):RC:=RC.rec (motive:=fun _=>RC) .no (fun ts st=>g m b ts st) (fun id ts st=> .ex id ts st) (fun ts st=> .rt ts st) r
def condF (g:RecF) (m:Nat) (a b:Code) (ts:Ts) (st:St) (v:VB):RC:=VB.rec (motive:=fun _=>RC) (g m a ts st) (g m b ts st) .no v
def blockF (id:Nat) (r:RC):RC:=RC.rec (motive:=fun _=>RC) .no (fun ts st=> .nrm ts st) (fun k ts st=>br (Nat.beq k id) (.nrm ts st) (.ex k ts st)) (fun ts st=> .rt ts st) r
def rgF (ops:Array Oper) (g:Bool):FC:=fun P G orc h m ts st=>
 br (constsB G ops) (br g (br (regionB ops) (ofRT (drwF P G (callFF P G orc h) m ops ts st)) .no) (ofRT (opsF P G (callFF P G orc h) m ops ops.toList ts st))) .no
def noneF:FC:=fun _ _ _ _ _ _ _=> .no
def skipF:FC:=fun _ _ _ _ _ ts st=> .nrm ts st
def codeF:Code→FC:= @Code.rec (fun _=>FC) skipF (fun _ ops h=>rgF ops h) (fun a b _ _=>fun _ _ _ g m ts st=>seqF g m b (g m a ts st)) (fun x a b _ _=>fun _ _ _ g m ts st=>condF g m a b ts st (vB (ρF ts x)))
 (fun id b _=>fun _ _ _ g m ts st=>blockF id (g m b ts st)) (fun b _=>fun _ _ _ g m ts st=>seqF g m (.loop b) (g m b ts st)) (fun _ _ _ _ _ _=>noneF) (fun id=>fun _ _ _ _ _ ts st=> .ex id ts st)
 (fun b _=>fun _ _ _ g m ts st=>g m b ts st) (fun _=>skipF) (fun _=>noneF) (fun _ _ _ _ _ ts st=> .rt ts st) (fun _=>noneF)
def ecF (P:Program) (G:Nat) (orc:Orc) (n:Nat):RecF:=
 Nat.rec (motive:=fun _=>RecF) (fun _ _ _ _=> .no) (fun _ g m c ts st=>codeF c P G orc g m ts st) n
def fst? (r:Res):Option Value:=Option.rec (motive:=fun _=>Option Value) none (fun x=>some x.1) r
def runG (P:Program) (G:Nat) (orc:Orc) (n:Nat) (f:FuncId) (args:List Value):Option Value:=fst? (enterF P G (ecF P G orc n) f args ⟨[],G,G⟩)
def memN (l:List Nat) (g:Nat):Bool:=List.rec (motive:=fun _=>Bool) false (fun x _ h=>br (Nat.beq g x) true h) l
def orcIn (l:List Nat) (orc:Orc):Orc:=fun g args h=>br (memN l g) (orc g args h) none
end

noncomputable section
open Go Go.RowKit Go.Proofs
section
variable {P:Program} {G:Nat}
def RLe (r:R) (s:Res):Prop:= ∀v st,r= .yes v st→s=some (v,st)
def RTLe (r:RT) (s:ResT):Prop:= ∀ts st,r= .yes ts st→s=some (ts,st)
def ResLe (r s:Res):Prop:= ∀v st,r=some (v,st)→s=some (v,st)
def RCLe (r:RC) (s:ResC):Prop:=
 (∀ts st,r= .nrm ts st→s=some (.normal,ts,st))∧(∀i ts st,r= .ex i ts st→s=some (.exit i,ts,st))∧(∀ts st,r= .rt ts st→s=some (.ret,ts,st))
def CallLe (f g:CallF):Prop:= ∀a b c,ResLe (f a b c) (g a b c)
theorem ofRes_le {r s:Res} (h:ResLe r s):RLe (ofRes r) s:=by
 intro v st e
 cases r with
 |none=>cases e
 |some x=>exact h v st (by cases x;cases e;rfl)
theorem RLe.no {s:Res}:RLe .no s:=fun _ _ h=>by cases h
theorem RLe.yes {v:Value} {st:St} {s:Res} (h:s=some (v,st)):RLe (.yes v st) s:=fun _ _ e=>by cases e;exact h
theorem ResLe.rfl {r:Res}:ResLe r r:=fun _ _ h=>h
theorem ovR_le {o:Option Value} {st:St} {g:R} {s:Res} (h: ∀v,o=some v→s=some (v,st)) (y:RLe g s):RLe (ovR o st g) s:=by
 cases o with
 |none=>exact y
 |some v=>exact .yes (h v rfl)
theorem vI_i {v:Value} {k:IntKind} {n:Nat} (h:vI v= .i k n):v= .int k (.ofNat n):=by
 cases v with
 |int g m=>cases m with
  |ofNat m=>cases h;rfl
  |negSucc m=>cases h
 |_=>cases h
theorem vB_t {v:Value} (h:vB v= .t):v= .bool true:=by
 cases v with
 |bool b=>cases b;cases h;rfl
 |_=>cases h
theorem vB_f {v:Value} (h:vB v= .f):v= .bool false:=by
 cases v with
 |bool b=>cases b;rfl;cases h
 |_=>cases h
theorem vP_p {v:Value} {b o:Nat} (h:vP v= .p b o):v= .pointer (some ⟨b,o,none⟩):=by
 cases v with
 |pointer a=>
  cases a with
  |none=>cases h
  |some a=>
   obtain ⟨y,g,s⟩:=a
   cases s with
   |none=>cases h;rfl
   |some s=>cases h
 |_=>cases h
theorem vT_t {v:Value} {l:List Value} (h:vT v= .t l):v= .tuple ⟨l⟩:=by
 cases v with
 |tuple vs=>cases vs;cases h;rfl
 |_=>cases h
theorem vS_s {v:Value} {l:List UInt8} (h:vS v= .s l):v= .string ⟨⟨l⟩⟩:=by
 cases v with
 |string s=>obtain ⟨⟨m⟩⟩:=s;cases h;rfl
 |_=>cases h
theorem vOne_ok {v:Value} (h:vOne v=true):one v=true∧v.cells= #[v]:=by
 cases v<;>first|cases h;done|exact ⟨rfl,rfl⟩
theorem vFree_ok {v:Value} (d:Nat) (h:vFree v=true):pf G d v=true:=by
 cases v with
 |pointer a=>cases a with
  |none=>cases d<;>rfl
  |some a=>cases h
 |bool b=>cases d<;>rfl
 |int k n=>cases d<;>rfl
 |float k n=>cases d<;>rfl
 |complex k n m=>cases d<;>rfl
 |string s=>cases d<;>rfl
 |nilFunc=>cases d<;>rfl
 |nilIface=>cases d<;>rfl
 |_=>cases h
theorem path_succ (f k:Nat):pathB (f+1) k=if k=0 then [] else if k % 2=1 then true::pathB f (k/2) else false::pathB f (k/2 - 1):=by
 have e:pathB (f+1) k=Bool.rec (motive:=fun _=>List Bool) (Bool.rec (motive:=fun _=>List Bool) (false::pathB f (k/2 - 1)) (true::pathB f (k/2)) (Nat.beq (k % 2) 1)) [] (Nat.beq k 0):=rfl
 rw [e]
 by_cases h:k=0
 ·rw [beq_yes h,if_pos h]
 ·rw [beq_no h,if_neg h]
  by_cases g:k % 2=1
  ·rw [beq_yes g,if_pos g]
  ·rw [beq_no g,if_neg g]
theorem getP_ok: ∀(t:Tr) (f k:Nat),k+2≤2^f→t.getP (pathB f k)=t.get k
 | .e,f,k,h=>rfl
 | .n l v r,0,k,h=>by omega
 | .n l v r,f+1,k,h=>by
  rw [path_succ,Tr.get_n]
  by_cases g:k=0
  ·rw [if_pos g,if_pos g];rfl
  ·rw [if_neg g,if_neg g]
   by_cases y:k % 2=1
   ·rw [if_pos y,if_pos y]
    exact getP_ok l f (k/2) (by rw [Nat.pow_succ] at h;omega)
   ·rw [if_neg y,if_neg y]
    exact getP_ok r f (k/2 - 1) (by rw [Nat.pow_succ] at h;omega)
theorem two_pow_ge (k:Nat):k+2≤2^(k+2):=Nat.le_of_lt Nat.lt_two_pow_self
theorem get_path (t:Tr) (k:Nat):t.getP (path k)=t.get k:=getP_ok t (k+2) k (two_pow_ge k)
theorem ρF_eq (ts:Ts) (x:Operand):ρF ts x=ρ ts x:=by
 cases x with
 |tmp t=>exact get_path ts t
 |_=>rfl
theorem putP_ok: ∀(f g:Nat) (t:Tr) (k:Nat) (v:Value),k+2≤2^f→k+2≤2^g→t.putP v (pathB g k)=Tr.put f t k v
 |0,_,_,k,_,h,_=>by omega
 |_,0,_,k,_,_,h=>by omega
 |f+1,g+1,t,k,v,I,J=>by
  rw [path_succ,Tr.put_succ]
  rw [Nat.pow_succ] at I J
  have E:=fun (t:Tr) (h:k % 2=1)=>putP_ok f g t (k/2) v (by omega) (by omega)
  have D:=fun (t:Tr) (B: ¬k=0) (h: ¬k % 2=1)=>putP_ok f g t (k/2 - 1) v (by omega) (by omega)
  cases t with
  |e=>
   by_cases B:k=0
   ·rw [if_pos B,if_pos B];rfl
   ·rw [if_neg B,if_neg B]
    by_cases y:k % 2=1
    ·rw [if_pos y,if_pos y]
     show Tr.n (putE v (pathB g (k/2))) undef .e=_
     rw [←E Tr.e.left y];rfl
    ·rw [if_neg y,if_neg y]
     show Tr.n .e undef (putE v (pathB g (k/2 - 1)))=_
     rw [←D Tr.e.right B y];rfl
  |n l x r=>
   by_cases B:k=0
   ·rw [if_pos B,if_pos B];rfl
   ·rw [if_neg B,if_neg B]
    by_cases y:k % 2=1
    ·rw [if_pos y,if_pos y]
     show Tr.n (l.putP v (pathB g (k/2))) x r=_
     rw [E l y];rfl
    ·rw [if_neg y,if_neg y]
     show Tr.n l x (r.putP v (pathB g (k/2 - 1)))=_
     rw [D r B y];rfl
theorem put_path (t:Tr) (k:Nat) (v:Value) (h:k<4000):t.putP v (path k)=Tr.put 12 t k v:=putP_ok 12 (k+2) t k v (by omega) (two_pow_ge k)
theorem putF_eq {m:Nat} (B:m≤4000) (ts:Ts) (d:Option Tmp) (v:Value):putF m ts d v=putT m ts d v:=by
 cases d with
 |none=>rfl
 |some d=>
  have g:putF m ts (some d) v=Bool.rec (motive:=fun _=>Ts) ts (ts.putP v (path d)) (Nat.blt d m):=rfl
  have y:putT m ts (some d) v=br (Nat.blt d m) (ts.put 12 d v) ts:=rfl
  rw [g,y]
  cases h:Nat.blt d m with
  |false=>rfl
  |true=>exact put_path ts d v (by have:=blt_ok h;omega)
theorem argsF_eq (ts:Ts): ∀(l:List Operand),argsF ts l=l.map (ρ ts)
 |[]=>rfl
 |x::l=>by
  show ρF ts x::argsF ts l=_
  rw [ρF_eq,argsF_eq ts l,List.map_cons]
theorem ofArgsF_eq: ∀(l:List Value) (k:Nat) (t:Tr),k+l.length≤4000→
  ofArgsF l k t=List.rec (motive:=fun _=>Nat→Tr→Tr) (fun _ t=>t) (fun v _ g k t=>g (Nat.add k 1) (t.put 12 k v)) l k t
 |[],_,_,_=>rfl
 |v::l,k,t,h=>by
  show ofArgsF l (k+1) (t.putP v (path k))=_
  simp only [List.length_cons] at h
  rw [put_path t k v (by omega),ofArgsF_eq l (k+1) _ (by omega)]
theorem lenV_eq: ∀(l:List Value) (n:Nat),lenV l n=l.length+n
 |[],n=>by show n=0+n;omega
 |_::l,n=>by show lenV l (n+1)=_;rw [lenV_eq l];simp only [List.length_cons];omega
theorem lenL_eq: ∀(l:List UInt8) (n:Nat),lenL l n=l.length+n
 |[],n=>by show n=0+n;omega
 |_::l,n=>by show lenL l (n+1)=_;rw [lenL_eq l];simp only [List.length_cons];omega
theorem nthL_eq: ∀(l:List Value) (n:Nat),nthL l n=l[n]?
 |[],_=>rfl
 |_::_,0=>rfl
 |_::l,n+1=>nthL_eq l n
theorem nthB_eq: ∀(l:List UInt8) (n:Nat),nthB l n=l[n]?
 |[],_=>rfl
 |_::_,0=>rfl
 |_::l,n+1=>nthB_eq l n
theorem dropL_eq: ∀(l:List UInt8) (n:Nat),dropL l n=l.drop n
 |[],n=>by cases n<;>rfl
 |_::_,0=>rfl
 |_::l,n+1=>dropL_eq l n
theorem takeL_eq: ∀(l:List UInt8) (n:Nat),takeL l n=l.take n
 |[],n=>by cases n<;>rfl
 |_::_,0=>rfl
 |x::l,n+1=>by show x::takeL l n=_;rw [takeL_eq l n,List.take_succ_cons]
theorem setL_eq (x:Value): ∀{l:List Value} {n:Nat} {m:List Value},setL x l n=some m→n<l.length∧m=splice l n [x]
 |[],n,m,h=>by cases h
 |y::l,0,m,h=>by cases h;exact ⟨by simp,by cases l<;>rfl⟩
 |y::l,n+1,m,h=>by
  have h:consO y (setL x l n)=some m:=h
  cases e:setL x l n with
  |none=>rw [e] at h;cases h
  |some q=>
   rw [e] at h
   cases h
   obtain ⟨B,g⟩:=setL_eq x e
   exact ⟨by simpa using B,by rw [g];rfl⟩
end
end

noncomputable section
open Go Go.RowKit Go.Proofs
section
variable {P:Program} {G:Nat}
theorem wrap_ok {k:IntKind} {n:Nat} (h:n≤kMax k):k.wrap (n:Int)=n:=by
 cases k<;>simp only [kMax] at h<;>simp only [IntKind.wrap,IntKind.bits,IntKind.signed]<;>(try simp)<;>omega
theorem okN_ok {k:IntKind} {n:Nat} {v:Value} (h:okN k n=some v):n≤kMax k∧v= .int k (.ofNat n):=by
 unfold okN at h
 cases e:Nat.ble n (kMax k) with
 |false=>rw [e] at h;cases h
 |true=>rw [e] at h;cases h;exact ⟨Nat.le_of_ble_eq_true e,rfl⟩
theorem br_some {b:Bool} {o:Option Value} {v:Value} (h:br b o none=some v):b=true∧o=some v:=by
 cases b with
 |false=>cases h
 |true=>exact ⟨rfl,h⟩
theorem sameK_ok {k l:IntKind} (h:sameK k l=true):k=l:=by cases k<;>cases l<;>first|rfl|cases h
theorem kMax_lt (k:IntKind):kMax k<2^k.bits:=by cases k<;>decide
theorem kBits_eq (k:IntKind):kBits k=k.bits:=by cases k<;>rfl
theorem bv_of (k:IntKind) {m:Nat} (h:m≤kMax k):(BitVec.ofInt k.bits (m:Int)).toNat=m:=by
 have:=kMax_lt k
 rw [BitVec.ofInt_natCast,BitVec.toNat_ofNat]
 exact Nat.mod_eq_of_lt (by omega)
theorem ble_dec (m n:Nat):Nat.ble m n=decide (m≤n):=by
 by_cases h:m≤n
 ·rw [Nat.ble_eq_true_of_le h];simp [h]
 ·cases e:Nat.ble m n with
  |false=>simp [h]
  |true=>exact absurd (Nat.le_of_ble_eq_true e) h
theorem blt_dec (m n:Nat):Nat.blt m n=decide (m<n):=ble_dec (m+1) n
theorem bin_eq {op:BinOp} {k:IntKind} {a b:Int} {t:TypeId} {x y:Operand} {s:Sem Value} {v:Value} (e:binOp op t (.int k a) (.int k b)=s) (h:pureRun P s=some v):
  pureRun P (do eqGuard op t x y (.int k a) (.int k b);binOp op t (.int k a) (.int k b))=some v:=by
 rw [e]
 cases op<;>exact h
theorem natBin_ok {op:BinOp} {k l:IntKind} {m n:Nat} {t:TypeId} {x y:Operand} {v:Value} (h:natBin op (sameK k l) k m n=some v):
  pureRun P (do eqGuard op t x y (.int k (.ofNat m)) (.int l (.ofNat n));binOp op t (.int k (.ofNat m)) (.int l (.ofNat n)))=some v∧pf G 6 v=true:=by
 cases op with
 |shl=>
  obtain ⟨L,g⟩:=br_some h
  have I:=Nat.le_of_ble_eq_true L
  obtain ⟨D,rfl⟩:=okN_ok g
  rw [kBits_eq] at I
  refine ⟨?_,rfl⟩
  show pureRun P (Op.shift .shl k (.ofNat m) l (.ofNat n))=_
  unfold Op.shift
  rw [if_neg (by show ¬((n:Int)<0);omega)]
  have e:min (Int.toNat (.ofNat n)) k.bits=n:=Nat.min_eq_left I
  simp only [e]
  have M:(Int.ofNat m)*2^n=((m*2^n:Nat):Int):=by simp
  rw [M]
  exact congrArg (fun z=>some (Value.int k z)) (wrap_ok D)
 |shr=>
  obtain ⟨L,g⟩:=br_some h
  have I:=Nat.le_of_ble_eq_true L
  cases g
  rw [kBits_eq] at I
  refine ⟨?_,rfl⟩
  show pureRun P (Op.shift .shr k (.ofNat m) l (.ofNat n))=_
  unfold Op.shift
  rw [if_neg (by show ¬((n:Int)<0);omega)]
  have e:min (Int.toNat (.ofNat n)) k.bits=n:=Nat.min_eq_left I
  simp only [e]
  have M:(Int.ofNat m).fdiv (2^n)=((m/2^n:Nat):Int):=by
   rw [Int.fdiv_eq_ediv_of_nonneg _ (Int.le_of_lt (Int.pow_pos (by decide)))]
   show (m:Int)/2^n=_
   simp
  exact congrArg (fun z=>some (Value.int k z)) M
 |andNot=>cases h
 |add=>
  obtain ⟨B,g⟩:=br_some h
  cases sameK_ok B
  obtain ⟨D,rfl⟩:=okN_ok g
  exact ⟨bin_eq (s:=Op.intArith .add k (.ofNat m) (.ofNat n)) (by simp [binOp]) (congrArg (fun z=>some (Value.int k z)) (wrap_ok D)),rfl⟩
 |sub=>
  obtain ⟨B,g⟩:=br_some h
  cases sameK_ok B
  obtain ⟨N,g⟩:=br_some g
  obtain ⟨D,rfl⟩:=okN_ok g
  have N:=Nat.le_of_ble_eq_true N
  have e:(Int.ofNat m - Int.ofNat n)=((m - n:Nat):Int):=by show (m:Int) - (n:Int)=_;omega
  exact ⟨bin_eq (s:=Op.intArith .sub k (.ofNat m) (.ofNat n)) (by simp [binOp]) (congrArg (fun z=>some (Value.int k z)) ((congrArg k.wrap e).trans (wrap_ok D))),rfl⟩
 |mul=>
  obtain ⟨B,g⟩:=br_some h
  cases sameK_ok B
  obtain ⟨D,rfl⟩:=okN_ok g
  exact ⟨bin_eq (s:=Op.intArith .mul k (.ofNat m) (.ofNat n)) (by simp [binOp]) (congrArg (fun z=>some (Value.int k z)) (wrap_ok D)),rfl⟩
 |quo=>
  obtain ⟨B,g⟩:=br_some h
  cases sameK_ok B
  by_cases K:n=0
  ·rw [beq_yes K] at g;cases g
  ·rw [beq_no K] at g
   obtain ⟨D,rfl⟩:=okN_ok g
   refine ⟨bin_eq (s:=Op.intDiv .quo k (.ofNat m) (.ofNat n)) (by simp [binOp]) ?_,rfl⟩
   unfold Op.intDiv
   rw [if_neg (by show ¬((n:Int)=0);omega)]
   exact congrArg (fun z=>some (Value.int k z)) (wrap_ok D)
 |rem=>
  obtain ⟨B,g⟩:=br_some h
  cases sameK_ok B
  by_cases K:n=0
  ·rw [beq_yes K] at g;cases g
  ·rw [beq_no K] at g
   obtain ⟨D,rfl⟩:=okN_ok g
   refine ⟨bin_eq (s:=Op.intDiv .rem k (.ofNat m) (.ofNat n)) (by simp [binOp]) ?_,rfl⟩
   unfold Op.intDiv
   rw [if_neg (by show ¬((n:Int)=0);omega)]
   rfl
 |and=>
  obtain ⟨B,g⟩:=br_some h
  cases sameK_ok B
  obtain ⟨E,g⟩:=br_some g
  obtain ⟨J,g⟩:=br_some g
  obtain ⟨D,rfl⟩:=okN_ok g
  refine ⟨bin_eq (s:=Op.intBits .and k (.ofNat m) (.ofNat n)) (by simp [binOp]) ?_,rfl⟩
  refine congrArg (fun z=>some (Value.int k z)) (Eq.trans (congrArg (fun z:Nat=>k.wrap (z:Int)) ?_) (wrap_ok D))
  show (BitVec.ofInt k.bits (m:Int)&&&BitVec.ofInt k.bits (n:Int)).toNat=m&&&n
  rw [BitVec.toNat_and,bv_of k (Nat.le_of_ble_eq_true E),bv_of k (Nat.le_of_ble_eq_true J)]
 |or=>
  obtain ⟨B,g⟩:=br_some h
  cases sameK_ok B
  obtain ⟨E,g⟩:=br_some g
  obtain ⟨J,g⟩:=br_some g
  obtain ⟨D,rfl⟩:=okN_ok g
  refine ⟨bin_eq (s:=Op.intBits .or k (.ofNat m) (.ofNat n)) (by simp [binOp]) ?_,rfl⟩
  refine congrArg (fun z=>some (Value.int k z)) (Eq.trans (congrArg (fun z:Nat=>k.wrap (z:Int)) ?_) (wrap_ok D))
  show (BitVec.ofInt k.bits (m:Int)|||BitVec.ofInt k.bits (n:Int)).toNat=m|||n
  rw [BitVec.toNat_or,bv_of k (Nat.le_of_ble_eq_true E),bv_of k (Nat.le_of_ble_eq_true J)]
 |xor=>
  obtain ⟨B,g⟩:=br_some h
  cases sameK_ok B
  obtain ⟨E,g⟩:=br_some g
  obtain ⟨J,g⟩:=br_some g
  obtain ⟨D,rfl⟩:=okN_ok g
  refine ⟨bin_eq (s:=Op.intBits .xor k (.ofNat m) (.ofNat n)) (by simp [binOp]) ?_,rfl⟩
  refine congrArg (fun z=>some (Value.int k z)) (Eq.trans (congrArg (fun z:Nat=>k.wrap (z:Int)) ?_) (wrap_ok D))
  show (BitVec.ofInt k.bits (m:Int)^^^BitVec.ofInt k.bits (n:Int)).toNat=m^^^n
  rw [BitVec.toNat_xor,bv_of k (Nat.le_of_ble_eq_true E),bv_of k (Nat.le_of_ble_eq_true J)]
 |eql=>
  obtain ⟨B,g⟩:=br_some h
  cases sameK_ok B
  cases g
  refine ⟨bin_eq (s:=Op.intCmp .eql (.ofNat m) (.ofNat n)) (by simp [binOp]) (congrArg (fun z=>some (Value.bool z)) ?_),rfl⟩
  by_cases e:m=n
  ·subst e;rw [beq_yes rfl];simp
  ·rw [beq_no e];show ((m:Int)==(n:Int))=false;simp;omega
 |neq=>
  obtain ⟨B,g⟩:=br_some h
  cases sameK_ok B
  cases g
  refine ⟨bin_eq (s:=Op.intCmp .neq (.ofNat m) (.ofNat n)) (by simp [binOp]) (congrArg (fun z=>some (Value.bool z)) ?_),rfl⟩
  by_cases e:m=n
  ·subst e;rw [beq_yes rfl];simp
  ·rw [beq_no e];show ((m:Int) !=(n:Int))=true;simp;omega
 |lss=>
  obtain ⟨B,g⟩:=br_some h
  cases sameK_ok B
  cases g
  refine ⟨bin_eq (s:=Op.intCmp .lss (.ofNat m) (.ofNat n)) (by simp [binOp]) (congrArg (fun z=>some (Value.bool z)) ?_),rfl⟩
  rw [blt_dec];show decide ((m:Int)<(n:Int))=_;simp
 |leq=>
  obtain ⟨B,g⟩:=br_some h
  cases sameK_ok B
  cases g
  refine ⟨bin_eq (s:=Op.intCmp .leq (.ofNat m) (.ofNat n)) (by simp [binOp]) (congrArg (fun z=>some (Value.bool z)) ?_),rfl⟩
  rw [ble_dec];show decide ((m:Int)≤(n:Int))=_;simp
 |gtr=>
  obtain ⟨B,g⟩:=br_some h
  cases sameK_ok B
  cases g
  refine ⟨bin_eq (s:=Op.intCmp .gtr (.ofNat m) (.ofNat n)) (by simp [binOp]) (congrArg (fun z=>some (Value.bool z)) ?_),rfl⟩
  rw [blt_dec];show decide ((n:Int)<(m:Int))=_;simp
 |geq=>
  obtain ⟨B,g⟩:=br_some h
  cases sameK_ok B
  cases g
  refine ⟨bin_eq (s:=Op.intCmp .geq (.ofNat m) (.ofNat n)) (by simp [binOp]) (congrArg (fun z=>some (Value.bool z)) ?_),rfl⟩
  rw [ble_dec];show decide ((n:Int)≤(m:Int))=_;simp
end
end

noncomputable section
open Go Go.RowKit Go.Proofs
section
variable {P:Program} {G:Nat}
theorem pureRun_bind {g y:Type} (s:Sem g) (f:g→Sem y):pureRun P (s>>=f)=(pureRun P s).bind fun a=>pureRun P (f a):=by
 show pureRun P (s.bind f)=_
 induction s with
 |pure x=>rfl
 |program k h=>exact h P
 |_=>rfl
theorem pureRun_underlying {t:TypeId} {d:TypeDesc} (h:P.underlying t=some d):pureRun P (underlying t)=some d:=by
 unfold underlying
 rw [pureRun_bind]
 show pureRun P (match P.underlying t with|some d=>pure d|none=>stuck "no such type")=_
 rw [h];rfl
theorem evBin_int {op:BinOp} {k l:IntKind} {m n:Nat} {t:TypeId} {x y:Operand} {v:Value} {st:St} (h:natBin op (sameK k l) k m n=some v):evBin P G op t x y (.int k (.ofNat m)) (.int l (.ofNat n)) st=some (v,st):=by
 obtain ⟨g,B⟩:=natBin_ok (P:=P) (G:=G) (t:=t) (x:=x) (y:=y) h
 unfold evBin
 rw [show (pf G 6 (.int k (.ofNat m))&&pf G 6 (.int l (.ofNat n)))=true from rfl]
 simp only [g,B]
theorem binR_le {op:BinOp} {t:TypeId} {x y:Operand} {a b:Value} {st:St} {h:R} (g:RLe h (evBin P G op t x y a b st)):RLe (binR op a b st h) (evBin P G op t x y a b st):=by
 unfold binR
 cases E:vI a with
 |o=>exact g
 |i k m=>
  show RLe (binR1 op k m (vI b) st h) _
  unfold binR1
  cases B:vI b with
  |o=>exact g
  |i l n=>
   refine ovR_le (fun v D=> ?_) g
   rw [vI_i E,vI_i B]
   exact evBin_int D
theorem conv_int {g dst:TypeId} {d:TypeDesc} {k l:IntKind} {n:Nat} {v:Value} {st:St} (E:P.underlying g=some d) (y:P.underlying dst=some (.int k)) (h:okN k n=some v):
  evConvert P G g dst (.int l (.ofNat n)) st=some (v,st):=by
 obtain ⟨B,rfl⟩:=okN_ok h
 have e:evConvert P G g dst (.int l (.ofNat n)) st=evPure P G [.int l (.ofNat n)] (convert g dst (.int l (.ofNat n))) st:=by
  unfold evConvert
  rw [y]
  split<;>first|rfl|(rename_i h _;cases h)|(rename_i h;cases h)|skip
  all_goals rename_i B J D;first|cases D|cases J
 rw [e]
 unfold evPure
 rw [show ([Value.int l (.ofNat n)].all (pf G 6))=true from rfl]
 have I:pureRun P (convert g dst (.int l (.ofNat n)))=some (.int k (.ofNat n)):=by
  unfold convert
  rw [pureRun_bind,pureRun_underlying E]
  show pureRun P (underlying dst>>=_)=_
  rw [pureRun_bind,pureRun_underlying y]
  show some (Value.int k (k.wrap (n:Int)))=_
  rw [wrap_ok B];rfl
 simp only [I]
 rfl
theorem vK_ok {o:Option TypeDesc} {k:IntKind} (h:vK o=some k):o=some (.int k):=by
 unfold vK at h
 split at h
 ·cases h;rfl
 ·cases h
theorem someB_ok {o:Option TypeDesc} (h:someB o=true): ∃d,o=some d:=by
 cases o with
 |none=>cases h
 |some d=>exact ⟨d,rfl⟩
theorem convR_le {g dst:TypeId} {a:Value} {st:St} {y:R} (E:someB (P.underlying g)=true) (h:RLe y (evConvert P G g dst a st)):RLe (convR (vK (P.underlying dst)) (vI a) st y) (evConvert P G g dst a st):=by
 obtain ⟨d,D⟩:=someB_ok E
 unfold convR
 cases J:vI a with
 |o=>exact h
 |i l n=>
  show RLe (convR1 _ n st y) _
  unfold convR1
  cases B:vK (P.underlying dst) with
  |none=>exact h
  |some k=>
   refine ovR_le (fun v I=> ?_) h
   rw [vI_i J]
   exact conv_int D (vK_ok B) I
theorem br_le {b:Bool} {x y:R} {s:Res} (g:b=true→RLe x s) (h:RLe y s):RLe (br b x y) s:=by
 cases b with
 |true=>exact g rfl
 |false=>exact h
theorem notAgg_ok {t:TypeId} (h:notAgg P t=true):isAggB P t=some false:=by
 unfold notAgg at h
 split at h
 ·assumption
 ·cases h
theorem slc_one {cs:List Value} {o:Nat} {v:Value} (h:cs[o]? =some v):slc cs o 1=some [v]:=by
 obtain ⟨g,rfl⟩:=List.getElem?_eq_some_iff.1 h
 unfold slc
 rw [Nat.ble_eq_true_of_le (by omega),List.drop_eq_getElem_cons g]
 rfl
theorem loadR_le {t:TypeId} {a:Value} {st:St} {h:R} (D:notAgg P t=true) (g:RLe h (evLoad P t a st)):RLe (loadR (vP a) st h) (evLoad P t a st):=by
 unfold loadR
 cases I:vP a with
 |o=>exact g
 |p b o=>
  show RLe (loadR1 b o st h) _
  unfold loadR1
  cases E:look st.heap b with
  |none=>exact g
  |some B=>
   show RLe (loadO B o st h) _
   cases B with
   |iter s pos=>exact g
   |map ks vs=>exact g
   |row cs e ext fz=>
    refine ovR_le (fun v y=> ?_) g
    rw [nthL_eq] at y
    rw [vP_p I]
    unfold evLoad loadB
    rw [notAgg_ok D]
    have e:cellsAt st.heap ⟨b,o,none⟩ 1=some [v]:=by
     unfold cellsAt
     show (match look st.heap b with|some (.row cs _ _ _)=>slc cs o 1|_=>none)=_
     rw [E]
     exact slc_one y
    simp only [e]
theorem size1_ok {t:TypeId} (h:size1 P t=true):sizeB P t=some 1:=by
 unfold size1 at h
 split at h
 ·assumption
 ·cases h
theorem storeR_le {t:TypeId} {a x:Value} {st:St} {h:R} (I:size1 P t=true) (g:RLe h (evStore P t a x st)):RLe (storeR (vP a) x st h) (evStore P t a x st):=by
 unfold storeR
 cases N:vP a with
 |o=>exact g
 |p b o=>
  refine br_le (fun J=> ?_) g
  obtain ⟨y,B⟩:=vOne_ok J
  unfold storeR1
  cases L:look st.heap b with
  |none=>exact g
  |some D=>
   show RLe (storeO D b o x st h) _
   cases D with
   |iter s pos=>exact g
   |map ks vs=>exact g
   |row cs e ext fz=>
    cases fz with
    |true=>exact g
    |false=>
     show RLe (storeS (setL x cs o) b e ext st h) _
     unfold storeS
     cases K:setL x cs o with
     |none=>exact g
     |some m=>
      obtain ⟨O,rfl⟩:=setL_eq x K
      refine .yes ?_
      rw [vP_p N]
      unfold evStore
      rw [size1_ok I,B]
      have M:writeB st ⟨b,o,none⟩ [x]=some (st.set b (.row (splice cs o [x]) e ext false)):=by
       have E:(Nat.ble (o+[x].length) cs.length&&[x].all one)=true:=by
        rw [show o+[x].length=o+1 from rfl,Nat.ble_eq_true_of_le (by omega)]
        simp [y]
       unfold writeB
       simp only [L,E]
      show (match Nat.beq 1 1 with|true=>(match writeB st ⟨b,o,none⟩ [x] with|some st=>some (undef,st)|none=>none)|false=>none)=_
      rw [M]
end
end

noncomputable section
open Go Go.RowKit Go.Proofs
section
variable {P:Program} {G:Nat}
theorem offB_ok {s:TypeId} {f d:Nat} (h:offB P s f=some d): ∃y g n,P.underlying s=some (.struct y)∧y[f]? =some g∧sizeB P g.type=some (n+1)∧d=g.offset:=by
 unfold offB at h
 split at h
 ·rename_i y D
  split at h
  ·rename_i g B
   split at h
   ·rename_i n E
    cases h
    exact ⟨y,g,n,D,B,E,rfl⟩
   ·cases h
  ·cases h
 ·cases h
theorem faR_le {s:TypeId} {a:Value} {f:Nat} {st:St}:RLe (faR (vP a) (offB P s f) st) (evFieldAddr P s a f st):=by
 unfold faR
 cases B:vP a with
 |o=>exact .no
 |p b o=>
  show RLe (faR1 b o _ st) _
  unfold faR1
  cases h:offB P s f with
  |none=>exact .no
  |some d=>
   obtain ⟨I,E,n,y,D,g,rfl⟩:=offB_ok h
   refine .yes ?_
   rw [vP_p B]
   unfold evFieldAddr
   simp only [y,D,g]
   rfl
theorem extR_le {a:Value} {i:Nat} {st:St}:RLe (extR (vT a) i st) (evExtract a i st):=by
 unfold extR
 cases h:vT a with
 |o=>exact .no
 |t l=>
  refine ovR_le (fun v g=> ?_) .no
  rw [nthL_eq] at g
  rw [vT_t h]
  unfold evExtract
  simp only [g]
theorem pickR_le {c a b:Value} {st:St}:RLe (pickR (vB c) a b st) (evPick c a b st):=by
 unfold pickR
 cases g:vB c with
 |o=>exact .no
 |t=>exact .yes (by rw [vB_t g];rfl)
 |f=>exact .yes (by rw [vB_f g];rfl)
theorem isStrT_ok {t:TypeId} (h:isStrT P t=true):P.underlying t=some .string:=by
 unfold isStrT at h
 split at h
 ·assumption
 ·cases h
theorem extract_list (l:List UInt8) (a h:Nat):(⟨⟨l⟩⟩:ByteArray).extract a h=⟨⟨(l.drop a).take (h - a)⟩⟩:=by
 apply ByteArray.ext
 apply Array.ext'
 simp
theorem sliS_le {t:TypeId} {a:Value} {g y:Option Value} {st:St} (D:isStrT P t=true):RLe (sliS g y st .no (vS a)) (evSlice P G t a g y none st):=by
 unfold sliS
 cases I:vS a with
 |o=>exact .no
 |s l=>
  show RLe (sliS1 l g st (boundB y (lenL l 0) (lenL l 0))) _
  unfold sliS1
  rw [lenL_eq,Nat.add_zero]
  cases B:boundB y l.length l.length with
  |none=>exact .no
  |some h=>
   show RLe (sliS2 l h st (boundB g 0 h)) _
   unfold sliS2
   cases E:boundB g 0 h with
   |none=>exact .no
   |some k=>
    refine .yes ?_
    rw [vS_s I]
    unfold evSlice
    simp only [isStrT_ok D]
    unfold evSliceStr
    have e:(⟨⟨l⟩⟩:ByteArray).size=l.length:=rfl
    rw [e]
    simp only [B,E]
    rw [extract_list,takeL_eq,dropL_eq]
    rfl
theorem idxS0_le {t:TypeId} {a i:Value} {st:St} {g:R} (B:isStrT P t=true) (h:RLe g (evIndex P t a i st)):RLe (idxS0 (vS a) (vI i) st g) (evIndex P t a i st):=by
 unfold idxS0
 cases D:vI i with
 |o=>exact h
 |i k n=>
  show RLe (idxS1 (vS a) n st g) _
  unfold idxS1
  cases E:vS a with
  |o=>exact h
  |s l=>
   show RLe (idxS2 (nthB l n) st) _
   unfold idxS2
   cases y:nthB l n with
   |none=>exact .no
   |some b=>
    refine .yes ?_
    rw [nthB_eq] at y
    rw [vS_s E,vI_i D]
    unfold evIndex
    simp only [isStrT_ok B,natOf,y]
    rfl
theorem nxt0_le {a:Value} {st:St} {y:R} (g:RLe y (evNext a st)):RLe (nxt0 (vP a) st y) (evNext a st):=by
 unfold nxt0
 cases Q:vP a with
 |o=>exact g
 |p k o=>
  show RLe (nxt1 k o st y) _
  unfold nxt1
  refine br_le (fun D=> ?_) g
  have D:=Nat.eq_of_beq_eq_true D
  subst D
  cases O:look st.heap k with
  |none=>exact g
  |some K=>
   show RLe (nxtO K k st y) _
   cases K with
   |row _ _ _ _=>exact g
   |map _ _=>exact g
   |iter s pos=>
    show RLe (nxtB (nthB s.data.toList pos) s pos k st y) _
    unfold nxtB
    cases J:nthB s.data.toList pos with
    |none=>exact g
    |some b=>
     refine br_le (fun h=> ?_) g
     have h:=blt_ok h
     rw [nthB_eq] at J
     obtain ⟨M,L⟩:=List.getElem?_eq_some_iff.1 J
     have E:pos<s.size:=M
     refine .yes ?_
     rw [vP_p Q]
     have I:=decode_ascii s pos E (by show (s.data.toList[pos]).toNat<128;rw [L];exact h)
     have N:(s[pos]'E).toNat=b.toNat:=by show (s.data.toList[pos]).toNat=_;rw [L]
     rw [N] at I
     have B:Nat.blt pos s.size=true:=Nat.ble_eq_true_of_le E
     unfold evNext
     simp only [O,B,I]
     rfl
theorem evCall_le {f g:CallF} (h:CallLe f g) (ts:Ts) (c:Call) (ty:TypeId) (st:St):ResLe (evCall P G f ts c ty st) (evCall P G g ts c ty st):=by
 unfold evCall
 split
 ·split
  ·exact h _ _ _
  ·exact ResLe.rfl
 ·split
  ·split
   ·exact h _ _ _
   ·exact ResLe.rfl
  ·exact ResLe.rfl
 ·exact ResLe.rfl
theorem calleeF_ok {c:Callee} {g:FuncId} (h:calleeF c=some g):c= .value (.func g):=by
 unfold calleeF at h
 split at h
 ·cases h;rfl
 ·cases h
theorem fCall_le {f g:CallF} (h:CallLe f g) (ts:Ts) (c:Call) (ty:TypeId) (st:St):RLe (fCall c P G f ts ty st) (hCall c P G g ts ty st):=by
 unfold fCall hCall
 cases y:calleeF c.callee with
 |none=>exact ofRes_le (evCall_le h ts c ty st)
 |some k=>
  have e:evCall P G g ts c ty st=g k (argsF ts c.args.toList) st:=by
   unfold evCall
   rw [calleeF_ok y]
   show g k ((#[]:Array Value).toList++c.args.toList.map (ρ ts)++(#[]:Array Value).toList) st=_
   rw [argsF_eq]
   simp
  rw [e]
  exact ofRes_le (h _ _ _)
theorem opF_le {f g:CallF} (I:CallLe f g) (op:Op) (ts:Ts) (ty:TypeId) (st:St):RLe (opF op P G f ts ty st) (opD op P G g ts ty st):=by
 cases op with
 |move x=>exact .yes (by show some (ρ ts x,st)=_;rw [ρF_eq])
 |assign x=>exact .yes (by show some (ρ ts x,st)=_;rw [ρF_eq])
 |pick c a b=>
  show RLe (pickR (vB (ρF ts c)) (ρF ts a) (ρF ts b) st) (evPick (ρ ts c) (ρ ts a) (ρ ts b) st)
  rw [ρF_eq,ρF_eq,ρF_eq];exact pickR_le
 |binOp op t x y J=>
  show RLe (binR op (ρF ts x) (ρF ts y) st (ofRes (hBin op t x y P G f ts ty st))) (evBin P G op t x y (ρ ts x) (ρ ts y) st)
  rw [ρF_eq,ρF_eq];exact binR_le (ofRes_le ResLe.rfl)
 |convert s d x=>
  show RLe (br _ (convR (vK (P.underlying d)) (vI (ρF ts x)) st (ofRes (hConvert s d x P G f ts ty st))) (ofRes (hConvert s d x P G f ts ty st))) (evConvert P G s d (ρ ts x) st)
  rw [ρF_eq];exact br_le (fun h=>convR_le h (ofRes_le ResLe.rfl)) (ofRes_le ResLe.rfl)
 |load t a=>
  show RLe (br _ (loadR (vP (ρF ts a)) st (ofRes (hLoad t a P G f ts ty st))) (ofRes (hLoad t a P G f ts ty st))) (evLoad P t (ρ ts a) st)
  rw [ρF_eq];exact br_le (fun h=>loadR_le h (ofRes_le ResLe.rfl)) (ofRes_le ResLe.rfl)
 |store t a x=>
  show RLe (br _ (storeR (vP (ρF ts a)) (ρF ts x) st (ofRes (hStore t a x P G f ts ty st))) (ofRes (hStore t a x P G f ts ty st))) (evStore P t (ρ ts a) (ρ ts x) st)
  rw [ρF_eq,ρF_eq];exact br_le (fun h=>storeR_le h (ofRes_le ResLe.rfl)) (ofRes_le ResLe.rfl)
 |fieldAddr s x i=>
  show RLe (faR (vP (ρF ts x)) (offB P s i) st) (evFieldAddr P s (ρ ts x) i st)
  rw [ρF_eq];exact faR_le
 |extract t i=>
  show RLe (extR (vT (ρF ts t)) i st) (evExtract (ρ ts t) i st)
  rw [ρF_eq];exact extR_le
 |slice t x E D B=>
  show RLe (br _ (Option.rec (motive:=fun _=>R) (sliS (E.map (ρF ts)) (D.map (ρF ts)) st .no (vS (ρF ts x))) (fun _=> .no) B) (ofRes (hSlice t x E D B P G f ts ty st))) (evSlice P G t (ρ ts x) (E.map (ρ ts)) (D.map (ρ ts)) (B.map (ρ ts)) st)
  rw [ρF_eq,show ρF ts=ρ ts from funext (ρF_eq ts)]
  refine br_le (fun h=> ?_) (ofRes_le ResLe.rfl)
  cases B with
  |none=>exact sliS_le h
  |some m=>exact .no
 |index t x i=>
  show RLe (br _ (idxS0 (vS (ρF ts x)) (vI (ρF ts i)) st (ofRes (hIndex t x i P G f ts ty st))) (ofRes (hIndex t x i P G f ts ty st))) (evIndex P t (ρ ts x) (ρ ts i) st)
  rw [ρF_eq,ρF_eq];exact br_le (fun h=>idxS0_le h (ofRes_le ResLe.rfl)) (ofRes_le ResLe.rfl)
 |next it s=>
  show RLe (br s (nxt0 (vP (ρF ts it)) st (ofRes (hNext it s P G f ts ty st))) .no) (hNext it s P G g ts ty st)
  rw [ρF_eq]
  refine br_le (fun h=> ?_) .no
  subst h
  exact nxt0_le (ofRes_le ResLe.rfl)
 |call c=>exact fCall_le I ts c ty st
 |box e x=>exact ofRes_le (r:=evBox e (ρ ts x) st) ResLe.rfl
 |makeFunc a b c=>exact ofRes_le (r:=hFunc a b c P G f ts ty st) ResLe.rfl
 |_=>first|exact ofRes_le (r:=none) (s:=none) ResLe.rfl|exact ofRes_le ResLe.rfl
end
end

noncomputable section
open Go Go.RowKit Go.Proofs
section
variable {P:Program} {G:Nat}
theorem wantB_some (ops:Array Oper) (ts:Ts) (o:Oper) (g:Nat×Bool) (h:o.guard=some g):wantB ops ts o=wantP ops ts g:=by
 unfold wantB wantP
 rw [h]
 cases g;rfl
theorem guardK_le {ops:Array Oper} {ts:Ts} {o:Oper} {a b:RT} {s:ResT} (B:wantB ops ts o=true→RTLe a s) (D:wantB ops ts o=false→RTLe b s):RTLe (guardK ops ts o.guard a b) s:=by
 unfold guardK
 cases h:o.guard with
 |none=>exact B (by unfold wantB;rw [h])
 |some g=>
  show RTLe (br (wantP ops ts g) a b) s
  cases y:wantP ops ts g with
  |true=>exact B ((wantB_some ops ts o g h).trans y)
  |false=>exact D ((wantB_some ops ts o g h).trans y)
theorem opsF_le {f g:CallF} (D:CallLe f g) {m:Nat} (y:m≤4000) (ops:Array Oper): ∀(l:List Oper) (ts:Ts) (st:St),RTLe (opsF P G f m ops l ts st) (evOps P G g m ops l ts st)
 |[],ts,st=>fun _ _ h=>by cases h;rfl
 |o::l,ts,st=>by
  rw [evOps_cons]
  show RTLe (guardK ops ts o.guard (runK P G f m o (opsF P G f m ops l) ts st) (opsF P G f m ops l (putF m ts o.dst undef) st)) _
  refine guardK_le (fun B=> ?_) (fun B=> ?_)
  ·rw [if_pos B]
   unfold runK
   have h:=opF_le (P:=P) (G:=G) D o.op ts o.type st
   cases E:opF o.op P G f ts o.type st with
   |no=>exact fun _ _ h=>by cases h
   |yes v st'=>
    have e:=h v st' E
    have I:evOp P G g ts o st=some (v,st'):=e
    rw [I]
    show RTLe (opsF P G f m ops l (putF m ts o.dst v) st') _
    rw [putF_eq y]
    exact opsF_le D y ops l _ _
  ·rw [if_neg (by rw [B];exact Bool.false_ne_true)]
   rw [putF_eq y]
   exact opsF_le D y ops l _ _
theorem calmT_of {ts:Ts} {o:Op} (h:calmB o=true):calmT ts o=true:=by
 cases o<;>first|exact h|cases h
theorem allocB_calm {o:Op} (h:calmB o=true):allocB o=none:=by
 cases o<;>first|rfl|cases h
theorem drawnF_le {f g:CallF} (B:CallLe f g) {m:Nat} (y:m≤4000) (ops:Array Oper) (n0:Nat): ∀(l:List Oper) (i:Nat) (ks:List (Nat×Kind)) (ts:Ts) (st:St),
  RTLe (drawnF P G f m ops n0 l i ks ts st) (evDrawn P G g m ops n0 l i ks ts st)
 |[],i,ks,ts,st=>fun _ _ h=>by cases h;rfl
 |o::l,i,ks,ts,st=>by
  show RTLe (guardK ops ts o.guard (drawK P G f m ops n0 o (drawnF P G f m ops n0 l) i ks ts st) (drawnF P G f m ops n0 l (i+1) ks (putF m ts o.dst undef) st)) _
  simp only [evDrawn]
  refine guardK_le (fun J=> ?_) (fun J=> ?_)
  ·rw [J]
   have calm:calmT ts o.op=true→RTLe (calmK P G f m o (drawnF P G f m ops n0 l) i ks ts st) (match calmT ts o.op with
     |true=>(match evOp P G g ts o st with|some (v,_)=>evDrawn P G g m ops n0 l (i+1) ks (putT m ts o.dst v) st|none=>none)
     |false=>(match evOp P G g ts o ⟨st.heap,st.next,st.next⟩ with
      |some (v,st')=>(match freeB ops i (kindOf ts o.op (!Nat.ble st.next st'.low)) ks&&Nat.ble st.next st'.next with
       |true=>evDrawn P G g m ops n0 l (i+1) ((i,kindOf ts o.op (!Nat.ble st.next st'.low))::ks) (putT m ts o.dst v) ⟨st'.heap,st'.next,Nat.min st.low st'.low⟩
       |false=>none)
      |none=>none)):=by
    intro D
    rw [D]
    unfold calmK
    have h:=opF_le (P:=P) (G:=G) B o.op ts o.type st
    cases I:opF o.op P G f ts o.type st with
    |no=>exact fun _ _ h=>by cases h
    |yes v st'=>
     have E:evOp P G g ts o st=some (v,st'):=h v st' I
     simp only [E]
     show RTLe (drawnF P G f m ops n0 l (i+1) ks (putF m ts o.dst v) st) _
     rw [putF_eq y]
     exact drawnF_le B y ops n0 l _ _ _ _
   unfold drawK
   cases K:calmB o.op with
   |true=>rw [allocB_calm K];exact calm (calmT_of K)
   |false=>
    cases N:allocB o.op with
    |some e=>
     show RTLe (br (freeN (.new (n0+i)) ks) (drawnF P G f m ops n0 l (i+1) ((i,.new (n0+i))::ks) (putF m ts o.dst (ptrV (n0+i))) st) .no) _
     cases M:freeN (.new (n0+i)) ks with
     |false=>exact fun _ _ h=>by cases h
     |true=>
      rw [putF_eq y]
      exact drawnF_le B y ops n0 l _ _ _ _
    |none=>
    show RTLe (br (calmT ts o.op) _ _) _
    cases D:calmT ts o.op with
    |true=>have:=calm D;rw [D] at this;exact this
    |false=>
     show RTLe (firmK ops m o (drawnF P G f m ops n0 l) i ks ts st (opF o.op P G f ts o.type ⟨st.heap,st.next,st.next⟩)) _
     have h:=opF_le (P:=P) (G:=G) B o.op ts o.type ⟨st.heap,st.next,st.next⟩
     cases I:opF o.op P G f ts o.type ⟨st.heap,st.next,st.next⟩ with
     |no=>exact fun _ _ h=>by cases h
     |yes v st'=>
      have E:evOp P G g ts o ⟨st.heap,st.next,st.next⟩=some (v,st'):=h v st' I
      simp only [E]
      show RTLe (br (freeB ops i (kindOf ts o.op (!Nat.ble st.next st'.low)) ks&&Nat.ble st.next st'.next) (drawnF P G f m ops n0 l (i+1) ((i,kindOf ts o.op (!Nat.ble st.next st'.low))::ks) (putF m ts o.dst v) ⟨st'.heap,st'.next,Nat.min st.low st'.low⟩) .no) _
      cases L:freeB ops i (kindOf ts o.op (!Nat.ble st.next st'.low)) ks&&Nat.ble st.next st'.next with
      |false=>exact fun _ _ h=>by cases h
      |true=>
       rw [putF_eq y]
       exact drawnF_le B y ops n0 l _ _ _ _
  ·rw [J,putF_eq y]
   exact drawnF_le B y ops n0 l _ _ _ _
theorem drwF_le {f g:CallF} (B:CallLe f g) {m:Nat} (y:m≤4000) (ops:Array Oper) (ts:Ts) (st:St):RTLe (drwF P G f m ops ts st) (evDraw P G g m ops ts st):=by
 unfold drwF evDraw
 cases preB P G (newsB ops.toList 0) st.next st.heap with
 |none=>exact fun _ _ h=>by cases h
 |some h=>exact drawnF_le B y ops st.next ops.toList 0 [] ts _
theorem consO_some {v:Value} {o:Option (List Value)} {l:List Value} (h:consO v o=some l): ∃r,o=some r∧l=v::r:=by
 cases o with
 |none=>cases h
 |some r=>cases h;exact ⟨r,rfl,rfl⟩
theorem resF_ok {h:Hp} {ts:Ts}: ∀{rs:List ResultVar} {l:List Value},resF' P h ts rs=some l→resB P h ts rs=some l
 |[],l,e=>e
 | .tmp t::rs,l,e=>by
  have e:consO (ts.getP (path t)) (resF' P h ts rs)=some l:=e
  obtain ⟨r,g,rfl⟩:=consO_some e
  unfold resB
  rw [resF_ok g,get_path]
 | .cell a t::rs,l,e=>by
  have e:Option.rec (motive:=fun _=>Option (List Value)) none (fun v=>consO v (resF' P h ts rs)) (loadB P h t (ts.get a))=some l:=e
  unfold resB
  cases y:loadB P h t (ts.get a) with
  |none=>rw [y] at e;cases e
  |some v=>
   rw [y] at e
   obtain ⟨r,g,rfl⟩:=consO_some e
   rw [resF_ok g]
theorem freeV_ok {d:Nat} {v:Value}:freeV G d v=pf G d v:=by
 unfold freeV
 cases h:vFree v with
 |true=>exact (vFree_ok d h).symm
 |false=>rfl
theorem all_free (l:List Value):List.rec (motive:=fun _=>Bool) true (fun x _ g=>br (freeV G 5 x) g false) l=l.all (pf G 5):=by
 induction l with
 |nil=>rfl
 |cons x l g=>
  show br (freeV G 5 x) _ false=_
  rw [freeV_ok,List.all_cons,g]
  cases pf G 5 x<;>rfl
theorem cutR_eq {v:Value} {st st':St} {b c:Bool} (h:b=(c&&Nat.ble st.next st'.low)):cutR v st st' b=
  (match c&&Nat.ble st.next st'.low with|true=>some (v,(⟨cutB st'.heap st.next,st'.next,Nat.min st.low st'.low⟩:St))|false=>some (v,⟨st'.heap,st'.next,Nat.min st.low st'.low⟩)):=by
 rw [←h]
 cases b<;>rfl
theorem br_and (a b:Bool):br a b false=(b&&a):=by cases a<;>cases b<;>rfl
theorem retL_eq (st st':St) (l:List Value):retL G st st' l=(match pf G 6 (retB l)&&Nat.ble st.next st'.low with
  |true=>some (retB l,(⟨cutB st'.heap st.next,st'.next,Nat.min st.low st'.low⟩:St))|false=>some (retB l,⟨st'.heap,st'.next,Nat.min st.low st'.low⟩)):=by
 match l with
 |[]=>exact cutR_eq (c:=pf G 6 (.tuple #[])) (by rw [show pf G 6 (.tuple #[])=true from rfl,Bool.true_and])
 |[v]=>exact cutR_eq (c:=pf G 6 v) (by rw [br_and,freeV_ok])
 |v::w::r=>
  refine cutR_eq (c:=pf G 6 (.tuple ⟨v::w::r⟩)) ?_
  rw [br_and]
  exact congrArg (· &&Nat.ble st.next st'.low) (all_free (G:=G) (v::w::r))
theorem retS_le {rs:List ResultVar} {st st':St} {ts':Ts}:ResLe (retS P G rs st ts' st') (match resB P st'.heap ts' rs with
  |some l=>(match pf G 6 (retB l)&&Nat.ble st.next st'.low with
   |true=>some (retB l,(⟨cutB st'.heap st.next,st'.next,Nat.min st.low st'.low⟩:St))|false=>some (retB l,⟨st'.heap,st'.next,Nat.min st.low st'.low⟩))
  |none=>none):=by
 unfold retS
 cases h:resF' P st'.heap ts' rs with
 |none=>exact fun _ _ h=>by cases h
 |some l=>
  rw [resF_ok h]
  show ResLe (retL G st st' l) _
  rw [retL_eq]
  exact ResLe.rfl
theorem retF_le {rs:List ResultVar} {st:St} {r:RC} {s:ResC} (h:RCLe r s):ResLe (retF P G rs st r) (evRet P G rs st s):=by
 unfold retF evRet
 cases r with
 |no=>exact fun _ _ h=>by cases h
 |nrm ts' st'=>rw [h.1 ts' st' rfl];exact retS_le
 |ex i ts' st'=>exact fun _ _ h=>by cases h
 |rt ts' st'=>rw [h.2.2 ts' st' rfl];exact retS_le
def RecLe (f:RecF) (g:Rec):Prop:= ∀m c ts st,m≤4000→RCLe (f m c ts st) (g m c ts st)
theorem enterF_le {f:RecF} {g:Rec} (h:RecLe f g) (k:FuncId) (args:List Value) (st:St):ResLe (enterF P G f k args st) (evEnter P G g k args st):=by
 unfold enterF evEnter
 cases K:P.funcs[k]? with
 |none=>exact fun _ _ h=>by cases h
 |some fn=>
  show ResLe (enter1 P G f args st fn) _
  unfold enter1
  cases E:fn.body with
  |none=>exact fun _ _ h=>by cases h
  |some y=>
   show ResLe (enter2 P G f args st fn y) _
   unfold enter2
   rw [lenV_eq,Nat.add_zero]
   cases B:Nat.ble args.length fn.ntmps with
   |false=>exact fun _ _ h=>by cases h
   |true=>
    cases D:Nat.ble fn.ntmps 4000 with
    |false=>exact fun _ _ h=>by cases h
    |true=>
     have J:=Nat.le_of_ble_eq_true B
     have I:=Nat.le_of_ble_eq_true D
     show ResLe (retF P G fn.results.toList st (f fn.ntmps y (ofArgsF args 0 .e) ⟨st.heap,st.next,st.next⟩)) _
     rw [ofArgsF_eq args 0 .e (by omega)]
     have e:=retF_le (P:=P) (G:=G) (rs:=fn.results.toList) (st:=st) (h fn.ntmps y (ofArgs args) ⟨st.heap,st.next,st.next⟩ I)
     simp only [E,B,D,Bool.and_self]
     exact e
theorem callFF_le {orc:Orc} {f:RecF} {g:Rec} (h:RecLe f g):CallLe (callFF P G orc f) (evCallF P G orc g):=by
 intro k args st
 unfold callFF evCallF
 cases orc k args st.heap with
 |none=>exact enterF_le h k args st
 |some v=>exact ResLe.rfl
theorem RCLe.no {s:ResC}:RCLe .no s:=⟨fun _ _ h=>(by cases h),fun _ _ _ h=>(by cases h),fun _ _ h=>(by cases h)⟩
theorem ofRT_le {r:RT} {s:ResT} {x:ResC} (h:RTLe r s) (g: ∀ts st,s=some (ts,st)→x=some (.normal,ts,st)):RCLe (ofRT r) x:=by
 cases r with
 |no=>exact .no
 |yes ts st=>
  rw [g ts st (h ts st rfl)]
  exact ⟨fun _ _ h=>(by cases h;rfl),fun _ _ _ h=>(by cases h),fun _ _ h=>(by cases h)⟩
theorem seqF_le {f:RecF} {g:Rec} (h:RecLe f g) {m:Nat} (B:m≤4000) {b:Code} {r:RC} {s:ResC} (y:RCLe r s):RCLe (seqF f m b r) (evSeq g m b s):=by
 cases r with
 |no=>exact .no
 |nrm ts st=>rw [y.1 ts st rfl];exact h _ _ _ _ B
 |ex i ts st=>rw [y.2.1 i ts st rfl];exact ⟨fun _ _ h=>(by cases h),fun _ _ _ h=>(by cases h;rfl),fun _ _ h=>(by cases h)⟩
 |rt ts st=>rw [y.2.2 ts st rfl];exact ⟨fun _ _ h=>(by cases h),fun _ _ _ h=>(by cases h),fun _ _ h=>(by cases h;rfl)⟩
theorem blockF_le {id:Nat} {r:RC} {s:ResC} (g:RCLe r s):RCLe (blockF id r) (evBlock id s):=by
 cases r with
 |no=>exact .no
 |nrm ts st=>rw [g.1 ts st rfl];exact ⟨fun _ _ h=>(by cases h;rfl),fun _ _ _ h=>(by cases h),fun _ _ h=>(by cases h)⟩
 |ex i ts st=>
  rw [g.2.1 i ts st rfl]
  show RCLe (br (Nat.beq i id) (.nrm ts st) (.ex i ts st)) (match Nat.beq i id with|true=>some (.normal,ts,st)|false=>some (.exit i,ts,st))
  cases Nat.beq i id
  ·exact ⟨fun _ _ h=>(by cases h),fun _ _ _ h=>(by cases h;rfl),fun _ _ h=>(by cases h)⟩
  ·exact ⟨fun _ _ h=>(by cases h;rfl),fun _ _ _ h=>(by cases h),fun _ _ h=>(by cases h)⟩
 |rt ts st=>rw [g.2.2 ts st rfl];exact ⟨fun _ _ h=>(by cases h),fun _ _ _ h=>(by cases h),fun _ _ h=>(by cases h;rfl)⟩
theorem condF_le {f:RecF} {g:Rec} (h:RecLe f g) {m:Nat} (y:m≤4000) {a b:Code} {ts:Ts} {st:St} {v:Value}:RCLe (condF f m a b ts st (vB v)) (evCond g m a b v ts st):=by
 unfold condF
 cases B:vB v with
 |o=>exact .no
 |t=>rw [vB_t B];exact h _ _ _ _ y
 |f=>rw [vB_f B];exact h _ _ _ _ y
theorem rgF_le {orc:Orc} {f:RecF} {g:Rec} (h:RecLe f g) {m:Nat} (B:m≤4000) (ops:Array Oper) (y:Bool) (ts:Ts) (st:St):RCLe (rgF ops y P G orc f m ts st) (evRegion P G orc g m ops y ts st):=by
 unfold rgF evRegion
 cases constsB G ops with
 |false=>exact .no
 |true=>
  cases y with
  |false=>exact ofRT_le (opsF_le (callFF_le (orc:=orc) h) B ops ops.toList ts st) fun ts st e=>by simp only [e]
  |true=>
   show RCLe (br (regionB ops) (ofRT (drwF P G (callFF P G orc f) m ops ts st)) .no) (match regionB ops with
    |true=>(match evDraw P G (evCallF P G orc g) m ops ts st with|some (ts,st)=>some (.normal,ts,st)|none=>none)
    |false=>none)
   cases regionB ops with
   |false=>exact .no
   |true=>exact ofRT_le (drwF_le (callFF_le (orc:=orc) h) B ops ts st) fun ts st e=>by simp only [e]
theorem codeF_le {orc:Orc} {f:RecF} {g:Rec} (h:RecLe f g) {m:Nat} (y:m≤4000) (c:Code) (ts:Ts) (st:St):RCLe (codeF c P G orc f m ts st) (codeD c P G orc g m ts st):=by
 cases c with
 |skip=>exact ⟨fun _ _ h=>(by cases h;rfl),fun _ _ _ h=>(by cases h),fun _ _ h=>(by cases h)⟩
 |region id ops B=>exact rgF_le h y ops B ts st
 |seq a b=>exact seqF_le h y (h _ _ _ _ y)
 |cond x a b=>
  show RCLe (condF f m a b ts st (vB (ρF ts x))) (evCond g m a b (ρ ts x) ts st)
  rw [ρF_eq];exact condF_le h y
 |block id b=>exact blockF_le (h _ _ _ _ y)
 |loop b=>exact seqF_le h y (h _ _ _ _ y)
 |rangeFunc a b c d=>exact .no
 |exit id=>exact ⟨fun _ _ h=>(by cases h),fun _ _ _ h=>(by cases h;rfl),fun _ _ h=>(by cases h)⟩
 |scope b=>exact h _ _ _ _ y
 |label l=>exact ⟨fun _ _ h=>(by cases h;rfl),fun _ _ _ h=>(by cases h),fun _ _ h=>(by cases h)⟩
 |goto l=>exact .no
 |ret=>exact ⟨fun _ _ h=>(by cases h),fun _ _ _ h=>(by cases h),fun _ _ h=>(by cases h;rfl)⟩
 |refuse w=>exact .no
theorem ecF_le (orc:Orc): ∀n,RecLe (ecF P G orc n) (ec P G orc n)
 |0=>fun _ _ _ _ _=> .no
 |n+1=>fun m c ts st g=>by
  rw [ec_succ]
  exact codeF_le (ecF_le orc n) g c ts st
theorem runG_ok {orc:Orc} {n:Nat} {f:FuncId} {args:List Value} {v:Value} (h:runG P G orc n f args=some v):runF P G orc n f args=some v:=by
 unfold runG at h
 cases g:enterF P G (ecF P G orc n) f args ⟨[],G,G⟩ with
 |none=>rw [g] at h;cases h
 |some x=>
  rw [g] at h
  obtain ⟨u,st⟩:=x
  have h:some u=some v:=h
  obtain rfl:u=v:=Option.some.inj h
  unfold runF
  rw [enterF_le (ecF_le orc n) f args _ u st g]
theorem orcIn_ok {base:Nat} {T:World→Prop} {orc:Orc} (l:List Nat) (h:OrcSound P G base T orc):OrcSound P G base T (orcIn l orc):=by
 intro g args st v φ W Args e
 unfold orcIn at e
 cases y:memN l g with
 |true=>rw [y] at e;exact h g args st v φ W Args e
 |false=>rw [y] at e;cases e
end
end
end Go.Proofs.YtpmaemedpcgjaaaGreatDoor.Ev
