/-
  What the law CacheLast leans on, and its walk (1 of 21).
-/
import Derived.Below
import Derived.Maps.OwnSet
import Derived.Maps.Ext
namespace Go.Proofs.YtkiehdigpchebaaGreatDoor
set_option maxRecDepth 100000
set_option maxHeartbeats 16000000
section
open Go.RowKit
structure CE where
 nm:List UInt8
 un:Int
 sv:Value
def CE.val (e:CE):Value:= .agg #[.int .i64 e.un,e.sv]
def CE.ent (e:CE):Lit×DataW Value:=(.string e.nm,.held e.val)
def zdH (v:Value):Option (DataW Value×List MemPlace):=match v with
 | .agg ⟨[.int .i64 _,.slice _ _ _]⟩=>some (.held v,[])
 |_=>none
theorem zbN (u:Int) (a:Option Addr) (n c:Nat):zdH (.agg #[.int .i64 u,.slice a n c])=some (.held (.agg #[.int .i64 u,.slice a n c]),[]):=rfl
theorem zcR {v:Value} {y:DataW Value×List MemPlace} (h:zdH v=some y): ∃u a n c,v= .agg #[.int .i64 u,.slice a n c]∧y=(.held v,[]):=by
 unfold zdH at h
 split at h
 ·rename_i u a n c;cases h;exact ⟨u,a,n,c,rfl,rfl⟩
 ·cases h
def DL (L:List CE):DataW Value:= .map (L.map CE.ent)
def zaV (L:List CE):Prop:=L.Pairwise fun a b=>bytesBefore a.nm b.nm=true
def zaL (n:List UInt8) (L:List CE):Option CE:=L.find? (fun e=>e.nm==n)
def delE (n:List UInt8) (L:List CE):List CE:=L.filter (fun e=> !(e.nm==n))
def insE (e:CE):List CE→List CE
 |[]=>[e]
 |a::l=>if bytesBefore e.nm a.nm then e::a::l else a::insE e l
def putE (e:CE) (L:List CE):List CE:=insE e (delE e.nm L)
theorem zbO: ∀a:List UInt8,bytesBefore a a=false
 |[]=>rfl
 |a::l=>by unfold bytesBefore;simp [zbO l]
theorem zcD: ∀{a b c:List UInt8},bytesBefore a b=true→bytesBefore b c=true→bytesBefore a c=true
 |[],[],_,h,_=>by cases h
 |[],_::_,[],_,k=>by cases k
 |[],_::_,_::_,_,_=>rfl
 |_::_,[],_,h,_=>by cases h
 |_::_,_::_,[],_,k=>by cases k
 |a::l,b::m,c::n,h,k=>by
  unfold bytesBefore at h k ⊢
  simp only [Bool.or_eq_true,decide_eq_true_eq,Bool.and_eq_true,beq_iff_eq] at h k ⊢
  rcases h with h|⟨rfl,h⟩
  ·rcases k with k|⟨rfl,k⟩
   ·exact .inl (UInt8.lt_trans h k)
   ·exact .inl h
  ·rcases k with k|⟨rfl,k⟩
   ·exact .inl k
   ·exact .inr ⟨rfl,zcD h k⟩
theorem zcE: ∀{a b:List UInt8},bytesBefore a b=false→a≠b→bytesBefore b a=true
 |[],[],_,k=>absurd rfl k
 |[],_::_,h,_=>by cases h
 |_::_,[],_,_=>rfl
 |a::l,b::m,h,k=>by
  unfold bytesBefore at h ⊢
  simp only [Bool.or_eq_false_iff,decide_eq_false_iff_not,Bool.and_eq_false_iff,beq_eq_false_iff_ne] at h
  simp only [Bool.or_eq_true,decide_eq_true_eq,Bool.and_eq_true,beq_iff_eq]
  rcases UInt8.lt_or_lt_of_ne (a:=a) (b:=b)|>fun f=>(Classical.em (a=b)).symm.imp f id with (q|q)|rfl
  ·exact absurd q h.1
  ·exact .inl q
  ·refine .inr ⟨rfl,zcE (h.2.resolve_left (by simp)) fun e=>k (by rw [e])⟩
theorem zdA {n:List UInt8} {L:List CE} {e:CE}:e∈delE n L↔e∈L∧e.nm≠n:=by
 unfold delE
 rw [List.mem_filter]
 simp
theorem zdL {e x:CE}: ∀{L:List CE},x∈insE e L↔x=e∨x∈L
 |[]=>by simp [insE]
 |a::l=>by
  unfold insE
  split
  ·simp
  ·rw [List.mem_cons,zdL,List.mem_cons]
   exact ⟨fun h=>by rcases h with h|h|h;exact .inr (.inl h);exact .inl h;exact .inr (.inr h),fun h=>by rcases h with h|h|h;exact .inr (.inl h);exact .inl h;exact .inr (.inr h)⟩
theorem zaU {e x:CE} {L:List CE}:x∈putE e L↔x=e∨(x∈L∧x.nm≠e.nm):=by
 unfold putE;rw [zdL,zdA]
theorem zaV.del {L:List CE} (h:zaV L) (n:List UInt8):zaV (delE n L):=List.Pairwise.sublist List.filter_sublist h
theorem zaV.ins {e:CE}: ∀{L:List CE},zaV L→(∀x∈L,x.nm≠e.nm)→zaV (insE e L)
 |[],_,_=>by simp [insE,zaV]
 |a::l,h,j=>by
  have i:=List.pairwise_cons.1 h
  unfold insE
  split
  ·rename_i g
   refine List.pairwise_cons.2 ⟨fun x f=> ?_,h⟩
   rcases List.mem_cons.1 f with rfl|f
   ·exact g
   ·exact zcD g (i.1 x f)
  ·rename_i g
   refine List.pairwise_cons.2 ⟨fun x f=> ?_,zaV.ins i.2 fun x f=>j x (List.mem_cons_of_mem _ f)⟩
   rcases zdL.1 f with rfl|f
   ·exact zcE (by simpa using g) (fun q=>j a (by simp) q.symm)
   ·exact i.1 x f
theorem zaV.put {L:List CE} (h:zaV L) (e:CE):zaV (putE e L):=zaV.ins (h.del _) fun _ a=>(zdA.1 a).2
theorem zdD (e:CE): ∀L:List CE,(insE e L).length=L.length+1
 |[]=>rfl
 |a::l=>by unfold insE;split<;>simp [zdD e l]
theorem zaV.one {L:List CE} (h:zaV L) {a b:CE} (j:a∈L) (o:b∈L) (e:a.nm=b.nm):a=b:=by
 induction L with
 |nil=>cases j
 |cons x l p=>
  have i:=List.pairwise_cons.1 h
  rcases List.mem_cons.1 j with g|g
  ·rcases List.mem_cons.1 o with f|f
   ·rw [g,f]
   ·have:=i.1 b f;rw [←g,e,zbO] at this;cases this
  ·rcases List.mem_cons.1 o with f|f
   ·have:=i.1 a g;rw [←f,←e,zbO] at this;cases this
   ·exact p i.2 g f
theorem zaP {L:List CE} {n:List UInt8} {e:CE} (h:zaL n L=some e):e∈L∧e.nm=n:=by
 unfold zaL at h
 exact ⟨List.mem_of_find?_eq_some h,by simpa using List.find?_some h⟩
theorem zhI {L:List CE} {n:List UInt8} (h:zaL n L=none): ∀e∈L,e.nm≠n:=by
 unfold zaL at h
 intro e a
 have:=List.find?_eq_none.1 h e a
 simpa using this
theorem zbI {L:List CE} (h:zaV L) {e:CE} (a:e∈L):zaL e.nm L=some e:=by
 cases f:zaL e.nm L with
 |none=>exact absurd rfl (zhI f e a)
 |some x=>obtain ⟨i,g⟩:=zaP f;rw [h.one i a g]
theorem zgC {L:List CE} (h:zaV L) {n:List UInt8} {e:CE} (f:zaL n L=some e):(delE n L).length+1=L.length:=by
 induction L with
 |nil=>cases f
 |cons x l j=>
  have g:=List.pairwise_cons.1 h
  by_cases a:x.nm=n
  ·have i:delE n l=l:=List.filter_eq_self.2 fun y o=>by
    have:=g.1 y o
    rw [a] at this
    simp only [Bool.not_eq_true',beq_eq_false_iff_ne]
    intro q;rw [q,zbO] at this;cases this
   unfold delE at i ⊢
   rw [List.filter_cons,if_neg (by simp [a]),i]
   rfl
  ·unfold zaL at f
   rw [List.find?_cons,show (x.nm==n)=false from beq_eq_false_iff_ne.2 a] at f
   have:=j g.2 f
   unfold delE at this ⊢
   rw [List.filter_cons,if_pos (by simp [a])]
   simp only [List.length_cons]
   omega
/-! ### as a map is read -/
theorem zdC (L:List CE):Maps.size (DL L)=L.length:=by unfold DL;rw [Maps.size_eq,List.length_map]
theorem zfJ (n:List UInt8): ∀L:List CE,(L.map CE.ent).find? (fun p=>p.1.sameKey (.string n))=(zaL n L).map CE.ent
 |[]=>rfl
 |a::l=>by
  unfold zaL
  rw [List.map_cons,List.find?_cons,List.find?_cons]
  show (match a.nm==n with|true=>_|false=>_)=_
  cases a.nm==n with
  |true=>rfl
  |false=>exact zfJ n l
theorem DL_has (n:List UInt8) (L:List CE):Maps.has (DL L) (.string n)=(zaL n L).isSome:=by
 unfold DL
 rw [Maps.has_eq,Bool.eq_iff_iff,List.any_eq_true]
 constructor
 ·rintro ⟨p,a,i⟩
  cases j:zaL n L with
  |some _=>rfl
  |none=>
   have:=zfJ n L
   rw [j,Option.map_none,List.find?_eq_none] at this
   exact absurd i (this p a)
 ·intro h
  obtain ⟨e,f⟩:=Option.isSome_iff_exists.1 h
  obtain ⟨o,g⟩:=zaP f
  exact ⟨e.ent,List.mem_map_of_mem o,by show (e.nm==n)=true;simp [g]⟩
theorem zmO (n:List UInt8) (L:List CE) (z:DataW Value):(DL L).atKey (.string n) z=((zaL n L).map fun e=>DataW.held e.val).getD z:=by
 unfold DL DataW.atKey
 simp only
 rw [zfJ]
 cases zaL n L<;>rfl
theorem zmF (n:List UInt8) (L:List CE):(DL L).del (.string n)=DL (delE n L):=by
 unfold DL DataW.del delE
 simp only
 congr 1
 rw [List.filter_map]
 rfl
theorem zmE (e:CE): ∀L:List CE,DataW.insert e.ent (L.map CE.ent)=(insE e L).map CE.ent
 |[]=>rfl
 |a::l=>by
  unfold insE
  rw [List.map_cons]
  unfold DataW.insert
  show (if bytesBefore e.nm a.nm then _ else _)=_
  split
  ·rfl
  ·rw [zmE e l];rfl
theorem DL_put (e:CE) (L:List CE):(DL L).put (.string e.nm) (.held e.val)=DL (putE e L):=by
 have h:=zmF e.nm L
 unfold DL DataW.del at h
 unfold DL DataW.put putE
 simp only at h ⊢
 rw [DataW.map.injEq] at h
 rw [h]
 exact congrArg DataW.map (zmE e (delE e.nm L))
end
end Go.Proofs.YtkiehdigpchebaaGreatDoor
