/-
  What the law CacheSweeps leans on, and its walk (1 of 21).
-/
import Derived.Below
import Derived.Maps.OwnSet
import Derived.Maps.Ext
namespace Go.Proofs.YteajemblhlbfpaaGreatDoor
set_option maxRecDepth 100000
set_option maxHeartbeats 16000000
section
open Go.RowKit
structure CE where
 nm:List UInt8
 un:Int
 sv:Value
def CE.val (e:CE):Value:= .agg #[.int .i64 e.un,e.sv]
def CE.ent (e:CE):Lit×DataW Value:=(.string e.nm,.held e.val)
def zbD (v:Value):Option (DataW Value×List MemPlace):=match v with
 | .agg ⟨[.int .i64 _,.slice _ _ _]⟩=>some (.held v,[])
 |_=>none
theorem zaZ (u:Int) (a:Option Addr) (n c:Nat):zbD (.agg #[.int .i64 u,.slice a n c])=some (.held (.agg #[.int .i64 u,.slice a n c]),[]):=rfl
theorem zaS {v:Value} {y:DataW Value×List MemPlace} (h:zbD v=some y): ∃u a n c,v= .agg #[.int .i64 u,.slice a n c]∧y=(.held v,[]):=by
 unfold zbD at h
 split at h
 ·rename_i u a n c;cases h;exact ⟨u,a,n,c,rfl,rfl⟩
 ·cases h
def DL (L:List CE):DataW Value:= .map (L.map CE.ent)
def zaJ (L:List CE):Prop:=L.Pairwise fun a b=>bytesBefore a.nm b.nm=true
def zaL (n:List UInt8) (L:List CE):Option CE:=L.find? (fun e=>e.nm==n)
def delE (n:List UInt8) (L:List CE):List CE:=L.filter (fun e=> !(e.nm==n))
def insE (e:CE):List CE→List CE
 |[]=>[e]
 |a::l=>if bytesBefore e.nm a.nm then e::a::l else a::insE e l
def putE (e:CE) (L:List CE):List CE:=insE e (delE e.nm L)
theorem zaR: ∀a:List UInt8,bytesBefore a a=false
 |[]=>rfl
 |a::l=>by unfold bytesBefore;simp [zaR l]
theorem zbE: ∀{a b c:List UInt8},bytesBefore a b=true→bytesBefore b c=true→bytesBefore a c=true
 |[],[],_,h,_=>by cases h
 |[],_::_,[],_,k=>by cases k
 |[],_::_,_::_,_,_=>rfl
 |_::_,[],_,h,_=>by cases h
 |_::_,_::_,[],_,k=>by cases k
 |a::l,b::m,c::n,h,k=>by
  unfold bytesBefore at h k ⊢
  simp only [Bool.or_eq_true,decide_eq_true_eq,Bool.and_eq_true,beq_iff_eq] at h k ⊢
  rcases h with h|⟨rfl,h⟩
  ·rcases k with k|⟨rfl,k⟩
   ·exact .inl (UInt8.lt_trans h k)
   ·exact .inl h
  ·rcases k with k|⟨rfl,k⟩
   ·exact .inl k
   ·exact .inr ⟨rfl,zbE h k⟩
theorem zcB: ∀{a b:List UInt8},bytesBefore a b=false→a≠b→bytesBefore b a=true
 |[],[],_,k=>absurd rfl k
 |[],_::_,h,_=>by cases h
 |_::_,[],_,_=>rfl
 |a::l,b::m,h,k=>by
  unfold bytesBefore at h ⊢
  simp only [Bool.or_eq_false_iff,decide_eq_false_iff_not,Bool.and_eq_false_iff,beq_eq_false_iff_ne] at h
  simp only [Bool.or_eq_true,decide_eq_true_eq,Bool.and_eq_true,beq_iff_eq]
  rcases UInt8.lt_or_lt_of_ne (a:=a) (b:=b)|>fun f=>(Classical.em (a=b)).symm.imp f id with (q|q)|rfl
  ·exact absurd q h.1
  ·exact .inl q
  ·refine .inr ⟨rfl,zcB (h.2.resolve_left (by simp)) fun e=>k (by rw [e])⟩
theorem zdG {n:List UInt8} {L:List CE} {e:CE}:e∈delE n L↔e∈L∧e.nm≠n:=by
 unfold delE
 rw [List.mem_filter]
 simp
theorem zcV {e x:CE}: ∀{L:List CE},x∈insE e L↔x=e∨x∈L
 |[]=>by simp [insE]
 |a::l=>by
  unfold insE
  split
  ·simp
  ·rw [List.mem_cons,zcV,List.mem_cons]
   exact ⟨fun h=>by rcases h with h|h|h;exact .inr (.inl h);exact .inl h;exact .inr (.inr h),fun h=>by rcases h with h|h|h;exact .inr (.inl h);exact .inl h;exact .inr (.inr h)⟩
theorem zcT {e x:CE} {L:List CE}:x∈putE e L↔x=e∨(x∈L∧x.nm≠e.nm):=by
 unfold putE;rw [zcV,zdG]
theorem zaJ.del {L:List CE} (h:zaJ L) (n:List UInt8):zaJ (delE n L):=List.Pairwise.sublist List.filter_sublist h
theorem zaJ.ins {e:CE}: ∀{L:List CE},zaJ L→(∀x∈L,x.nm≠e.nm)→zaJ (insE e L)
 |[],_,_=>by simp [insE,zaJ]
 |a::l,h,j=>by
  have i:=List.pairwise_cons.1 h
  unfold insE
  split
  ·rename_i g
   refine List.pairwise_cons.2 ⟨fun x f=> ?_,h⟩
   rcases List.mem_cons.1 f with rfl|f
   ·exact g
   ·exact zbE g (i.1 x f)
  ·rename_i g
   refine List.pairwise_cons.2 ⟨fun x f=> ?_,zaJ.ins i.2 fun x f=>j x (List.mem_cons_of_mem _ f)⟩
   rcases zcV.1 f with rfl|f
   ·exact zcB (by simpa using g) (fun q=>j a (by simp) q.symm)
   ·exact i.1 x f
theorem zaJ.put {L:List CE} (h:zaJ L) (e:CE):zaJ (putE e L):=zaJ.ins (h.del _) fun _ a=>(zdG.1 a).2
theorem zgG (e:CE): ∀L:List CE,(insE e L).length=L.length+1
 |[]=>rfl
 |a::l=>by unfold insE;split<;>simp [zgG e l]
theorem zaJ.one {L:List CE} (h:zaJ L) {a b:CE} (o:a∈L) (j:b∈L) (e:a.nm=b.nm):a=b:=by
 induction L with
 |nil=>cases o
 |cons x l p=>
  have i:=List.pairwise_cons.1 h
  rcases List.mem_cons.1 o with g|g
  ·rcases List.mem_cons.1 j with f|f
   ·rw [g,f]
   ·have:=i.1 b f;rw [←g,e,zaR] at this;cases this
  ·rcases List.mem_cons.1 j with f|f
   ·have:=i.1 a g;rw [←f,←e,zaR] at this;cases this
   ·exact p i.2 g f
theorem zbG {L:List CE} {n:List UInt8} {e:CE} (h:zaL n L=some e):e∈L∧e.nm=n:=by
 unfold zaL at h
 exact ⟨List.mem_of_find?_eq_some h,by simpa using List.find?_some h⟩
theorem zgV {L:List CE} {n:List UInt8} (h:zaL n L=none): ∀e∈L,e.nm≠n:=by
 unfold zaL at h
 intro e a
 have:=List.find?_eq_none.1 h e a
 simpa using this
theorem zbR {L:List CE} (h:zaJ L) {e:CE} (f:e∈L):zaL e.nm L=some e:=by
 cases a:zaL e.nm L with
 |none=>exact absurd rfl (zgV a e f)
 |some x=>obtain ⟨g,i⟩:=zbG a;rw [h.one g f i]
theorem zgK {L:List CE} (h:zaJ L) {n:List UInt8} {e:CE} (a:zaL n L=some e):(delE n L).length+1=L.length:=by
 induction L with
 |nil=>cases a
 |cons x l o=>
  have i:=List.pairwise_cons.1 h
  by_cases f:x.nm=n
  ·have g:delE n l=l:=List.filter_eq_self.2 fun y j=>by
    have:=i.1 y j
    rw [f] at this
    simp only [Bool.not_eq_true',beq_eq_false_iff_ne]
    intro q;rw [q,zaR] at this;cases this
   unfold delE at g ⊢
   rw [List.filter_cons,if_neg (by simp [f]),g]
   rfl
  ·unfold zaL at a
   rw [List.find?_cons,show (x.nm==n)=false from beq_eq_false_iff_ne.2 f] at a
   have:=o i.2 a
   unfold delE at this ⊢
   rw [List.filter_cons,if_pos (by simp [f])]
   simp only [List.length_cons]
   omega
/-! ### as a map is read -/
theorem zbV (L:List CE):Maps.size (DL L)=L.length:=by unfold DL;rw [Maps.size_eq,List.length_map]
theorem zeU (n:List UInt8): ∀L:List CE,(L.map CE.ent).find? (fun p=>p.1.sameKey (.string n))=(zaL n L).map CE.ent
 |[]=>rfl
 |a::l=>by
  unfold zaL
  rw [List.map_cons,List.find?_cons,List.find?_cons]
  show (match a.nm==n with|true=>_|false=>_)=_
  cases a.nm==n with
  |true=>rfl
  |false=>exact zeU n l
theorem zmF (n:List UInt8) (L:List CE):Maps.has (DL L) (.string n)=(zaL n L).isSome:=by
 unfold DL
 rw [Maps.has_eq,Bool.eq_iff_iff,List.any_eq_true]
 constructor
 ·rintro ⟨p,o,i⟩
  cases a:zaL n L with
  |some _=>rfl
  |none=>
   have:=zeU n L
   rw [a,Option.map_none,List.find?_eq_none] at this
   exact absurd i (this p o)
 ·intro h
  obtain ⟨e,f⟩:=Option.isSome_iff_exists.1 h
  obtain ⟨g,j⟩:=zbG f
  exact ⟨e.ent,List.mem_map_of_mem g,by show (e.nm==n)=true;simp [j]⟩
theorem zkO (n:List UInt8) (L:List CE) (z:DataW Value):(DL L).atKey (.string n) z=((zaL n L).map fun e=>DataW.held e.val).getD z:=by
 unfold DL DataW.atKey
 simp only
 rw [zeU]
 cases zaL n L<;>rfl
theorem zmC (n:List UInt8) (L:List CE):(DL L).del (.string n)=DL (delE n L):=by
 unfold DL DataW.del delE
 simp only
 congr 1
 rw [List.filter_map]
 rfl
theorem zmA (e:CE): ∀L:List CE,DataW.insert e.ent (L.map CE.ent)=(insE e L).map CE.ent
 |[]=>rfl
 |a::l=>by
  unfold insE
  rw [List.map_cons]
  unfold DataW.insert
  show (if bytesBefore e.nm a.nm then _ else _)=_
  split
  ·rfl
  ·rw [zmA e l];rfl
theorem DL_put (e:CE) (L:List CE):(DL L).put (.string e.nm) (.held e.val)=DL (putE e L):=by
 have h:=zmC e.nm L
 unfold DL DataW.del at h
 unfold DL DataW.put putE
 simp only at h ⊢
 rw [DataW.map.injEq] at h
 rw [h]
 exact congrArg DataW.map (zmA e (delE e.nm L))
end
end Go.Proofs.YteajemblhlbfpaaGreatDoor
