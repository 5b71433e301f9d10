/-
  What the law CachePlays leans on, and its walk (1 of 21).
-/
import Derived.Below
import Derived.Maps.OwnSet
import Derived.Maps.Ext
namespace Go.Proofs.YteajemblhlbfpaaGreatDoor
set_option maxRecDepth 100000
set_option maxHeartbeats 16000000
section
open Go.RowKit
structure CE where
 nm:List UInt8
 un:Int
 sv:Value
def CE.val (e:CE):Value:= .agg #[.int .i64 e.un,e.sv]
def CE.ent (e:CE):Lit×DataW Value:=(.string e.nm,.held e.val)
def zbL (v:Value):Option (DataW Value×List MemPlace):=match v with
 | .agg ⟨[.int .i64 _,.slice _ _ _]⟩=>some (.held v,[])
 |_=>none
theorem zbI (u:Int) (a:Option Addr) (n c:Nat):zbL (.agg #[.int .i64 u,.slice a n c])=some (.held (.agg #[.int .i64 u,.slice a n c]),[]):=rfl
theorem zaX {v:Value} {y:DataW Value×List MemPlace} (h:zbL v=some y): ∃u a n c,v= .agg #[.int .i64 u,.slice a n c]∧y=(.held v,[]):=by
 unfold zbL at h
 split at h
 ·rename_i u a n c;cases h;exact ⟨u,a,n,c,rfl,rfl⟩
 ·cases h
def DL (L:List CE):DataW Value:= .map (L.map CE.ent)
def zaM (L:List CE):Prop:=L.Pairwise fun a b=>bytesBefore a.nm b.nm=true
def zaJ (n:List UInt8) (L:List CE):Option CE:=L.find? (fun e=>e.nm==n)
def delE (n:List UInt8) (L:List CE):List CE:=L.filter (fun e=> !(e.nm==n))
def insE (e:CE):List CE→List CE
 |[]=>[e]
 |a::l=>if bytesBefore e.nm a.nm then e::a::l else a::insE e l
def putE (e:CE) (L:List CE):List CE:=insE e (delE e.nm L)
theorem zaR: ∀a:List UInt8,bytesBefore a a=false
 |[]=>rfl
 |a::l=>by unfold bytesBefore;simp [zaR l]
theorem zaZ: ∀{a b c:List UInt8},bytesBefore a b=true→bytesBefore b c=true→bytesBefore a c=true
 |[],[],_,h,_=>by cases h
 |[],_::_,[],_,k=>by cases k
 |[],_::_,_::_,_,_=>rfl
 |_::_,[],_,h,_=>by cases h
 |_::_,_::_,[],_,k=>by cases k
 |a::l,b::m,c::n,h,k=>by
  unfold bytesBefore at h k ⊢
  simp only [Bool.or_eq_true,decide_eq_true_eq,Bool.and_eq_true,beq_iff_eq] at h k ⊢
  rcases h with h|⟨rfl,h⟩
  ·rcases k with k|⟨rfl,k⟩
   ·exact .inl (UInt8.lt_trans h k)
   ·exact .inl h
  ·rcases k with k|⟨rfl,k⟩
   ·exact .inl k
   ·exact .inr ⟨rfl,zaZ h k⟩
theorem zbO: ∀{a b:List UInt8},bytesBefore a b=false→a≠b→bytesBefore b a=true
 |[],[],_,k=>absurd rfl k
 |[],_::_,h,_=>by cases h
 |_::_,[],_,_=>rfl
 |a::l,b::m,h,k=>by
  unfold bytesBefore at h ⊢
  simp only [Bool.or_eq_false_iff,decide_eq_false_iff_not,Bool.and_eq_false_iff,beq_eq_false_iff_ne] at h
  simp only [Bool.or_eq_true,decide_eq_true_eq,Bool.and_eq_true,beq_iff_eq]
  rcases UInt8.lt_or_lt_of_ne (a:=a) (b:=b)|>fun f=>(Classical.em (a=b)).symm.imp f id with (q|q)|rfl
  ·exact absurd q h.1
  ·exact .inl q
  ·refine .inr ⟨rfl,zbO (h.2.resolve_left (by simp)) fun e=>k (by rw [e])⟩
theorem zcB {n:List UInt8} {L:List CE} {e:CE}:e∈delE n L↔e∈L∧e.nm≠n:=by
 unfold delE
 rw [List.mem_filter]
 simp
theorem zdT {e x:CE}: ∀{L:List CE},x∈insE e L↔x=e∨x∈L
 |[]=>by simp [insE]
 |a::l=>by
  unfold insE
  split
  ·simp
  ·rw [List.mem_cons,zdT,List.mem_cons]
   exact ⟨fun h=>by rcases h with h|h|h;exact .inr (.inl h);exact .inl h;exact .inr (.inr h),fun h=>by rcases h with h|h|h;exact .inr (.inl h);exact .inl h;exact .inr (.inr h)⟩
theorem zbU {e x:CE} {L:List CE}:x∈putE e L↔x=e∨(x∈L∧x.nm≠e.nm):=by
 unfold putE;rw [zdT,zcB]
theorem zaM.del {L:List CE} (h:zaM L) (n:List UInt8):zaM (delE n L):=List.Pairwise.sublist List.filter_sublist h
theorem zaM.ins {e:CE}: ∀{L:List CE},zaM L→(∀x∈L,x.nm≠e.nm)→zaM (insE e L)
 |[],_,_=>by simp [insE,zaM]
 |a::l,h,j=>by
  have i:=List.pairwise_cons.1 h
  unfold insE
  split
  ·rename_i g
   refine List.pairwise_cons.2 ⟨fun x f=> ?_,h⟩
   rcases List.mem_cons.1 f with rfl|f
   ·exact g
   ·exact zaZ g (i.1 x f)
  ·rename_i g
   refine List.pairwise_cons.2 ⟨fun x f=> ?_,zaM.ins i.2 fun x f=>j x (List.mem_cons_of_mem _ f)⟩
   rcases zdT.1 f with rfl|f
   ·exact zbO (by simpa using g) (fun q=>j a (by simp) q.symm)
   ·exact i.1 x f
theorem zaM.put {L:List CE} (h:zaM L) (e:CE):zaM (putE e L):=zaM.ins (h.del _) fun _ f=>(zcB.1 f).2
theorem zdW (e:CE): ∀L:List CE,(insE e L).length=L.length+1
 |[]=>rfl
 |a::l=>by unfold insE;split<;>simp [zdW e l]
theorem zaM.one {L:List CE} (h:zaM L) {a b:CE} (o:a∈L) (j:b∈L) (e:a.nm=b.nm):a=b:=by
 induction L with
 |nil=>cases o
 |cons x l p=>
  have i:=List.pairwise_cons.1 h
  rcases List.mem_cons.1 o with g|g
  ·rcases List.mem_cons.1 j with f|f
   ·rw [g,f]
   ·have:=i.1 b f;rw [←g,e,zaR] at this;cases this
  ·rcases List.mem_cons.1 j with f|f
   ·have:=i.1 a g;rw [←f,←e,zaR] at this;cases this
   ·exact p i.2 g f
theorem zbD {L:List CE} {n:List UInt8} {e:CE} (h:zaJ n L=some e):e∈L∧e.nm=n:=by
 unfold zaJ at h
 exact ⟨List.mem_of_find?_eq_some h,by simpa using List.find?_some h⟩
theorem zcN {L:List CE} {n:List UInt8} (h:zaJ n L=none): ∀e∈L,e.nm≠n:=by
 unfold zaJ at h
 intro e f
 have:=List.find?_eq_none.1 h e f
 simpa using this
theorem zcH {L:List CE} (h:zaM L) {e:CE} (g:e∈L):zaJ e.nm L=some e:=by
 cases f:zaJ e.nm L with
 |none=>exact absurd rfl (zcN f e g)
 |some x=>obtain ⟨j,i⟩:=zbD f;rw [h.one j g i]
theorem zdD {L:List CE} {n:List UInt8} (h:zaJ n L=none):delE n L=L:=List.filter_eq_self.2 fun e f=>by simpa using zcN h e f
theorem zdR {L:List CE} (h:zaM L) {n:List UInt8} {e:CE} (f:zaJ n L=some e):(delE n L).length+1=L.length:=by
 induction L with
 |nil=>cases f
 |cons x l o=>
  have i:=List.pairwise_cons.1 h
  by_cases g:x.nm=n
  ·have j:delE n l=l:=List.filter_eq_self.2 fun y p=>by
    have:=i.1 y p
    rw [g] at this
    simp only [Bool.not_eq_true',beq_eq_false_iff_ne]
    intro q;rw [q,zaR] at this;cases this
   unfold delE at j ⊢
   rw [List.filter_cons,if_neg (by simp [g]),j]
   rfl
  ·unfold zaJ at f
   rw [List.find?_cons,show (x.nm==n)=false from beq_eq_false_iff_ne.2 g] at f
   have:=o i.2 f
   unfold delE at this ⊢
   rw [List.filter_cons,if_pos (by simp [g])]
   simp only [List.length_cons]
   omega
/-! ### as a map is read -/
theorem zcM (L:List CE):Maps.size (DL L)=L.length:=by unfold DL;rw [Maps.size_eq,List.length_map]
theorem zfP (n:List UInt8): ∀L:List CE,(L.map CE.ent).find? (fun p=>p.1.sameKey (.string n))=(zaJ n L).map CE.ent
 |[]=>rfl
 |a::l=>by
  unfold zaJ
  rw [List.map_cons,List.find?_cons,List.find?_cons]
  show (match a.nm==n with|true=>_|false=>_)=_
  cases a.nm==n with
  |true=>rfl
  |false=>exact zfP n l
theorem znJ (n:List UInt8) (L:List CE):Maps.has (DL L) (.string n)=(zaJ n L).isSome:=by
 unfold DL
 rw [Maps.has_eq,Bool.eq_iff_iff,List.any_eq_true]
 constructor
 ·rintro ⟨p,j,y⟩
  cases f:zaJ n L with
  |some _=>rfl
  |none=>
   have:=zfP n L
   rw [f,Option.map_none,List.find?_eq_none] at this
   exact absurd y (this p j)
 ·intro h
  obtain ⟨e,g⟩:=Option.isSome_iff_exists.1 h
  obtain ⟨o,i⟩:=zbD g
  exact ⟨e.ent,List.mem_map_of_mem o,by show (e.nm==n)=true;simp [i]⟩
theorem zkK (n:List UInt8) (L:List CE) (z:DataW Value):(DL L).atKey (.string n) z=((zaJ n L).map fun e=>DataW.held e.val).getD z:=by
 unfold DL DataW.atKey
 simp only
 rw [zfP]
 cases zaJ n L<;>rfl
theorem znM (n:List UInt8) (L:List CE):(DL L).del (.string n)=DL (delE n L):=by
 unfold DL DataW.del delE
 simp only
 congr 1
 rw [List.filter_map]
 rfl
theorem znO (e:CE): ∀L:List CE,DataW.insert e.ent (L.map CE.ent)=(insE e L).map CE.ent
 |[]=>rfl
 |a::l=>by
  unfold insE
  rw [List.map_cons]
  unfold DataW.insert
  show (if bytesBefore e.nm a.nm then _ else _)=_
  split
  ·rfl
  ·rw [znO e l];rfl
theorem DL_put (e:CE) (L:List CE):(DL L).put (.string e.nm) (.held e.val)=DL (putE e L):=by
 have h:=znM e.nm L
 unfold DL DataW.del at h
 unfold DL DataW.put putE
 simp only at h ⊢
 rw [DataW.map.injEq] at h
 rw [h]
 exact congrArg DataW.map (znO e (delE e.nm L))
end
end Go.Proofs.YteajemblhlbfpaaGreatDoor
