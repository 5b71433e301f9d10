/-
  What the law AnswersPlay leans on, and its walk (1 of 22).
-/
import Derived.Below
import Derived.Maps.OwnSet
import Derived.Maps.Ext
namespace Go.Proofs.YtkiehdigpchebaaGreatDoor
set_option maxRecDepth 100000
set_option maxHeartbeats 16000000
section
open Go.RowKit
structure CE where
 nm:List UInt8
 un:Int
 sv:Value
def CE.val (e:CE):Value:= .agg #[.int .i64 e.un,e.sv]
def CE.ent (e:CE):Lit×DataW Value:=(.string e.nm,.held e.val)
def zcT (v:Value):Option (DataW Value×List MemPlace):=match v with
 | .agg ⟨[.int .i64 _,.slice _ _ _]⟩=>some (.held v,[])
 |_=>none
theorem zbJ (u:Int) (a:Option Addr) (n c:Nat):zcT (.agg #[.int .i64 u,.slice a n c])=some (.held (.agg #[.int .i64 u,.slice a n c]),[]):=rfl
theorem zbQ {v:Value} {y:DataW Value×List MemPlace} (h:zcT v=some y): ∃u a n c,v= .agg #[.int .i64 u,.slice a n c]∧y=(.held v,[]):=by
 unfold zcT at h
 split at h
 ·rename_i u a n c;cases h;exact ⟨u,a,n,c,rfl,rfl⟩
 ·cases h
def DL (L:List CE):DataW Value:= .map (L.map CE.ent)
def zaO (L:List CE):Prop:=L.Pairwise fun a b=>bytesBefore a.nm b.nm=true
def zaL (n:List UInt8) (L:List CE):Option CE:=L.find? (fun e=>e.nm==n)
def delE (n:List UInt8) (L:List CE):List CE:=L.filter (fun e=> !(e.nm==n))
def insE (e:CE):List CE→List CE
 |[]=>[e]
 |a::l=>if bytesBefore e.nm a.nm then e::a::l else a::insE e l
def putE (e:CE) (L:List CE):List CE:=insE e (delE e.nm L)
theorem zaR: ∀a:List UInt8,bytesBefore a a=false
 |[]=>rfl
 |a::l=>by unfold bytesBefore;simp [zaR l]
theorem zbF: ∀{a b c:List UInt8},bytesBefore a b=true→bytesBefore b c=true→bytesBefore a c=true
 |[],[],_,h,_=>by cases h
 |[],_::_,[],_,k=>by cases k
 |[],_::_,_::_,_,_=>rfl
 |_::_,[],_,h,_=>by cases h
 |_::_,_::_,[],_,k=>by cases k
 |a::l,b::m,c::n,h,k=>by
  unfold bytesBefore at h k ⊢
  simp only [Bool.or_eq_true,decide_eq_true_eq,Bool.and_eq_true,beq_iff_eq] at h k ⊢
  rcases h with h|⟨rfl,h⟩
  ·rcases k with k|⟨rfl,k⟩
   ·exact .inl (UInt8.lt_trans h k)
   ·exact .inl h
  ·rcases k with k|⟨rfl,k⟩
   ·exact .inl k
   ·exact .inr ⟨rfl,zbF h k⟩
theorem zbS: ∀{a b:List UInt8},bytesBefore a b=false→a≠b→bytesBefore b a=true
 |[],[],_,k=>absurd rfl k
 |[],_::_,h,_=>by cases h
 |_::_,[],_,_=>rfl
 |a::l,b::m,h,k=>by
  unfold bytesBefore at h ⊢
  simp only [Bool.or_eq_false_iff,decide_eq_false_iff_not,Bool.and_eq_false_iff,beq_eq_false_iff_ne] at h
  simp only [Bool.or_eq_true,decide_eq_true_eq,Bool.and_eq_true,beq_iff_eq]
  rcases UInt8.lt_or_lt_of_ne (a:=a) (b:=b)|>fun f=>(Classical.em (a=b)).symm.imp f id with (q|q)|rfl
  ·exact absurd q h.1
  ·exact .inl q
  ·refine .inr ⟨rfl,zbS (h.2.resolve_left (by simp)) fun e=>k (by rw [e])⟩
theorem zcH {n:List UInt8} {L:List CE} {e:CE}:e∈delE n L↔e∈L∧e.nm≠n:=by
 unfold delE
 rw [List.mem_filter]
 simp
theorem zeA {e x:CE}: ∀{L:List CE},x∈insE e L↔x=e∨x∈L
 |[]=>by simp [insE]
 |a::l=>by
  unfold insE
  split
  ·simp
  ·rw [List.mem_cons,zeA,List.mem_cons]
   exact ⟨fun h=>by rcases h with h|h|h;exact .inr (.inl h);exact .inl h;exact .inr (.inr h),fun h=>by rcases h with h|h|h;exact .inr (.inl h);exact .inl h;exact .inr (.inr h)⟩
theorem zbV {e x:CE} {L:List CE}:x∈putE e L↔x=e∨(x∈L∧x.nm≠e.nm):=by
 unfold putE;rw [zeA,zcH]
theorem zaO.del {L:List CE} (h:zaO L) (n:List UInt8):zaO (delE n L):=List.Pairwise.sublist List.filter_sublist h
theorem zaO.ins {e:CE}: ∀{L:List CE},zaO L→(∀x∈L,x.nm≠e.nm)→zaO (insE e L)
 |[],_,_=>by simp [insE,zaO]
 |a::l,h,p=>by
  have o:=List.pairwise_cons.1 h
  unfold insE
  split
  ·rename_i f
   refine List.pairwise_cons.2 ⟨fun x d=> ?_,h⟩
   rcases List.mem_cons.1 d with rfl|d
   ·exact f
   ·exact zbF f (o.1 x d)
  ·rename_i f
   refine List.pairwise_cons.2 ⟨fun x d=> ?_,zaO.ins o.2 fun x d=>p x (List.mem_cons_of_mem _ d)⟩
   rcases zeA.1 d with rfl|d
   ·exact zbS (by simpa using f) (fun q=>p a (by simp) q.symm)
   ·exact o.1 x d
theorem zaO.put {L:List CE} (h:zaO L) (e:CE):zaO (putE e L):=zaO.ins (h.del _) fun _ d=>(zcH.1 d).2
theorem zeO (e:CE): ∀L:List CE,(insE e L).length=L.length+1
 |[]=>rfl
 |a::l=>by unfold insE;split<;>simp [zeO e l]
theorem zaO.one {L:List CE} (h:zaO L) {a b:CE} (y:a∈L) (p:b∈L) (e:a.nm=b.nm):a=b:=by
 induction L with
 |nil=>cases y
 |cons x l C=>
  have o:=List.pairwise_cons.1 h
  rcases List.mem_cons.1 y with f|f
  ·rcases List.mem_cons.1 p with d|d
   ·rw [f,d]
   ·have:=o.1 b d;rw [←f,e,zaR] at this;cases this
  ·rcases List.mem_cons.1 p with d|d
   ·have:=o.1 a f;rw [←d,←e,zaR] at this;cases this
   ·exact C o.2 f d
theorem zbA {L:List CE} {n:List UInt8} {e:CE} (h:zaL n L=some e):e∈L∧e.nm=n:=by
 unfold zaL at h
 exact ⟨List.mem_of_find?_eq_some h,by simpa using List.find?_some h⟩
theorem zbX {L:List CE} {n:List UInt8} (h:zaL n L=none): ∀e∈L,e.nm≠n:=by
 unfold zaL at h
 intro e d
 have:=List.find?_eq_none.1 h e d
 simpa using this
theorem zdF {L:List CE} (h:zaO L) {e:CE} (d:e∈L):zaL e.nm L=some e:=by
 cases f:zaL e.nm L with
 |none=>exact absurd rfl (zbX f e d)
 |some x=>obtain ⟨p,o⟩:=zbA f;rw [h.one p d o]
theorem zdI {L:List CE} {n:List UInt8} (h:zaL n L=none):delE n L=L:=List.filter_eq_self.2 fun e d=>by simpa using zbX h e d
theorem zeG {L:List CE} (h:zaO L) {n:List UInt8} {e:CE} (f:zaL n L=some e):(delE n L).length+1=L.length:=by
 induction L with
 |nil=>cases f
 |cons x l E=>
  have p:=List.pairwise_cons.1 h
  by_cases d:x.nm=n
  ·have o:delE n l=l:=List.filter_eq_self.2 fun y C=>by
    have:=p.1 y C
    rw [d] at this
    simp only [Bool.not_eq_true',beq_eq_false_iff_ne]
    intro q;rw [q,zaR] at this;cases this
   unfold delE at o ⊢
   rw [List.filter_cons,if_neg (by simp [d]),o]
   rfl
  ·unfold zaL at f
   rw [List.find?_cons,show (x.nm==n)=false from beq_eq_false_iff_ne.2 d] at f
   have:=E p.2 f
   unfold delE at this ⊢
   rw [List.filter_cons,if_pos (by simp [d])]
   simp only [List.length_cons]
   omega
/-! ### as a map is read -/
theorem zeB (L:List CE):Maps.size (DL L)=L.length:=by unfold DL;rw [Maps.size_eq,List.length_map]
theorem zgR (n:List UInt8): ∀L:List CE,(L.map CE.ent).find? (fun p=>p.1.sameKey (.string n))=(zaL n L).map CE.ent
 |[]=>rfl
 |a::l=>by
  unfold zaL
  rw [List.map_cons,List.find?_cons,List.find?_cons]
  show (match a.nm==n with|true=>_|false=>_)=_
  cases a.nm==n with
  |true=>rfl
  |false=>exact zgR n l
theorem zpA (n:List UInt8) (L:List CE):Maps.has (DL L) (.string n)=(zaL n L).isSome:=by
 unfold DL
 rw [Maps.has_eq,Bool.eq_iff_iff,List.any_eq_true]
 constructor
 ·rintro ⟨p,E,y⟩
  cases C:zaL n L with
  |some _=>rfl
  |none=>
   have:=zgR n L
   rw [C,Option.map_none,List.find?_eq_none] at this
   exact absurd y (this p E)
 ·intro h
  obtain ⟨e,o⟩:=Option.isSome_iff_exists.1 h
  obtain ⟨f,d⟩:=zbA o
  exact ⟨e.ent,List.mem_map_of_mem f,by show (e.nm==n)=true;simp [d]⟩
theorem zkC (n:List UInt8) (L:List CE) (z:DataW Value):(DL L).atKey (.string n) z=((zaL n L).map fun e=>DataW.held e.val).getD z:=by
 unfold DL DataW.atKey
 simp only
 rw [zgR]
 cases zaL n L<;>rfl
theorem zoZ (n:List UInt8) (L:List CE):(DL L).del (.string n)=DL (delE n L):=by
 unfold DL DataW.del delE
 simp only
 congr 1
 rw [List.filter_map]
 rfl
theorem zpC (e:CE): ∀L:List CE,DataW.insert e.ent (L.map CE.ent)=(insE e L).map CE.ent
 |[]=>rfl
 |a::l=>by
  unfold insE
  rw [List.map_cons]
  unfold DataW.insert
  show (if bytesBefore e.nm a.nm then _ else _)=_
  split
  ·rfl
  ·rw [zpC e l];rfl
theorem DL_put (e:CE) (L:List CE):(DL L).put (.string e.nm) (.held e.val)=DL (putE e L):=by
 have h:=zoZ e.nm L
 unfold DL DataW.del at h
 unfold DL DataW.put putE
 simp only at h ⊢
 rw [DataW.map.injEq] at h
 rw [h]
 exact congrArg DataW.map (zpC e (delE e.nm L))
end
end Go.Proofs.YtkiehdigpchebaaGreatDoor
