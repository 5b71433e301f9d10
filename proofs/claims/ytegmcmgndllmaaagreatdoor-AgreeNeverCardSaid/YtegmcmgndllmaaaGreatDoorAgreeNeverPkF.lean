/-
  What the law AgreeNever leans on, and its walk (6 of 42).
-/
import Derived.Test.YtegmcmgndllmaaaGreatDoorChecked
import Derived.WalkKit
import Derived.WalkLawsBesides
import Derived.BigQuiet
import Derived.Deep.QuietTactic
import Derived.Deep.RegionHeld3
import Derived.Deep.DeepCutAuto
import Derived.Lib.Hide
import Derived.Lib.OthersKept
namespace Go.Proofs.YtegmcmgndllmaaaGreatDoor
set_option maxRecDepth 100000
set_option maxHeartbeats 16000000
theorem tkF {P : Program} {m : Region.Mode} {f : Array Oper} {Q : Exit → Act → World → Prop} {S : World → Prop} (i : Nat) (s : Option Nat) {o : Op} {B : TypeId} {j : String} {A : _} {C : _} {v : Value} {fuel : Nat} {d : Array Bool} {a : Act} {w : World} (hi : f[i]? = some ⟨s, o, B, j, A, C⟩)
 (J : YieldsIf P f S ⟨s, o, B, j, A, C⟩ v a) (E : S w)
 (h : wpAnyH P m f Q S fuel (d.setIfInBounds i true) (a.put s v) w)
 (G : Region.noSelect f = true := by kernel_rfl) (D : Region.free m f d i = true := by kernel_rfl) (I : (Region.ready m f d).contains i = true := by kernel_rfl)
 (H : ∀ c a w, Q (.panic c) (a.put s v) w → Q (.panic c) a w := by exact fun _ _ _ h => h) : wpAnyH P m f Q S (fuel + 1) d a w :=
 wpAnyH_take hi G D I H J E h
theorem tkFa {d : Type _} (l : List d) (i : Nat) (a : d) : l.toArray.setIfInBounds i a = (l.set i a).toArray := List.setIfInBounds_toArray ..
theorem tkFb {d : Type _} (x y : d) (l : List d) : (x :: l).set 0 y = y :: l := rfl
theorem tkFc {d : Type _} (x y : d) (l : List d) (n : Nat) : (x :: l).set (n + 1) y = x :: l.set n y := rfl
abbrev ykK := @Nat.le_refl
abbrev ykL := @decide_eq_false
abbrev ykM := @decide_eq_true
abbrev ykN := @Go.RowKit.Below.refl
abbrev ykO := @List.mem_cons_self
section
open Go.RowKit
def zaL (hi lo:Nat):Nat:=hi*2^64+lo
def bitW (W i:Nat):Nat:=W/2^(127 - i) % 2
def ofW (W n:Nat):Nat:=W/2^(128 - n)*2^(128 - n)
def rightW (W n:Nat):Prop:=n≤128∧W % 2^(128 - n)=0
theorem yeJ {hi lo:Nat} (l:lo<2^64):zaL hi lo/2^64=hi:=by unfold zaL;omega
theorem bit_hi {hi lo:Nat} (l:lo<2^64) (i:Nat) (h:i<64):hi/2^(63 - i) % 2=bitW (zaL hi lo) i:=by
 unfold bitW
 rw [show 127 - i=64+(63 - i) from by omega,Nat.pow_add,←Nat.div_div_eq_div_mul,yeJ l]
theorem bit_lo {hi lo:Nat} (i:Nat) (h:64≤i) (d:i<128):lo/2^(127 - i) % 2=bitW (zaL hi lo) i:=by
 unfold bitW zaL
 have e:hi*2^64=2^(127 - i)*(hi*2^(i - 64)*2):=by
  rw [show (2:Nat)^64=2^(127 - i)*(2^(i - 64)*2) from by rw [←Nat.pow_succ,←Nat.pow_add];congr 1;omega]
  rw [Nat.mul_left_comm,Nat.mul_assoc]
 rw [e,Nat.add_comm,Nat.add_mul_div_left _ _ (Nat.pow_pos (by decide)),Nat.add_mul_mod_self_right]
theorem zdA (W i:Nat):bitW W i=0∨bitW W i=1:=by unfold bitW;omega
theorem ycO (X i:Nat) (h:i<128):X/2^(128 - (i+1))=2*(X/2^(128 - i))+bitW X i:=by
 unfold bitW
 rw [show 128 - (i+1)=127 - i from by omega,show 128 - i=(127 - i)+1 from by omega,Nat.pow_succ,←Nat.div_div_eq_div_mul]
 omega
theorem z4P (W n:Nat):ofW W n/2^(128 - n)=W/2^(128 - n):=Nat.mul_div_cancel _ (Nat.pow_pos (by decide))
theorem ofW_le (W n:Nat):ofW W n≤W:=Nat.div_mul_le_self _ _
theorem zyI {W n:Nat} (h:rightW W n):ofW W n=W:=by
 unfold ofW
 have:=Nat.div_add_mod W (2^(128 - n))
 rw [h.2,Nat.add_zero,Nat.mul_comm] at this
 exact this
theorem ztS {P A n m:Nat} (f:n≤m) (d:m≤128) (h:P/2^(128 - m)=A/2^(128 - m)):P/2^(128 - n)=A/2^(128 - n):=by
 have e:(2:Nat)^(128 - n)=2^(128 - m)*2^(m - n):=by rw [←Nat.pow_add];congr 1;omega
 rw [e,←Nat.div_div_eq_div_mul,←Nat.div_div_eq_div_mul,h]
theorem z4A (W n m:Nat) (f:n≤m) (d:m≤128):ofW W m/2^(128 - n)=W/2^(128 - n):=ztS f d (z4P W m)
def qt (X n:Nat):Nat:=X/2^(128 - n)
def bitZ (W:Nat) (i:Int):Int:=if 0≤i∧i<128 then (bitW W i.toNat:Int) else 0
def zaN (W:Nat) (n:Int):Bool:=decide (0≤n∧n≤128∧W % 2^(128 - n.toNat)=0)
def zbJ (P:Nat) (n:Int) (Q:Nat) (m:Int):Bool:=zaN P n&&(zaN Q m&&(decide (n≤m)&&decide (qt P n.toNat=qt Q n.toNat)))
theorem zeS (X n:Nat) (h:n<128):qt X (n+1)=2*qt X n+bitW X n:=ycO X n h
theorem zuB {X:Nat} (h:X<2^128):qt X 0=0:=Nat.div_eq_of_lt h
theorem zlS {P A n m:Nat} (f:n≤m) (d:m≤128) (h:qt P m=qt A m):qt P n=qt A n:=ztS f d h
theorem zgV (W n:Nat) (h:n<128):bitZ W n=bitW W n:=by
 unfold bitZ;rw [if_pos ⟨by omega,by omega⟩];simp
theorem zmA (W:Nat) (i:Int):bitZ W i=0∨bitZ W i=1:=by
 unfold bitZ;split
 ·rcases zdA W i.toNat with h|h<;>rw [h]<;>simp
 ·exact .inl rfl
def rt (W n:Nat):Prop:=W % 2^(128 - n)=0
theorem yfR {W n:Nat} (h:rt W n):W=qt W n*2^(128 - n):=by
 unfold rt at h;unfold qt
 have:=Nat.div_add_mod W (2^(128 - n))
 rw [h,Nat.add_zero,Nat.mul_comm] at this
 exact this.symm
theorem zpW {W P n:Nat} (h:rt W n) (d:rt P n) (e:qt W n=qt P n):W=P:=by rw [yfR h,yfR d,e]
theorem rt_le {W X n:Nat} (h:rt W n) (e:qt W n=qt X n):W≤X:=by
 rw [yfR h,e];exact Nat.div_mul_le_self _ _
theorem ycC {X Y n:Nat} (h:qt X n<qt Y n):X<Y:=by
 rcases Nat.lt_or_ge X Y with d|d
 ·exact d
 ·have:=Nat.div_le_div_right (c:=2^(128 - n)) d
  unfold qt at h;omega
theorem zbU {W n:Nat}:zaN W n=true↔n≤128∧rt W n:=by
 unfold zaN rt;rw [decide_eq_true_iff]
 constructor
 ·rintro ⟨_,f,d⟩;exact ⟨by omega,by simpa using d⟩
 ·rintro ⟨f,d⟩;exact ⟨by omega,by omega,by simpa using d⟩
theorem zdC {P n Q m:Nat}:zbJ P n Q m=true↔(n≤128∧rt P n)∧(m≤128∧rt Q m)∧n≤m∧qt P n=qt Q n:=by
 unfold zbJ;rw [Bool.and_eq_true,Bool.and_eq_true,Bool.and_eq_true,zbU,zbU,decide_eq_true_iff,decide_eq_true_iff];simp
theorem zvN (X n:Nat):rt (ofW X n) n:=Nat.mul_mod_left _ _
theorem zwJ (X n:Nat):qt (ofW X n) n=qt X n:=z4P X n
structure En where
 W:Nat
 n:Nat
 v:Int
deriving DecidableEq
def En.lt (x y:En):Prop:=x.W<y.W∨(x.W=y.W∧x.n<y.n)
inductive PT where
 |nil
 |node (W n:Nat) (v:Int) (h:Bool) (l r:PT)
def PT.list:PT→List En
 | .nil=>[]
 | .node W n v h l r=>(if h=true then [⟨W,n,v⟩] else [])++(l.list++r.list)
def PT.Inv:PT→Nat→Nat→Prop
 | .nil,_,_=>True
 | .node W n _ h l r,Q,k=>(k≤n∧n≤128∧rt W n∧qt W k=Q)∧l.Inv (2*qt W n) (n+1)∧r.Inv (2*qt W n+1) (n+1)∧(h=false→l≠ .nil∧r≠ .nil)
theorem PT.mem_node {x:En} {W n:Nat} {v:Int} {h:Bool} {l r:PT}:x∈(PT.node W n v h l r).list↔(h=true∧x=⟨W,n,v⟩)∨x∈l.list∨x∈r.list:=by
 cases h<;>simp [PT.list]
theorem PT.bounds: ∀{t:PT} {Q k:Nat},t.Inv Q k→ ∀x∈t.list,k≤x.n∧x.n≤128∧rt x.W x.n∧qt x.W k=Q
 | .nil,_,_,_,x,f=>by cases f
 | .node W n v h l r,Q,k,⟨⟨i,j,C,m⟩,o,B,_⟩,x,f=>by
  rcases PT.mem_node.1 f with ⟨_,rfl⟩|f|f
  ·exact ⟨i,j,C,m⟩
  ·obtain ⟨a,b,c,d⟩:=PT.bounds o x f
   have:=zeS x.W n (by omega)
   have A:=zdA x.W n
   have e:qt x.W n=qt W n:=by omega
   exact ⟨by omega,b,c,by rw [zlS i j e];exact m⟩
  ·obtain ⟨a,b,c,d⟩:=PT.bounds B x f
   have:=zeS x.W n (by omega)
   have A:=zdA x.W n
   have e:qt x.W n=qt W n:=by omega
   exact ⟨by omega,b,c,by rw [zlS i j e];exact m⟩
theorem PT.side {t:PT} {q n b:Nat} (h:t.Inv (2*q+b) (n+1)) (i:b<2) {x:En} (f:x∈t.list):n<x.n∧x.n≤128∧rt x.W x.n∧qt x.W n=q∧bitW x.W n=b∧qt x.W (n+1)=2*q+b:=by
 obtain ⟨a,b',c,d⟩:=PT.bounds h x f
 have:=zeS x.W n (by omega)
 have i:=zdA x.W n
 exact ⟨by omega,b',c,by omega,by omega,d⟩
theorem PT.sorted: ∀{t:PT} {Q k:Nat},t.Inv Q k→t.list.Pairwise En.lt
 | .nil,_,_,_=>List.Pairwise.nil
 | .node W n v h l r,Q,k,⟨⟨C,D,B,E⟩,j,i,_⟩=>by
  have f:l.Inv (2*qt W n+0) (n+1):=j
  have key:(l.list++r.list).Pairwise En.lt:=by
   rw [List.pairwise_append]
   refine ⟨PT.sorted j,PT.sorted i,fun x d y o=> ?_⟩
   have a:=PT.side f (by omega) d
   have b:=PT.side i (by omega) o
   exact .inl (ycC (n:=n+1) (by omega))
  show ((if h=true then [(⟨W,n,v⟩:En)] else [])++(l.list++r.list)).Pairwise En.lt
  cases h with
  |false=>exact key
  |true=>
   refine List.Pairwise.cons (fun x d=> ?_) key
   have:n<x.n∧qt x.W n=qt W n:=by
    rcases List.mem_append.1 (show x∈l.list++r.list by simpa using d) with d|d
    ·have a:=PT.side f (by omega) d;exact ⟨a.1,a.2.2.2.1⟩
    ·have a:=PT.side i (by omega) d;exact ⟨a.1,a.2.2.2.1⟩
   have A:=rt_le B this.2.symm
   rcases Nat.lt_or_ge W x.W with m|m
   ·exact .inl m
   ·exact .inr ⟨by show W=x.W;omega,this.1⟩
theorem En.lt_irrefl (x:En): ¬x.lt x:=by unfold En.lt;omega
theorem En.lt_trans {x y z:En} (h:x.lt y) (d:y.lt z):x.lt z:=by unfold En.lt at*;omega
theorem ztY: ∀{a b:List En},a.Pairwise En.lt→b.Pairwise En.lt→(∀x,x∈a↔x∈b)→a=b
 |[],[],_,_,_=>rfl
 |[],y::b,_,_,h=>by have:=(h y).2 (ykO ..);cases this
 |x::a,[],_,_,h=>by have:=(h x).1 (ykO ..);cases this
 |x::a,y::b,f,i,h=>by
  rw [List.pairwise_cons] at f i
  have e:x=y:=by
   rcases List.mem_cons.1 ((h x).1 (ykO ..)) with e|e
   ·exact e
   ·rcases List.mem_cons.1 ((h y).2 (ykO ..)) with j|j
    ·exact j.symm
    ·exact absurd (En.lt_trans (f.1 y j) (i.1 x e)) (En.lt_irrefl x)
  subst e
  rw [ztY f.2 i.2 (fun z=>⟨fun d=> ?_,fun d=> ?_⟩)]
  ·rcases List.mem_cons.1 ((h z).1 (List.mem_cons_of_mem _ d)) with e|e
   ·subst e;exact absurd (f.1 z d) (En.lt_irrefl z)
   ·exact e
  ·rcases List.mem_cons.1 ((h z).2 (List.mem_cons_of_mem _ d)) with e|e
   ·subst e;exact absurd (i.1 z d) (En.lt_irrefl z)
   ·exact e
def PT.get:PT→Nat→Int→Option Int
 | .nil,_,_=>none
 | .node W n v h l r,P,k=>if W=P∧(n:Int)=k then (if h=true then some v else none)
  else if zbJ W n P k=true then (if bitZ P n=0 then l.get P k else r.get P k) else none
theorem PT.get_mem: ∀{t:PT} {Q H:Nat},t.Inv Q H→ ∀{P k:Nat},k≤128→rt P k→ ∀v,t.get P k=some v↔(⟨P,k,v⟩:En)∈t.list
 | .nil,_,_,_,P,k,_,_,v=>by simp [PT.get,PT.list]
 | .node W n u h l r,Q,H,⟨⟨X,I,G,Z⟩,J,A,_⟩,P,k,j,i,v=>by
  have d:l.Inv (2*qt W n+0) (n+1):=J
  rw [PT.mem_node]
  unfold PT.get
  by_cases e:W=P∧(n:Int)=k
  ·rw [if_pos e]
   have m:(⟨P,k,v⟩:En)∉l.list:=fun f=>by have:=(PT.side d (by omega) f).1;simp at this;omega
   have B:(⟨P,k,v⟩:En)∉r.list:=fun f=>by have:=(PT.side A (by omega) f).1;simp at this;omega
   obtain ⟨rfl,o⟩:=e
   have o:n=k:=by omega
   subst o
   cases h with
   |false=>simp [m,B]
   |true=>simp [m,B,eq_comm]
  ·rw [if_neg e]
   have D: ¬(h=true∧(⟨P,k,v⟩:En)=⟨W,n,u⟩):=by
    rintro ⟨_,o⟩
    injection o with a b _
    exact e ⟨a.symm,by omega⟩
   by_cases c:zbJ W n P k=true
   ·rw [if_pos c]
    have K:=zdC.1 c
    have V:=K.2.2.1
    have S:=K.2.2.2
    have N:n<k:=by
     rcases Nat.lt_or_ge n k with g|g
     ·exact g
     ·have:n=k:=by omega
      subst this
      exact absurd ⟨zpW G i S,rfl⟩ e
    rw [zgV P n (by omega)]
    have Y:=zdA P n
    by_cases M:(bitW P n:Int)=0
    ·rw [if_pos M,PT.get_mem J j i v]
     have B:(⟨P,k,v⟩:En)∉r.list:=fun f=>by have:=(PT.side A (by omega) f).2.2.2.2.1;simp at this;omega
     constructor
     ·exact fun g=> .inr (.inl g)
     ·rintro (g|g|g)
      ·exact absurd g D
      ·exact g
      ·exact absurd g B
    ·rw [if_neg M,PT.get_mem A j i v]
     have m:(⟨P,k,v⟩:En)∉l.list:=fun f=>by have:=(PT.side d (by omega) f).2.2.2.2.1;simp at this;omega
     constructor
     ·exact fun g=> .inr (.inr g)
     ·rintro (g|g|g)
      ·exact absurd g D
      ·exact absurd g m
      ·exact g
   ·rw [if_neg c]
    constructor
    ·intro g;cases g
    ·rintro (g|g|g)
     ·exact absurd g D
     ·obtain ⟨E,U,O,C,_⟩:=PT.side d (by omega) g
      exact absurd (zdC.2 ⟨⟨I,G⟩,⟨j,i⟩,by simp at E;omega,C.symm⟩) c
     ·obtain ⟨E,U,O,C,_⟩:=PT.side A (by omega) g
      exact absurd (zdC.2 ⟨⟨I,G⟩,⟨j,i⟩,by simp at E;omega,C.symm⟩) c
theorem PT.get_wrong: ∀{t:PT} {Q f:Nat},t.Inv Q f→ ∀{P:Nat} {k:Int},zaN P k=false→t.get P k=none
 | .nil,_,_,_,_,_,_=>rfl
 | .node W n u h l r,Q,f,⟨⟨m,i,j,B⟩,o,A,_⟩,P,k,d=>by
  unfold PT.get
  rw [if_neg (fun e=>by obtain ⟨rfl,rfl⟩:=e;rw [zbU.2 ⟨i,j⟩] at d;cases d),if_neg (by unfold zbJ;rw [d];simp)]
def zcN (W P:Nat):Nat→Nat→Nat
 |i,0=>i
 |i,f+1=>if bitW W i=bitW P i then zcN W P (i+1) f else i
def zbB (W n P k:Nat):Nat:=zcN W P 0 (min n k)
theorem zoA (W P:Nat): ∀(f i:Nat),i≤zcN W P i f∧zcN W P i f≤i+f∧(∀j,i≤j→j<zcN W P i f→bitW W j=bitW P j)∧(zcN W P i f=i+f∨bitW W (zcN W P i f)≠bitW P (zcN W P i f))
 |0,i=>⟨ykK _,ykK _,fun j o m=>by unfold zcN at m;omega,.inl rfl⟩
 |f+1,i=>by
  unfold zcN
  by_cases h:bitW W i=bitW P i
  ·rw [if_pos h]
   obtain ⟨a,b,c,d⟩:=zoA W P f (i+1)
   refine ⟨by omega,by omega,fun j o m=> ?_,d.imp (fun e=>by omega) id⟩
   rcases Nat.lt_or_ge i j with g|g
   ·exact c j g m
   ·rw [show j=i from by omega];exact h
  ·rw [if_neg h]
   exact ⟨ykK _,by omega,fun j o m=>by omega,.inr h⟩
theorem zoI {W P:Nat} (d:qt W 0=qt P 0): ∀m,m≤128→(∀j,j<m→bitW W j=bitW P j)→qt W m=qt P m
 |0,_,_=>d
 |m+1,f,h=>by rw [zeS W m (by omega),zeS P m (by omega),zoI d m (by omega) (fun j i=>h j (by omega)),h m (by omega)]
theorem z6W {W n P k:Nat} (i:qt W 0=qt P 0) (m:n≤128) (o:k≤128):
  zbB W n P k≤n∧zbB W n P k≤k∧qt W (zbB W n P k)=qt P (zbB W n P k)∧(zbB W n P k=n∨zbB W n P k=k∨bitW W (zbB W n P k)≠bitW P (zbB W n P k)):=by
 obtain ⟨a,b,c,d⟩:=zoA W P (min n k) 0
 unfold zbB
 refine ⟨by omega,by omega,zoI i _ (by omega) (fun j f=>c j (by omega) f),?_⟩
 rcases d with d|d
 ·omega
 ·exact .inr (.inr d)
def PT.leaf (P k:Nat) (v:Int):PT:= .node P k v true .nil .nil
def PT.put:PT→Nat→Nat→Int→PT
 | .nil,P,k,v=> .leaf P k v
 | .node W n u h l r,P,k,v=>
  if W=P∧n=k then .node W n v true l r
  else if zbJ W n P k=true then (if bitZ P n=0 then .node W n u h (l.put P k v) r else .node W n u h l (r.put P k v))
  else if zbB W n P k=k then (if bitZ W k=0 then .node P k v true (.node W n u h l r) .nil else .node P k v true .nil (.node W n u h l r))
  else if bitZ W (zbB W n P k)=0 then .node (ofW P (zbB W n P k)) (zbB W n P k) 0 false (.node W n u h l r) (.leaf P k v)
  else .node (ofW P (zbB W n P k)) (zbB W n P k) 0 false (.leaf P k v) (.node W n u h l r)
theorem ybS {W n P k:Nat} (C:qt W 0=qt P 0) (j:n≤128) (o:rt W n) (m:k≤128) (A:rt P k) (c: ¬zbJ W n P k=true):
  zbB W n P k<n∧zbB W n P k≤k∧qt W (zbB W n P k)=qt P (zbB W n P k)∧(zbB W n P k<k→bitW W (zbB W n P k)≠bitW P (zbB W n P k)):=by
 obtain ⟨a,b,d,f⟩:=z6W (n:=n) (k:=k) C j m
 have i:zbB W n P k<n:=by
  rcases Nat.lt_or_ge (zbB W n P k) n with g|g
  ·exact g
  ·have B:zbB W n P k=n:=by omega
   rw [B] at d b
   exact absurd (zdC.2 ⟨⟨j,o⟩,⟨m,A⟩,b,d⟩) c
 exact ⟨i,b,d,fun g=>by
  rcases f with f|f|f
  ·omega
  ·omega
  ·exact f⟩
theorem PT.put_ne: ∀{t:PT} {P k:Nat} {v:Int},t.put P k v≠ .nil
 | .nil,_,_,_=>by unfold PT.put PT.leaf;intro h;cases h
 | .node W n u h l r,P,k,v=>by
  unfold PT.put
  intro g
  split at g
  ·cases g
  ·split at g
   ·split at g<;>cases g
   ·split at g
    ·split at g<;>cases g
    ·split at g<;>cases g
theorem PT.put_inv: ∀{t:PT} {Q d:Nat},t.Inv Q d→ ∀{P k:Nat} {v:Int},k≤128→rt P k→qt P d=Q→d≤k→(t.put P k v).Inv Q d
 | .nil,Q,d,_,P,k,v,i,f,A,J=>by
  exact ⟨⟨J,i,f,A⟩,trivial,trivial,fun h=>by cases h⟩
 | .node W n u h l r,Q,d,⟨⟨N,m,j,H⟩,B,C,E⟩,P,k,v,i,f,A,J=>by
  have hw:qt W 0=qt P 0:=zlS (Nat.zero_le d) (by omega) (H.trans A.symm)
  unfold PT.put
  by_cases e:W=P∧n=k
  ·rw [if_pos e]
   exact ⟨⟨N,m,j,H⟩,B,C,fun h=>by cases h⟩
  rw [if_neg e]
  by_cases c:zbJ W n P k=true
  ·rw [if_pos c]
   have V:=zdC.1 c
   have c1:=V.2.2.1
   have c2:=V.2.2.2
   have G:n<k:=by
    rcases Nat.lt_or_ge n k with g|g
    ·exact g
    ·have:n=k:=by omega
     subst this
     exact absurd ⟨zpW j f c2,rfl⟩ e
   rw [zgV P n (by omega)]
   have S:=zeS P n (by omega)
   have U:=zdA P n
   by_cases o:(bitW P n:Int)=0
   ·rw [if_pos o]
    exact ⟨⟨N,m,j,H⟩,PT.put_inv B i f (by omega) G,C,fun g=>⟨PT.put_ne,(E g).2⟩⟩
   ·rw [if_neg o]
    exact ⟨⟨N,m,j,H⟩,B,PT.put_inv C i f (by omega) G,fun g=>⟨(E g).1,PT.put_ne⟩⟩
  ·rw [if_neg c]
   obtain ⟨p1,p2,X,Y⟩:=ybS hw m j i f c
   have D:d≤zbB W n P k:=by
    rcases Nat.lt_or_ge (zbB W n P k) k with g|g
    ·rcases Nat.lt_or_ge (zbB W n P k) d with Z|Z
     ·have e1:=zlS (show zbB W n P k+1≤d by omega) (by omega) (H.trans A.symm)
      rw [zeS W _ (by omega),zeS P _ (by omega),X] at e1
      exact absurd (by omega) (Y g)
     ·exact Z
    ·omega
   have S:=zeS W (zbB W n P k) (by omega)
   have U:=zdA W (zbB W n P k)
   have O:=zeS P (zbB W n P k)
   have qa:=zdA P (zbB W n P k)
   have hc:(zbB W n P k:Int)<128:=by omega
   have K:=zgV W (zbB W n P k) (by omega)
   have I:qt (ofW P (zbB W n P k)) d=Q:=(z4A P d (zbB W n P k) D (by omega)).trans A
   by_cases M:zbB W n P k=k
   ·rw [if_pos M]
    rw [M] at S U X K p1
    rw [K]
    by_cases o:(bitW W k:Int)=0
    ·rw [if_pos o]
     exact ⟨⟨J,i,f,A⟩,⟨⟨by omega,m,j,by omega⟩,B,C,E⟩,trivial,fun h=>by cases h⟩
    ·rw [if_neg o]
     exact ⟨⟨J,i,f,A⟩,trivial,⟨⟨by omega,m,j,by omega⟩,B,C,E⟩,fun h=>by cases h⟩
   ·rw [if_neg M,K]
    have p5:=Y (by omega)
    have qb:=O (by omega)
    by_cases o:(bitW W (zbB W n P k):Int)=0
    ·rw [if_pos o]
     refine ⟨⟨D,by omega,zvN _ _,I⟩,⟨⟨by omega,m,j,by rw [zwJ];omega⟩,B,C,E⟩,⟨⟨by omega,i,f,by rw [zwJ];omega⟩,trivial,trivial,fun h=>by cases h⟩,fun _=>⟨(fun h=>by cases h),(fun h=>by cases h)⟩⟩
    ·rw [if_neg o]
     refine ⟨⟨D,by omega,zvN _ _,I⟩,⟨⟨by omega,i,f,by rw [zwJ];omega⟩,trivial,trivial,fun h=>by cases h⟩,⟨⟨by omega,m,j,by rw [zwJ];omega⟩,B,C,E⟩,fun _=>⟨(fun h=>by cases h),(fun h=>by cases h)⟩⟩
theorem PT.mem_leaf {x:En} {P k:Nat} {v:Int}:x∈(PT.leaf P k v).list↔x=⟨P,k,v⟩:=by simp [PT.leaf,PT.list]
theorem PT.put_mem: ∀{t:PT} {Q B:Nat},t.Inv Q B→ ∀{P k:Nat} {v:Int},k≤128→rt P k→ ∀x,x∈(t.put P k v).list↔x=⟨P,k,v⟩∨(x∈t.list∧ ¬(x.W=P∧x.n=k))
 | .nil,_,_,_,P,k,v,_,_,x=>by
  unfold PT.put;rw [PT.mem_leaf];simp [PT.list]
 | .node W n u h l r,Q,B,hi,P,k,v,o,m,x=>by
  obtain ⟨⟨Y,X,U,h4⟩,D,A,hh⟩:=id hi
  have j:l.Inv (2*qt W n+0) (n+1):=D
  have N: ∀y∈l.list,¬(y.W=W∧y.n=n):=fun y f g=>by have:=(PT.side j (by omega) f).1;omega
  have S: ∀y∈r.list,¬(y.W=W∧y.n=n):=fun y f g=>by have:=(PT.side A (by omega) f).1;omega
  have M:=PT.get_mem hi o m
  unfold PT.put
  by_cases e:W=P∧n=k
  ·rw [if_pos e,PT.mem_node,PT.mem_node]
   obtain ⟨rfl,rfl⟩:=e
   constructor
   ·rintro (⟨_,g⟩|g|g)
    ·exact .inl g
    ·exact .inr ⟨.inr (.inl g),N x g⟩
    ·exact .inr ⟨.inr (.inr g),S x g⟩
   ·rintro (g|⟨⟨_,g⟩|g|g,d⟩)
    ·exact .inl ⟨rfl,g⟩
    ·rw [g] at d;exact absurd ⟨rfl,rfl⟩ d
    ·exact .inr (.inl g)
    ·exact .inr (.inr g)
  rw [if_neg e]
  by_cases c:zbJ W n P k=true
  ·rw [if_pos c]
   have G:=zdC.1 c
   have V:=G.2.2.1
   have O:=G.2.2.2
   have I:n<k:=by
    rcases Nat.lt_or_ge n k with g|g
    ·exact g
    ·have:n=k:=by omega
     subst this
     exact absurd ⟨zpW U m O,rfl⟩ e
   rw [zgV P n (by omega)]
   have Z:=zdA P n
   have E: ∀{y:En},y=⟨W,n,u⟩→ ¬(y.W=P∧y.n=k):=fun {y} g d=>by rw [g] at d;exact e d
   by_cases H:(bitW P n:Int)=0
   ·rw [if_pos H,PT.mem_node,PT.mem_node,PT.put_mem D o m x]
    have J: ∀y∈r.list,¬(y.W=P∧y.n=k):=fun y f g=>by have:=(PT.side A (by omega) f).2.2.2.2.1;rw [g.1] at this;omega
    constructor
    ·rintro (⟨i,g⟩|(g|⟨g,d⟩)|g)
     ·exact .inr ⟨.inl ⟨i,g⟩,E g⟩
     ·exact .inl g
     ·exact .inr ⟨.inr (.inl g),d⟩
     ·exact .inr ⟨.inr (.inr g),J x g⟩
    ·rintro (g|⟨⟨i,g⟩|g|g,d⟩)
     ·exact .inr (.inl (.inl g))
     ·exact .inl ⟨i,g⟩
     ·exact .inr (.inl (.inr ⟨g,d⟩))
     ·exact .inr (.inr g)
   ·rw [if_neg H,PT.mem_node,PT.mem_node,PT.put_mem A o m x]
    have K: ∀y∈l.list,¬(y.W=P∧y.n=k):=fun y f g=>by have:=(PT.side j (by omega) f).2.2.2.2.1;rw [g.1] at this;omega
    constructor
    ·rintro (⟨i,g⟩|g|(g|⟨g,d⟩))
     ·exact .inr ⟨.inl ⟨i,g⟩,E g⟩
     ·exact .inr ⟨.inr (.inl g),K x g⟩
     ·exact .inl g
     ·exact .inr ⟨.inr (.inr g),d⟩
    ·rintro (g|⟨⟨i,g⟩|g|g,d⟩)
     ·exact .inr (.inr (.inl g))
     ·exact .inl ⟨i,g⟩
     ·exact .inr (.inl g)
     ·exact .inr (.inr (.inr ⟨g,d⟩))
  ·rw [if_neg c]
   have none: ∀y∈(PT.node W n u h l r).list,¬(y.W=P∧y.n=k):=fun y f g=>by
    have:=(M y.v).2 (by rw [←g.1,←g.2];exact f)
    unfold PT.get at this
    rw [if_neg (fun q=>e ⟨q.1,by omega⟩),if_neg c] at this
    cases this
   have key:x∈(PT.node W n u h l r).list↔(x∈(PT.node W n u h l r).list∧ ¬(x.W=P∧x.n=k)):=⟨fun g=>⟨g,none x g⟩,fun g=>g.1⟩
   rw [←key]
   by_cases C:zbB W n P k=k
   ·rw [if_pos C]
    split
    ·rw [PT.mem_node (h:=true)];simp [PT.list]
    ·rw [PT.mem_node (h:=true)];simp [PT.list]
   ·rw [if_neg C]
    split
    ·rw [PT.mem_node (h:=false),PT.mem_leaf];simp [or_comm]
    ·rw [PT.mem_node (h:=false),PT.mem_leaf];simp
def pfV (hi lo:Nat) (n:Int):Value:= .agg #[.int .u64 (hi:Int),.int .u64 (lo:Int),.int .i64 n]
def hiN (W:Nat):Nat:=W/18446744073709551616
def loN (W:Nat):Nat:=W % 18446744073709551616
def pfW (W:Nat) (n:Int):Value:=pfV (hiN W) (loN W) n
theorem zbQ (W:Nat):zaL (hiN W) (loN W)=W:=by unfold zaL hiN loN;omega
theorem zhG {W:Nat} (h:W<2^128):hiN W<18446744073709551616:=by unfold hiN;omega
theorem zhE (W:Nat):loN W<18446744073709551616:=by unfold loN;omega
theorem zgR {hi lo:Nat} (l:lo<18446744073709551616):hiN (zaL hi lo)=hi:=by unfold zaL hiN;omega
theorem zhQ {hi lo:Nat} (l:lo<18446744073709551616):loN (zaL hi lo)=lo:=by unfold zaL loN;omega
theorem zpY {hi lo:Nat} (h:hi<18446744073709551616) (l:lo<18446744073709551616):zaL hi lo<2^128:=by unfold zaL;omega
theorem zjX {hi lo:Nat} (l:lo<18446744073709551616) (n:Int):pfW (zaL hi lo) n=pfV hi lo n:=by unfold pfW;rw [zgR l,zhQ l]
theorem zlM {W P:Nat} (f:hiN W=hiN P) (d:loN W=loN P):W=P:=by rw [←zbQ W,←zbQ P,f,d]
def znH (k:Nat):Nat:=2^64 - 2^(64 - k)
theorem zrE {k:Nat} (h:k≤64):2^k*2^(64 - k)=18446744073709551616:=by rw [←Nat.pow_add,show k+(64 - k)=64 from by omega]
theorem ydE (k:Nat):znH k<18446744073709551616:=by
 have:0<2^(64 - k):=Nat.pow_pos (by decide)
 unfold znH;omega
theorem ycQ {k:Nat} (h:k≤64):18446744073709551615/2^k=2^(64 - k) - 1:=by
 have e:=zrE h
 have d:0<2^k:=Nat.pow_pos (by decide)
 have f:0<2^(64 - k):=Nat.pow_pos (by decide)
 generalize 2^k=a at*
 generalize 2^(64 - k)=b at*
 obtain ⟨c,rfl⟩: ∃c,b=c+1:=⟨b - 1,by omega⟩
 rw [Nat.mul_add,Nat.mul_one] at e
 rw [show 18446744073709551615=a*c+(a - 1) from by omega,Nat.mul_add_div d,Nat.div_eq_of_lt (by omega)]
 omega
theorem xor64u (n:Nat) (i:n≤18446744073709551615):bits .xor .u64 IntKind.u64.max (n:Int)=((18446744073709551615 - n:Nat):Int):=by
 have f:n<2^64:=by omega
 have d:BitVec.ofInt 64 18446744073709551615=BitVec.allOnes 64:=by decide
 show IntKind.u64.wrap (((BitVec.ofInt 64 18446744073709551615)^^^(BitVec.ofInt 64 (n:Int))).toNat:Int)=_
 rw [d,BitVec.allOnes_xor,BitVec.toNat_not,BitVec.ofInt_natCast,BitVec.toNat_ofNat,Nat.mod_eq_of_lt f,IntKind.wrap_u64]
 omega
theorem yfM {k:Nat} (h:k≤64):bits .xor .u64 IntKind.u64.max ((18446744073709551615:Int)/2^k)=(znH k:Int):=by
 have e:((18446744073709551615:Int)/2^k)=((18446744073709551615/2^k:Nat):Int):=by simp
 have d:0<2^(64 - k):=Nat.pow_pos (by decide)
 have f:2^(64 - k)≤2^64:=Nat.pow_le_pow_right (by decide) (by omega)
 rw [e,ycQ h,xor64u _ (by omega)]
 unfold znH
 congr 1;omega
theorem zzK (x k:Nat) (d:x<18446744073709551616):bits .and .u64 (x:Int) (znH k:Int)=((x/2^(64 - k)*2^(64 - k):Nat):Int):=by
 rw [u64_and_nat x (znH k) d (ydE k)]
 congr 1
 have f:znH k=(2^(64 - (64 - k)) - 1)*2^(64 - k):=by
  have:=zrE (k:=64 - (64 - k)) (by omega)
  rw [show 64 - (64 - (64 - k))=64 - k from by omega] at this
  rw [Nat.sub_mul,this,Nat.one_mul];rfl
 apply Nat.eq_of_testBit_eq
 intro j
 rw [Nat.testBit_and,f,Nat.testBit_mul_two_pow,Nat.testBit_mul_two_pow,Nat.testBit_two_pow_sub_one,Nat.testBit_div_two_pow]
 by_cases h:64 - k≤j
 ·rw [show j - (64 - k)+(64 - k)=j from by omega]
  by_cases i:j<64
  ·simp [h,show j - (64 - k)<64 - (64 - k) from by omega]
  ·have:x.testBit j=false:=Nat.testBit_lt_two_pow (Nat.lt_of_lt_of_le d (by rw [show 18446744073709551616=2^64 from by decide];exact Nat.pow_le_pow_right (by decide) (by omega)))
   simp [this]
 ·simp [h]
theorem yeQ {hi lo:Nat} (l:lo<18446744073709551616) {n:Nat} (m:n≤128):
  hiN (ofW (zaL hi lo) n)=hi/2^(64 - n)*2^(64 - n)∧loN (ofW (zaL hi lo) n)=lo/2^(64 - (n - 64))*2^(64 - (n - 64)):=by
 unfold ofW
 rcases Nat.lt_or_ge 64 n with h|h
 ·have e:(18446744073709551616:Nat)=2^(128 - n)*2^(n - 64):=by rw [←Nat.pow_add,show 128 - n+(n - 64)=64 from by omega]
  rw [show 64 - n=0 from by omega,show 64 - (n - 64)=128 - n from by omega]
  have d:0<2^(128 - n):=Nat.pow_pos (by decide)
  have f:zaL hi lo/2^(128 - n)*2^(128 - n)=hi*18446744073709551616+lo/2^(128 - n)*2^(128 - n):=by
   have q:zaL hi lo=2^(128 - n)*(2^(n - 64)*hi)+lo:=by
    unfold zaL
    rw [show (2:Nat)^64=18446744073709551616 from by decide,e]
    congr 1
    ac_rfl
   rw [q,Nat.mul_add_div d,Nat.add_mul,e]
   congr 1
   ac_rfl
  have i:lo/2^(128 - n)*2^(128 - n)≤lo:=Nat.div_mul_le_self _ _
  rw [f]
  unfold hiN loN
  simp only [Nat.pow_zero,Nat.div_one,Nat.mul_one]
  constructor<;>omega
 ·have e:(2:Nat)^(128 - n)=18446744073709551616*2^(64 - n):=by rw [show 18446744073709551616=2^64 from by decide,←Nat.pow_add];congr 1;omega
  have j:zaL hi lo/(18446744073709551616*2^(64 - n))=hi/2^(64 - n):=by
   rw [←Nat.div_div_eq_div_mul];congr 1;unfold zaL;omega
  rw [e,j,show n - 64=0 from by omega,Nat.mul_left_comm]
  unfold hiN loN
  constructor
  ·rw [Nat.mul_div_cancel_left _ (by decide)]
  ·rw [Nat.mul_mod_right,Nat.div_eq_of_lt (show lo<2^(64 - 0) from l),Nat.zero_mul]
theorem retV {a b:Value} (h:a=b):Ending.returned a= .returned b:=by rw [h]
theorem zyX (n:Int) (w:World) (j: -9223372036854775808≤n) (d:n≤9223372036854775807):
  Calls Tryz.prog 288 #[.int .i64 n] w fun e w'=>e= .returned (.int .u64 (znH n.toNat:Nat))∧w=w':=by
 by_cases a:n<0
 ·go_enter Tryz.func288,Tryz.ntmps288
  go_wp2
  all_goals go_ret
  all_goals exact ⟨retV (by rw [show n.toNat=0 from by omega];rfl),rfl⟩
 ·by_cases b:64<n
  ·go_enter Tryz.func288,Tryz.ntmps288
   go_wp2
   all_goals go_ret
   all_goals exact ⟨retV (by unfold znH;rw [show 64 - n.toNat=0 from by omega];rfl),rfl⟩
  ·obtain ⟨k,rfl⟩:=Int.eq_ofNat_of_zero_le (show 0≤n by omega)
   have i:k≤64:=by omega
   have f:=Lib.hid (yfM i)
   clear a b j d
   go_enter Tryz.func288,Tryz.ntmps288
   go_wp2
   all_goals go_ret
   all_goals exact ⟨retV (show Value.int .u64 _=_ by rw [f.out]),rfl⟩
theorem zmX (hi lo n:Nat) (w:World) (m:hi<18446744073709551616) (d:lo<18446744073709551616) (A:n≤128):
  Calls Tryz.prog 243 #[.int .u64 hi,.int .u64 lo,.int .i64 n] w fun e w'=>e= .returned (pfW (ofW (zaL hi lo) n) n)∧Below w.heap.size w w':=by
 obtain ⟨i,j⟩:=yeQ (hi:=hi) d A
 have o:Hid (pfW (ofW (zaL hi lo) n) n= .agg #[.int .u64 ((hi/2^(64 - n)*2^(64 - n):Nat):Int),.int .u64 ((lo/2^(64 - (n - 64))*2^(64 - (n - 64)):Nat):Int),.int .i64 n]):=by
  show pfV _ _ _=_
  rw [i,j];rfl
 have f:((n:Int) - 64).toNat=n - 64:=by omega
 have C:=Lib.hid f
 have B:=Lib.hid (zzK hi n m)
 have D:=Lib.hid (zzK lo (n - 64) d)
 clear i j f
 go_enter Tryz.func243,Tryz.ntmps243
 go_wp2_with fail
 refine (zyX _ _ (by omega) (by omega)).mono ?_
 rintro e E ⟨rfl,rfl⟩
 rw [Int.toNat_natCast]
 go_wp2_with fail
 refine (zyX _ _ (by omega) (by omega)).mono ?_
 rintro e E ⟨rfl,rfl⟩
 rw [C.out]
 go_wp2
 refine bodyPost_ret (v:= .agg #[.int .u64 (bits .and .u64 (hi:Int) (znH n:Nat)),.int .u64 (bits .and .u64 (lo:Int) (znH (n - 64):Nat)),.int .i64 n]) (by simp [results,Tryz.results243,go_sem]) rfl ⟨?_,?_⟩
 ·rw [o.out,B.out,D.out]
 ·exact ((ykN _ _).alloc (ykK _) _)
theorem zfS (u v:Array Value): ∀(p q:Operand) (W:World),(eqGuard .eql 183 p q (.agg u) (.agg v)).run Tryz.prog W= .ok () W:=by
 intro p q W;kernel_rfl
theorem eqPf (a b c d b' f:Int): ∀W:World,(binOp .eql 183 (.agg #[.int .u64 a,.int .u64 b,.int .i64 c]) (.agg #[.int .u64 d,.int .u64 b',.int .i64 f])).run Tryz.prog W= .ok (.bool (a==d&&(b==b'&&c==f))) W:=by
 intro W
 have i:(Op.equal 183 (.agg #[.int .u64 a,.int .u64 b,.int .i64 c]) (.agg #[.int .u64 d,.int .u64 b',.int .i64 f])).run Tryz.prog W= .ok (a==d&&(b==b'&&c==f)) W:=by
  show (Op.equalIn 10000 183 _ _).run Tryz.prog W=_
  rw [run_equalIn_struct W 9999 183 _ _ (by kernel_rfl) (by kernel_rfl)]
  simp [Program.fieldsOf,Tryz.underlying183,Op.eqFields,go_sem,part,Tryz.sizeOf59,Tryz.isAgg59,Tryz.underlying59,Tryz.sizeOf3,Tryz.isAgg3,Tryz.underlying3]
  by_cases m:a=d<;>by_cases o:b=b'<;>by_cases j:c=f<;>simp [m,o,j]
 show ((Op.equal _ _ _>>=fun b=>pure (Value.bool b)):Sem Value).run _ _=_
 rw [Sem.run_bind,i];rfl
theorem zkE (w:World) (a b c:Value) (t:TypeId): ∀W,Below (w.heap.size+1) (w.alloc (.cells #[a,b,c] t)) W→W.cell? ⟨w.heap.size,0,none⟩=some a∧W.cell? ⟨w.heap.size,1,none⟩=some b∧W.cell? ⟨w.heap.size,2,none⟩=some c:=fun W h=>by
 refine ⟨?_,?_,?_⟩
 all_goals
  rw [h.cell (p:=⟨w.heap.size,_,none⟩) (by show w.heap.size<_;omega)]
  simp [go_sem]
theorem zbC {w W:World} {o:Obj} (h:Below (w.heap.size+1) (w.alloc o) W):Below w.heap.size w W:=
 ((ykN _ _).alloc (ykK _) o).trans (h.mono (Nat.le_succ _))
theorem ztE {x:World} {n:Nat}:Below n x x.drew:=(ykN _ _).drew
theorem zcX {x:World} {n k:Nat}:Below n x (x.drewN k):=⟨rfl,rfl,rfl,ykK _,fun _ _=>rfl⟩
theorem zeX {x W:World} {n:Nat} (d:n≤x.heap.size) (h:Below x.drew.heap.size x.drew W):Below n x W:=(ykN _ _).drew.trans (h.mono d)
theorem zgP {x y W:World} {n:Nat} (f:n≤x.heap.size) (h:Below n x y) (d:Below y.heap.size y W):Below n x W:=h.trans (d.mono (Nat.le_trans f h.size))
theorem ycH (hi lo n:Nat) (w:World) (D:hi<18446744073709551616) (f:lo<18446744073709551616) (o:n≤128):
  Calls Tryz.prog 186 #[.agg #[.int .u64 hi,.int .u64 lo,.int .i64 n]] w fun e w'=>e= .returned (.bool (zaN (zaL hi lo) n))∧Below w.heap.size w w':=by
 obtain ⟨h',j⟩: ∃x,hiN (ofW (zaL hi lo) n)=x:=⟨_,rfl⟩
 obtain ⟨A,m⟩: ∃x,loN (ofW (zaL hi lo) n)=x:=⟨_,rfl⟩
 have E:Hid (∀W,Calls Tryz.prog 243 #[.int .u64 hi,.int .u64 lo,.int .i64 n] W fun e w'=>e= .returned (.agg #[.int .u64 h',.int .u64 A,.int .i64 n])∧Below W.heap.size W w'):=fun W=>by
  have:=zmX hi lo n W D f o
  unfold pfW at this
  rw [j,m] at this
  exact this
 have C:((h':Int)==hi&&((A:Int)==lo&&(n:Int)==n))=zaN (zaL hi lo) n:=by
  rw [Bool.eq_iff_iff,zbU]
  simp only [Bool.and_eq_true,beq_iff_eq,and_true]
  constructor
  ·rintro ⟨a,b⟩
   refine ⟨o,?_⟩
   have:ofW (zaL hi lo) n=zaL hi lo:=zlM (by rw [j,zgR f];omega) (by rw [m,zhQ f];omega)
   rw [←this];exact zvN _ _
  ·rintro ⟨_,b⟩
   have:ofW (zaL hi lo) n=zaL hi lo:=zyI ⟨o,b⟩
   rw [this,zgR f] at j
   rw [this,zhQ f] at m
   omega
 have B:=eqPf h' A n hi lo n
 rw [C] at B
 have I:=zfS
 have i:=Lib.hid (zkE w (.int .u64 hi) (.int .u64 lo) (.int .i64 n) 183)
 have G:decide ((0:Int)≤n)=true:=ykM (by omega)
 have H:decide ((n:Int)≤128)=true:=ykM (by omega)
 clear j m C
 generalize zaN (zaL hi lo) n=b at*
 go_enter Tryz.func186,Tryz.ntmps186
 go_wp2
 go_region_held3 (fun W=>W.cell? ⟨w.heap.size,0,none⟩=some (.int .u64 hi)∧W.cell? ⟨w.heap.size,1,none⟩=some (.int .u64 lo)∧W.cell? ⟨w.heap.size,2,none⟩=some (.int .i64 n))
  (first|exact i.out _ ztE|exact i.out _ (zeX (by simp) d))
  (first
   |(go_simp;go_at_call 243;((with_reducible refine (E.out _).mono ?_);rintro e J ⟨rfl,d⟩)))
 go_wp2
 go_ret
 exact ⟨rfl,zbC (zeX (by simp) d)⟩
theorem z7T (hi lo:Nat) (n:Int) (w:World) (d:n<0∨128<n):
  Calls Tryz.prog 186 #[.agg #[.int .u64 hi,.int .u64 lo,.int .i64 n]] w fun e w'=>e= .returned (.bool false)∧Below w.heap.size w w':=by
 by_cases i:n<0
 ·have f:decide ((0:Int)≤n)=false:=ykL (by omega)
  clear d
  go_enter Tryz.func186,Tryz.ntmps186
  go_wp2
  go_quiet (fail)
  go_wp2
  go_ret
  exact ⟨rfl,zbC zcX⟩
 ·have f:decide ((0:Int)≤n)=true:=ykM (by omega)
  have j:decide (n≤128)=false:=ykL (by omega)
  clear d
  go_enter Tryz.func186,Tryz.ntmps186
  go_wp2
  go_quiet (fail)
  go_wp2
  go_ret
  exact ⟨rfl,zbC zcX⟩
theorem zwO {W:Nat} {n:Int} (h:n<0∨128<n):zaN W n=false:=by unfold zaN;rw [decide_eq_false_iff_not];omega
theorem zpJ {W:Nat} {n:Int} (h:zaN W n=true):0≤n∧n≤128:=by unfold zaN at h;rw [decide_eq_true_iff] at h;omega
theorem zbM (hi lo:Nat) (n:Int) (w:World) (d:hi<18446744073709551616) (f:lo<18446744073709551616):
  Calls Tryz.prog 186 #[.agg #[.int .u64 hi,.int .u64 lo,.int .i64 n]] w fun e w'=>e= .returned (.bool (zaN (zaL hi lo) n))∧Below w.heap.size w w':=by
 by_cases h:n<0∨128<n
 ·rw [zwO h];exact z7T hi lo n w h
 ·obtain ⟨k,rfl⟩:=Int.eq_ofNat_of_zero_le (show 0≤n by omega)
  exact ycH hi lo k w d f (by omega)
theorem zjQ (w:World) (a b c d b' f:Value) (t:TypeId): ∀W,Below (w.heap.size+2) ((w.alloc (.cells #[a,b,c] t)).alloc (.cells #[d,b',f] t)) W→
  (W.cell? ⟨w.heap.size,0,none⟩=some a∧W.cell? ⟨w.heap.size,1,none⟩=some b∧W.cell? ⟨w.heap.size,2,none⟩=some c)∧W.cell? ⟨w.heap.size+1,0,none⟩=some d∧W.cell? ⟨w.heap.size+1,1,none⟩=some b'∧W.cell? ⟨w.heap.size+1,2,none⟩=some f:=fun W h=>by
 refine ⟨⟨?_,?_,?_⟩,?_,?_,?_⟩
 ·rw [h.cell (p:=⟨w.heap.size,_,none⟩) (by show w.heap.size<_;omega)];simp [go_sem]
 ·rw [h.cell (p:=⟨w.heap.size,_,none⟩) (by show w.heap.size<_;omega)];simp [go_sem]
 ·rw [h.cell (p:=⟨w.heap.size,_,none⟩) (by show w.heap.size<_;omega)];simp [go_sem]
 ·rw [h.cell (p:=⟨w.heap.size+1,_,none⟩) (by show w.heap.size+1<_;omega)];simp [go_sem]
 ·rw [h.cell (p:=⟨w.heap.size+1,_,none⟩) (by show w.heap.size+1<_;omega)];simp [go_sem]
 ·rw [h.cell (p:=⟨w.heap.size+1,_,none⟩) (by show w.heap.size+1<_;omega)];simp [go_sem]
theorem zfB {w W:World} {o d:Obj} (h:Below (w.heap.size+2) ((w.alloc o).alloc d) W):Below w.heap.size w W:=
 (((ykN _ _).alloc (ykK _) o).alloc (by simp) d).trans (h.mono (by omega))
theorem yfG (hi lo i j:Nat) (n m:Int) (w:World) (I:hi<18446744073709551616) (E:lo<18446744073709551616) (_:i<18446744073709551616) (_:j<18446744073709551616) (H:zaN (zaL hi lo) n=false):
  Calls Tryz.prog 245 #[.agg #[.int .u64 hi,.int .u64 lo,.int .i64 n],.agg #[.int .u64 i,.int .u64 j,.int .i64 m]] w fun e w'=>e= .returned (.bool false)∧Below w.heap.size w w':=by
 have C:=Lib.hid (zjQ w (.int .u64 hi) (.int .u64 lo) (.int .i64 n) (.int .u64 i) (.int .u64 j) (.int .i64 m) 183)
 have D:Hid (∀W,Calls Tryz.prog 186 #[.agg #[.int .u64 hi,.int .u64 lo,.int .i64 n]] W fun e w'=>e= .returned (.bool false)∧Below W.heap.size W w'):=fun W=>by
  have:=zbM hi lo n W I E;rwa [H] at this
 clear H I E
 go_enter Tryz.func245,Tryz.ntmps245
 go_wp2
 refine wp_region_held_drew (S:=fun W=>(W.cell? ⟨w.heap.size,0,none⟩=some (.int .u64 hi)∧W.cell? ⟨w.heap.size,1,none⟩=some (.int .u64 lo)∧W.cell? ⟨w.heap.size,2,none⟩=some (.int .i64 n))∧W.cell? ⟨w.heap.size+1,0,none⟩=some (.int .u64 i)∧W.cell? ⟨w.heap.size+1,1,none⟩=some (.int .u64 j)∧W.cell? ⟨w.heap.size+1,2,none⟩=some (.int .i64 m)) (by kernel_rfl) ?_ (fun A=> ?_)
 ·exact C.out _ ztE
 refine tkF 0 (some 5) (v:= ?_) rfl (.inl ⟨by rfl,?_⟩) A ?_;rotate_left;·intro w f;(try dsimp only at f);go_simp;try with_reducible rfl
 try simp only [Act.put,tkFa,tkFb,tkFc]
 refine wpAnyH_ready (rs:=[1]) (by kernel_rfl) (by simp) ?_
 refine AllReadyH.cons (o:=⟨some 6,_,_,_,_,_⟩) rfl (fun K G=> ?_) AllReadyH.nil
 go_simp
 go_at_call 186
 refine (D.out _).mono ?_
 rintro e J ⟨rfl,B⟩
 (try go_wp2_with fail)
 refine G.out _ _ ?_ (fun d=> ?_)
 ·exact C.out _ (zeX (by simp) B)
 clear G K
 try simp only [Act.put,tkFa,tkFb,tkFc]
 refine tkF 2 (some 7) (v:= ?_) rfl (.inl ⟨by rfl,?_⟩) d ?_;rotate_left;·intro w f;(try dsimp only at f);go_simp;try with_reducible rfl
 try simp only [Act.put,tkFa,tkFb,tkFc]
 refine tkF 3 (some 8) (v:=undef) rfl (.inr ⟨by rfl,rfl⟩) d ?_
 try simp only [Act.put,tkFa,tkFb,tkFc]
 refine tkF 4 (some 9) (v:=undef) rfl (.inr ⟨by rfl,rfl⟩) d ?_
 try simp only [Act.put,tkFa,tkFb,tkFc]
 refine tkF 5 (some 10) (v:= ?_) rfl (.inl ⟨by rfl,?_⟩) d ?_;rotate_left;·intro w f;(try dsimp only at f);go_simp;try with_reducible rfl
 try simp only [Act.put,tkFa,tkFb,tkFc]
 refine tkF 6 (some 11) (v:= ?_) rfl (.inl ⟨by rfl,?_⟩) d ?_;rotate_left;·intro w f;(try dsimp only at f);go_simp;try with_reducible rfl
 try simp only [Act.put,tkFa,tkFb,tkFc]
 refine tkF 7 (some 12) (v:=undef) rfl (.inr ⟨by rfl,rfl⟩) d ?_
 try simp only [Act.put,tkFa,tkFb,tkFc]
 refine tkF 8 (some 13) (v:=undef) rfl (.inr ⟨by rfl,rfl⟩) d ?_
 try simp only [Act.put,tkFa,tkFb,tkFc]
 refine tkF 9 (some 14) (v:=undef) rfl (.inr ⟨by rfl,rfl⟩) d ?_
 try simp only [Act.put,tkFa,tkFb,tkFc]
 refine tkF 10 (some 15) (v:=undef) rfl (.inr ⟨by rfl,rfl⟩) d ?_
 try simp only [Act.put,tkFa,tkFb,tkFc]
 refine tkF 11 (some 16) (v:=undef) rfl (.inr ⟨by rfl,rfl⟩) d ?_
 try simp only [Act.put,tkFa,tkFb,tkFc]
 refine tkF 12 (some 17) (v:= ?_) rfl (.inl ⟨by rfl,?_⟩) d ?_;rotate_left;·intro w f;(try dsimp only at f);go_simp;try with_reducible rfl
 try simp only [Act.put,tkFa,tkFb,tkFc]
 refine tkF 13 (some 18) (v:= ?_) rfl (.inl ⟨by rfl,?_⟩) d ?_;rotate_left;·intro w f;(try dsimp only at f);go_simp;try with_reducible rfl
 try simp only [Act.put,tkFa,tkFb,tkFc]
 refine tkF 14 (some 19) (v:=undef) rfl (.inr ⟨by rfl,rfl⟩) d ?_
 try simp only [Act.put,tkFa,tkFb,tkFc]
 refine tkF 15 (some 20) (v:=undef) rfl (.inr ⟨by rfl,rfl⟩) d ?_
 try simp only [Act.put,tkFa,tkFb,tkFc]
 refine tkF 16 (some 21) (v:=undef) rfl (.inr ⟨by rfl,rfl⟩) d ?_
 try simp only [Act.put,tkFa,tkFb,tkFc]
 refine tkF 17 (some 22) (v:=undef) rfl (.inr ⟨by rfl,rfl⟩) d ?_
 try simp only [Act.put,tkFa,tkFb,tkFc]
 refine tkF 18 (some 23) (v:=undef) rfl (.inr ⟨by rfl,rfl⟩) d ?_
 try simp only [Act.put,tkFa,tkFb,tkFc]
 refine tkF 19 (some 24) (v:=undef) rfl (.inr ⟨by rfl,rfl⟩) d ?_
 try simp only [Act.put,tkFa,tkFb,tkFc]
 refine tkF 20 (some 25) (v:=undef) rfl (.inr ⟨by rfl,rfl⟩) d ?_
 try simp only [Act.put,tkFa,tkFb,tkFc]
 refine tkF 21 (some 26) (v:=undef) rfl (.inr ⟨by rfl,rfl⟩) d ?_
 try simp only [Act.put,tkFa,tkFb,tkFc]
 refine tkF 22 (some 27) (v:=undef) rfl (.inr ⟨by rfl,rfl⟩) d ?_
 try simp only [Act.put,tkFa,tkFb,tkFc]
 refine tkF 23 (some 28) (v:= ?_) rfl (.inl ⟨by rfl,?_⟩) d ?_;rotate_left;·intro w f;(try dsimp only at f);go_simp;try with_reducible rfl
 try simp only [Act.put,tkFa,tkFb,tkFc]
 refine tkF 24 (some 4) (v:= ?_) rfl (.inl ⟨by rfl,?_⟩) d ?_;rotate_left;·intro w f;(try dsimp only at f);go_simp;try with_reducible rfl
 try simp only [Act.put,tkFa,tkFb,tkFc]
 refine wpAnyH_done (by kernel_rfl) ?_ _
 go_wp2
 go_ret
 exact ⟨by first|rfl|(simp;done)|kernel_rfl|(simp [Act.put];done),zfB (zeX (by simp) B)⟩
theorem ydQ (hi lo i j:Nat) (n m:Int) (w:World) (N:hi<18446744073709551616) (J:lo<18446744073709551616) (Q:i<18446744073709551616) (O:j<18446744073709551616) (M:zaN (zaL hi lo) n=true) (r2:zaN (zaL i j) m=false):
  Calls Tryz.prog 245 #[.agg #[.int .u64 hi,.int .u64 lo,.int .i64 n],.agg #[.int .u64 i,.int .u64 j,.int .i64 m]] w fun e w'=>e= .returned (.bool false)∧Below w.heap.size w w':=by
 have D:=Lib.hid (zjQ w (.int .u64 hi) (.int .u64 lo) (.int .i64 n) (.int .u64 i) (.int .u64 j) (.int .i64 m) 183)
 have H:Hid (∀W,Calls Tryz.prog 186 #[.agg #[.int .u64 hi,.int .u64 lo,.int .i64 n]] W fun e w'=>e= .returned (.bool true)∧Below W.heap.size W w'):=fun W=>by
  have:=zbM hi lo n W N J;rwa [M] at this
 have I:Hid (∀W,Calls Tryz.prog 186 #[.agg #[.int .u64 i,.int .u64 j,.int .i64 m]] W fun e w'=>e= .returned (.bool false)∧Below W.heap.size W w'):=fun W=>by
  have:=zbM i j m W Q O;rwa [r2] at this
 clear M r2 N J Q O
 go_enter Tryz.func245,Tryz.ntmps245
 go_wp2
 refine wp_region_held_drew (S:=fun W=>(W.cell? ⟨w.heap.size,0,none⟩=some (.int .u64 hi)∧W.cell? ⟨w.heap.size,1,none⟩=some (.int .u64 lo)∧W.cell? ⟨w.heap.size,2,none⟩=some (.int .i64 n))∧W.cell? ⟨w.heap.size+1,0,none⟩=some (.int .u64 i)∧W.cell? ⟨w.heap.size+1,1,none⟩=some (.int .u64 j)∧W.cell? ⟨w.heap.size+1,2,none⟩=some (.int .i64 m)) (by kernel_rfl) ?_ (fun B=> ?_)
 ·exact D.out _ ztE
 refine tkF 0 (some 5) (v:= ?_) rfl (.inl ⟨by rfl,?_⟩) B ?_;rotate_left;·intro w f;(try dsimp only at f);go_simp;try with_reducible rfl
 try simp only [Act.put,tkFa,tkFb,tkFc]
 refine wpAnyH_ready (rs:=[1]) (by kernel_rfl) (by simp) ?_
 refine AllReadyH.cons (o:=⟨some 6,_,_,_,_,_⟩) rfl (fun K G=> ?_) AllReadyH.nil
 go_simp
 go_at_call 186
 refine (H.out _).mono ?_
 rintro e V ⟨rfl,C⟩
 (try go_wp2_with fail)
 refine G.out _ _ ?_ (fun A=> ?_)
 ·exact D.out _ (zeX (by simp) C)
 clear G K
 try simp only [Act.put,tkFa,tkFb,tkFc]
 refine tkF 2 (some 7) (v:= ?_) rfl (.inl ⟨by rfl,?_⟩) A ?_;rotate_left;·intro w f;(try dsimp only at f);go_simp;try with_reducible rfl
 try simp only [Act.put,tkFa,tkFb,tkFc]
 refine tkF 3 (some 8) (v:= ?_) rfl (.inl ⟨by rfl,?_⟩) A ?_;rotate_left;·intro w f;(try dsimp only at f);go_simp;try with_reducible rfl
 try simp only [Act.put,tkFa,tkFb,tkFc]
 refine wpAnyH_ready (rs:=[4]) (by kernel_rfl) (by simp) ?_
 refine AllReadyH.cons (o:=⟨some 9,_,_,_,_,_⟩) rfl (fun K G=> ?_) AllReadyH.nil
 go_simp
 go_at_call 186
 refine (I.out _).mono ?_
 rintro e U ⟨rfl,E⟩
 (try go_wp2_with fail)
 refine G.out _ _ ?_ (fun d=> ?_)
 ·exact D.out _ (zgP (by simp) (zeX (by simp) C) E)
 clear G K
 try simp only [Act.put,tkFa,tkFb,tkFc]
 refine tkF 5 (some 10) (v:= ?_) rfl (.inl ⟨by rfl,?_⟩) d ?_;rotate_left;·intro w f;(try dsimp only at f);go_simp;try with_reducible rfl
 try simp only [Act.put,tkFa,tkFb,tkFc]
 refine tkF 6 (some 11) (v:= ?_) rfl (.inl ⟨by rfl,?_⟩) d ?_;rotate_left;·intro w f;(try dsimp only at f);go_simp;try with_reducible rfl
 try simp only [Act.put,tkFa,tkFb,tkFc]
 refine tkF 7 (some 12) (v:=undef) rfl (.inr ⟨by rfl,rfl⟩) d ?_
 try simp only [Act.put,tkFa,tkFb,tkFc]
 refine tkF 8 (some 13) (v:=undef) rfl (.inr ⟨by rfl,rfl⟩) d ?_
 try simp only [Act.put,tkFa,tkFb,tkFc]
 refine tkF 9 (some 14) (v:=undef) rfl (.inr ⟨by rfl,rfl⟩) d ?_
 try simp only [Act.put,tkFa,tkFb,tkFc]
 refine tkF 10 (some 15) (v:=undef) rfl (.inr ⟨by rfl,rfl⟩) d ?_
 try simp only [Act.put,tkFa,tkFb,tkFc]
 refine tkF 11 (some 16) (v:=undef) rfl (.inr ⟨by rfl,rfl⟩) d ?_
 try simp only [Act.put,tkFa,tkFb,tkFc]
 refine tkF 12 (some 17) (v:= ?_) rfl (.inl ⟨by rfl,?_⟩) d ?_;rotate_left;·intro w f;(try dsimp only at f);go_simp;try with_reducible rfl
 try simp only [Act.put,tkFa,tkFb,tkFc]
 refine tkF 13 (some 18) (v:= ?_) rfl (.inl ⟨by rfl,?_⟩) d ?_;rotate_left;·intro w f;(try dsimp only at f);go_simp;try with_reducible rfl
 try simp only [Act.put,tkFa,tkFb,tkFc]
 refine tkF 14 (some 19) (v:=undef) rfl (.inr ⟨by rfl,rfl⟩) d ?_
 try simp only [Act.put,tkFa,tkFb,tkFc]
 refine tkF 15 (some 20) (v:=undef) rfl (.inr ⟨by rfl,rfl⟩) d ?_
 try simp only [Act.put,tkFa,tkFb,tkFc]
 refine tkF 16 (some 21) (v:=undef) rfl (.inr ⟨by rfl,rfl⟩) d ?_
 try simp only [Act.put,tkFa,tkFb,tkFc]
 refine tkF 17 (some 22) (v:=undef) rfl (.inr ⟨by rfl,rfl⟩) d ?_
 try simp only [Act.put,tkFa,tkFb,tkFc]
 refine tkF 18 (some 23) (v:=undef) rfl (.inr ⟨by rfl,rfl⟩) d ?_
 try simp only [Act.put,tkFa,tkFb,tkFc]
 refine tkF 19 (some 24) (v:=undef) rfl (.inr ⟨by rfl,rfl⟩) d ?_
 try simp only [Act.put,tkFa,tkFb,tkFc]
 refine tkF 20 (some 25) (v:=undef) rfl (.inr ⟨by rfl,rfl⟩) d ?_
 try simp only [Act.put,tkFa,tkFb,tkFc]
 refine tkF 21 (some 26) (v:=undef) rfl (.inr ⟨by rfl,rfl⟩) d ?_
 try simp only [Act.put,tkFa,tkFb,tkFc]
 refine tkF 22 (some 27) (v:=undef) rfl (.inr ⟨by rfl,rfl⟩) d ?_
 try simp only [Act.put,tkFa,tkFb,tkFc]
 refine tkF 23 (some 28) (v:= ?_) rfl (.inl ⟨by rfl,?_⟩) d ?_;rotate_left;·intro w f;(try dsimp only at f);go_simp;try with_reducible rfl
 try simp only [Act.put,tkFa,tkFb,tkFc]
 refine tkF 24 (some 4) (v:= ?_) rfl (.inl ⟨by rfl,?_⟩) d ?_;rotate_left;·intro w f;(try dsimp only at f);go_simp;try with_reducible rfl
 try simp only [Act.put,tkFa,tkFb,tkFc]
 refine wpAnyH_done (by kernel_rfl) ?_ _
 go_wp2
 go_ret
 exact ⟨by first|rfl|(simp;done)|kernel_rfl|(simp [Act.put];done),zfB (zgP (by simp) (zeX (by simp) C) E)⟩
theorem ycE (hi lo i j:Nat) (n m:Int) (w:World) (N:hi<18446744073709551616) (J:lo<18446744073709551616) (Q:i<18446744073709551616) (O:j<18446744073709551616) (M:zaN (zaL hi lo) n=true) (r2:zaN (zaL i j) m=true) (U:m<n):
  Calls Tryz.prog 245 #[.agg #[.int .u64 hi,.int .u64 lo,.int .i64 n],.agg #[.int .u64 i,.int .u64 j,.int .i64 m]] w fun e w'=>e= .returned (.bool false)∧Below w.heap.size w w':=by
 have D:=Lib.hid (zjQ w (.int .u64 hi) (.int .u64 lo) (.int .i64 n) (.int .u64 i) (.int .u64 j) (.int .i64 m) 183)
 have H:Hid (∀W,Calls Tryz.prog 186 #[.agg #[.int .u64 hi,.int .u64 lo,.int .i64 n]] W fun e w'=>e= .returned (.bool true)∧Below W.heap.size W w'):=fun W=>by
  have:=zbM hi lo n W N J;rwa [M] at this
 have I:Hid (∀W,Calls Tryz.prog 186 #[.agg #[.int .u64 i,.int .u64 j,.int .i64 m]] W fun e w'=>e= .returned (.bool true)∧Below W.heap.size W w'):=fun W=>by
  have:=zbM i j m W Q O;rwa [r2] at this
 have Y:decide (n≤m)=false:=ykL (by omega)
 clear M r2 N J Q O U
 go_enter Tryz.func245,Tryz.ntmps245
 go_wp2
 refine wp_region_held_drew (S:=fun W=>(W.cell? ⟨w.heap.size,0,none⟩=some (.int .u64 hi)∧W.cell? ⟨w.heap.size,1,none⟩=some (.int .u64 lo)∧W.cell? ⟨w.heap.size,2,none⟩=some (.int .i64 n))∧W.cell? ⟨w.heap.size+1,0,none⟩=some (.int .u64 i)∧W.cell? ⟨w.heap.size+1,1,none⟩=some (.int .u64 j)∧W.cell? ⟨w.heap.size+1,2,none⟩=some (.int .i64 m)) (by kernel_rfl) ?_ (fun B=> ?_)
 ·exact D.out _ ztE
 refine tkF 0 (some 5) (v:= ?_) rfl (.inl ⟨by rfl,?_⟩) B ?_;rotate_left;·intro w f;(try dsimp only at f);go_simp;try with_reducible rfl
 try simp only [Act.put,tkFa,tkFb,tkFc]
 refine wpAnyH_ready (rs:=[1]) (by kernel_rfl) (by simp) ?_
 refine AllReadyH.cons (o:=⟨some 6,_,_,_,_,_⟩) rfl (fun K G=> ?_) AllReadyH.nil
 go_simp
 go_at_call 186
 refine (H.out _).mono ?_
 rintro e X ⟨rfl,C⟩
 (try go_wp2_with fail)
 refine G.out _ _ ?_ (fun A=> ?_)
 ·exact D.out _ (zeX (by simp) C)
 clear G K
 try simp only [Act.put,tkFa,tkFb,tkFc]
 refine tkF 2 (some 7) (v:= ?_) rfl (.inl ⟨by rfl,?_⟩) A ?_;rotate_left;·intro w f;(try dsimp only at f);go_simp;try with_reducible rfl
 try simp only [Act.put,tkFa,tkFb,tkFc]
 refine tkF 3 (some 8) (v:= ?_) rfl (.inl ⟨by rfl,?_⟩) A ?_;rotate_left;·intro w f;(try dsimp only at f);go_simp;try with_reducible rfl
 try simp only [Act.put,tkFa,tkFb,tkFc]
 refine wpAnyH_ready (rs:=[4]) (by kernel_rfl) (by simp) ?_
 refine AllReadyH.cons (o:=⟨some 9,_,_,_,_,_⟩) rfl (fun K G=> ?_) AllReadyH.nil
 go_simp
 go_at_call 186
 refine (I.out _).mono ?_
 rintro e V ⟨rfl,E⟩
 (try go_wp2_with fail)
 refine G.out _ _ ?_ (fun d=> ?_)
 ·exact D.out _ (zgP (by simp) (zeX (by simp) C) E)
 clear G K
 try simp only [Act.put,tkFa,tkFb,tkFc]
 refine tkF 5 (some 10) (v:= ?_) rfl (.inl ⟨by rfl,?_⟩) d ?_;rotate_left;·intro w f;(try dsimp only at f);go_simp;try with_reducible rfl
 try simp only [Act.put,tkFa,tkFb,tkFc]
 refine tkF 6 (some 11) (v:= ?_) rfl (.inl ⟨by rfl,?_⟩) d ?_;rotate_left;·intro w f;(try dsimp only at f);go_simp;try with_reducible rfl
 try simp only [Act.put,tkFa,tkFb,tkFc]
 refine tkF 7 (some 12) (v:= ?_) rfl (.inl ⟨by rfl,?_⟩) d ?_;rotate_left;·intro w f;(try dsimp only at f);go_simp;try with_reducible rfl
 try simp only [Act.put,tkFa,tkFb,tkFc]
 refine tkF 8 (some 13) (v:= ?_) rfl (.inl ⟨by rfl,?_⟩) d ?_;rotate_left;·intro w f;(try dsimp only at f);go_simp;try with_reducible rfl
 try simp only [Act.put,tkFa,tkFb,tkFc]
 refine tkF 9 (some 14) (v:= ?_) rfl (.inl ⟨by rfl,?_⟩) d ?_;rotate_left;·intro w f;(try dsimp only at f);go_simp;try with_reducible rfl
 try simp only [Act.put,tkFa,tkFb,tkFc]
 refine tkF 10 (some 15) (v:= ?_) rfl (.inl ⟨by rfl,?_⟩) d ?_;rotate_left;·intro w f;(try dsimp only at f);go_simp;try with_reducible rfl
 try simp only [Act.put,tkFa,tkFb,tkFc]
 refine tkF 11 (some 16) (v:= ?_) rfl (.inl ⟨by rfl,?_⟩) d ?_;rotate_left;·intro w f;(try dsimp only at f);go_simp;try with_reducible rfl
 try simp only [Act.put,tkFa,tkFb,tkFc]
 refine tkF 12 (some 17) (v:= ?_) rfl (.inl ⟨by rfl,?_⟩) d ?_;rotate_left;·intro w f;(try dsimp only at f);go_simp;try with_reducible rfl
 try simp only [Act.put,tkFa,tkFb,tkFc]
 refine tkF 13 (some 18) (v:= ?_) rfl (.inl ⟨by rfl,?_⟩) d ?_;rotate_left;·intro w f;(try dsimp only at f);go_simp;try with_reducible rfl
 try simp only [Act.put,tkFa,tkFb,tkFc]
 refine tkF 14 (some 19) (v:=undef) rfl (.inr ⟨by rfl,rfl⟩) d ?_
 try simp only [Act.put,tkFa,tkFb,tkFc]
 refine tkF 15 (some 20) (v:=undef) rfl (.inr ⟨by rfl,rfl⟩) d ?_
 try simp only [Act.put,tkFa,tkFb,tkFc]
 refine tkF 16 (some 21) (v:=undef) rfl (.inr ⟨by rfl,rfl⟩) d ?_
 try simp only [Act.put,tkFa,tkFb,tkFc]
 refine tkF 17 (some 22) (v:=undef) rfl (.inr ⟨by rfl,rfl⟩) d ?_
 try simp only [Act.put,tkFa,tkFb,tkFc]
 refine tkF 18 (some 23) (v:=undef) rfl (.inr ⟨by rfl,rfl⟩) d ?_
 try simp only [Act.put,tkFa,tkFb,tkFc]
 refine tkF 19 (some 24) (v:=undef) rfl (.inr ⟨by rfl,rfl⟩) d ?_
 try simp only [Act.put,tkFa,tkFb,tkFc]
 refine tkF 20 (some 25) (v:=undef) rfl (.inr ⟨by rfl,rfl⟩) d ?_
 try simp only [Act.put,tkFa,tkFb,tkFc]
 refine tkF 21 (some 26) (v:=undef) rfl (.inr ⟨by rfl,rfl⟩) d ?_
 try simp only [Act.put,tkFa,tkFb,tkFc]
 refine tkF 22 (some 27) (v:=undef) rfl (.inr ⟨by rfl,rfl⟩) d ?_
 try simp only [Act.put,tkFa,tkFb,tkFc]
 refine tkF 23 (some 28) (v:= ?_) rfl (.inl ⟨by rfl,?_⟩) d ?_;rotate_left;·intro w f;(try dsimp only at f);go_simp;try with_reducible rfl
 try simp only [Act.put,tkFa,tkFb,tkFc]
 refine tkF 24 (some 4) (v:= ?_) rfl (.inl ⟨by rfl,?_⟩) d ?_;rotate_left;·intro w f;(try dsimp only at f);go_simp;try with_reducible rfl
 try simp only [Act.put,tkFa,tkFb,tkFc]
 refine wpAnyH_done (by kernel_rfl) ?_ _
 go_wp2
 go_ret
 exact ⟨by first|rfl|(simp;done)|kernel_rfl|(simp [Act.put];done),zfB (zgP (by simp) (zeX (by simp) C) E)⟩
theorem yeP (hi lo d f:Nat) (n m:Int) (w:World) (O:hi<18446744073709551616) (B:lo<18446744073709551616) (M:d<18446744073709551616) (K:f<18446744073709551616) (D:zaN (zaL hi lo) n=true) (r2:zaN (zaL d f) m=true) (Q:n≤m):
  Calls Tryz.prog 245 #[.agg #[.int .u64 hi,.int .u64 lo,.int .i64 n],.agg #[.int .u64 d,.int .u64 f,.int .i64 m]] w fun e w'=>e= .returned (.bool (zbJ (zaL hi lo) n (zaL d f) m))∧Below w.heap.size w w':=by
 have j:=Lib.hid (zjQ w (.int .u64 hi) (.int .u64 lo) (.int .i64 n) (.int .u64 d) (.int .u64 f) (.int .i64 m) 183)
 have H:Hid (∀W,Calls Tryz.prog 186 #[.agg #[.int .u64 hi,.int .u64 lo,.int .i64 n]] W fun e w'=>e= .returned (.bool true)∧Below W.heap.size W w'):=fun W=>by
  have:=zbM hi lo n W O B;rwa [D] at this
 have I:Hid (∀W,Calls Tryz.prog 186 #[.agg #[.int .u64 d,.int .u64 f,.int .i64 m]] W fun e w'=>e= .returned (.bool true)∧Below W.heap.size W w'):=fun W=>by
  have:=zbM d f m W M K;rwa [r2] at this
 obtain ⟨h',E⟩: ∃x,hiN (ofW (zaL d f) n.toNat)=x:=⟨_,rfl⟩
 obtain ⟨J,G⟩: ∃x,loN (ofW (zaL d f) n.toNat)=x:=⟨_,rfl⟩
 have U:=zpJ D
 have o:(n.toNat:Int)=n:=by omega
 have V:Hid (∀W,Calls Tryz.prog 243 #[.int .u64 d,.int .u64 f,.int .i64 n] W fun e w'=>e= .returned (.agg #[.int .u64 h',.int .u64 J,.int .i64 n])∧Below W.heap.size W w'):=fun W=>by
  have:=zmX d f n.toNat W M K (by omega)
  unfold pfW at this
  rw [E,G,o] at this
  exact this
 have S:((h':Int)==hi&&((J:Int)==lo&&n==n))=zbJ (zaL hi lo) n (zaL d f) m:=by
  unfold zbJ
  have r3:rt (zaL hi lo) n.toNat:=by have:=D;rw [←o,zbU] at this;exact this.2
  rw [D,r2,ykM Q,Bool.true_and,Bool.true_and,Bool.true_and,Bool.eq_iff_iff,decide_eq_true_iff]
  simp only [Bool.and_eq_true,beq_iff_eq,and_true]
  constructor
  ·rintro ⟨a,b⟩
   have:ofW (zaL d f) n.toNat=zaL hi lo:=zlM (by rw [E,zgR B];omega) (by rw [G,zhQ B];omega)
   rw [←this];exact zwJ _ _
  ·intro b
   have:ofW (zaL d f) n.toNat=zaL hi lo:=zpW (zvN _ _) r3 ((zwJ _ _).trans b.symm)
   rw [this,zgR B] at E
   rw [this,zhQ B] at G
   omega
 have N:=eqPf h' J n hi lo n
 rw [S] at N
 have hg:=zfS
 have Z:decide (n≤m)=true:=ykM (by omega)
 clear D r2 O B M K Q S E G o U
 generalize zbJ (zaL hi lo) n (zaL d f) m=b at*
 go_enter Tryz.func245,Tryz.ntmps245
 go_wp2
 go_region_held3 (fun W=>(W.cell? ⟨w.heap.size,0,none⟩=some (.int .u64 hi)∧W.cell? ⟨w.heap.size,1,none⟩=some (.int .u64 lo)∧W.cell? ⟨w.heap.size,2,none⟩=some (.int .i64 n))∧W.cell? ⟨w.heap.size+1,0,none⟩=some (.int .u64 d)∧W.cell? ⟨w.heap.size+1,1,none⟩=some (.int .u64 f)∧W.cell? ⟨w.heap.size+1,2,none⟩=some (.int .i64 m))
  (first|exact j.out _ (ztE)|exact j.out _ (zeX (by simp) i)|exact j.out _ (zgP (by simp) (zeX (by simp) i) A)|exact j.out _ (zgP (by simp) (zgP (by simp) (zeX (by simp) i) A) C))
  (first
   |(go_simp;go_at_call 186;((with_reducible refine (H.out _).mono ?_);rintro e Y ⟨rfl,i⟩))
   |(go_simp;go_at_call 186;((with_reducible refine (I.out _).mono ?_);rintro e X ⟨rfl,A⟩))
   |(go_simp;go_at_call 243;((with_reducible refine (V.out _).mono ?_);rintro e x3 ⟨rfl,C⟩))
)
 go_wp2
 go_ret
 exact ⟨by first|rfl|(simp;done)|kernel_rfl|(simp [Act.put];done),zfB (zgP (by simp) (zgP (by simp) (zeX (by simp) i) A) C)⟩
theorem zhX (hi lo f d:Nat) (n m:Int) (w:World) (o:hi<18446744073709551616) (A:lo<18446744073709551616) (B:f<18446744073709551616) (j:d<18446744073709551616):
  Calls Tryz.prog 245 #[.agg #[.int .u64 hi,.int .u64 lo,.int .i64 n],.agg #[.int .u64 f,.int .u64 d,.int .i64 m]] w fun e w'=>e= .returned (.bool (zbJ (zaL hi lo) n (zaL f d) m))∧Below w.heap.size w w':=by
 cases i:zaN (zaL hi lo) n with
 |false=>
  rw [show zbJ (zaL hi lo) n (zaL f d) m=false from by unfold zbJ;rw [i];rfl]
  exact yfG hi lo f d n m w o A B j i
 |true=>
  cases r2:zaN (zaL f d) m with
  |false=>
   rw [show zbJ (zaL hi lo) n (zaL f d) m=false from by unfold zbJ;rw [i,r2];rfl]
   exact ydQ hi lo f d n m w o A B j i r2
  |true=>
   by_cases C:n≤m
   ·exact yeP hi lo f d n m w o A B j i r2 C
   ·rw [show zbJ (zaL hi lo) n (zaL f d) m=false from by unfold zbJ;rw [i,r2,ykL C];rfl]
    exact ycE hi lo f d n m w o A B j i r2 (by omega)
theorem ycJ (x:Nat) (h:x<18446744073709551616):bits .and .u64 (x:Int) 1=((x % 2:Nat):Int):=by
 rw [show (1:Int)=((1:Nat):Int) from rfl,u64_and_nat x 1 h (by decide),Nat.and_one_is_mod]
theorem ygT (hi lo:Nat) (n i:Int) (w:World) (h:i<0∨128≤i):
  Calls Tryz.prog 246 #[.agg #[.int .u64 hi,.int .u64 lo,.int .i64 n],.int .i64 i] w fun e w'=>e= .returned (.int .i64 0)∧Below w.heap.size w w':=by
 by_cases d:i<0
 ·clear h
  go_enter Tryz.func246,Tryz.ntmps246
  go_wp2
  all_goals go_ret
  all_goals exact ⟨rfl,(ykN _ _).alloc (ykK _) _⟩
 ·have f:128≤i:=by omega
  clear h
  go_enter Tryz.func246,Tryz.ntmps246
  go_wp2
  all_goals go_ret
  all_goals exact ⟨rfl,(ykN _ _).alloc (ykK _) _⟩
theorem z9C (x j:Nat) (h:x<18446744073709551616):wrap64 (bits .and .u64 ((x:Int)/2^j) 1)=((x/2^j % 2:Nat):Int):=by
 have e:((x:Int)/2^j)=((x/2^j:Nat):Int):=by simp
 rw [e,ycJ _ (Nat.lt_of_le_of_lt (Nat.div_le_self _ _) h)]
 have:x/2^j % 2<2:=Nat.mod_lt _ (by decide)
 unfold wrap64;omega
theorem z8I (hi lo:Nat) (n:Int) (k:Nat) (w:World) (j:hi<18446744073709551616) (f:lo<18446744073709551616) (o:k<128):
  Calls Tryz.prog 246 #[.agg #[.int .u64 hi,.int .u64 lo,.int .i64 n],.int .i64 k] w fun e w'=>e= .returned (.int .i64 (bitW (zaL hi lo) k:Nat))∧Below w.heap.size w w':=by
 by_cases i:k<64
 ·have d:Hid (wrap64 (bits .and .u64 ((hi:Int)/2^(63 - k)) 1)=(bitW (zaL hi lo) k:Nat)):=by
   show _=_
   rw [z9C _ _ j,bit_hi (show lo<2^64 from f) k i]
  go_enter Tryz.func246,Tryz.ntmps246
  go_wp2
  all_goals go_ret
  all_goals exact ⟨retV (show Value.int .i64 _=_ by rw [d.out]),(ykN _ _).alloc (ykK _) _⟩
 ·have m:64≤k:=by omega
  have d:Hid (wrap64 (bits .and .u64 ((lo:Int)/2^(127 - k)) 1)=(bitW (zaL hi lo) k:Nat)):=by
   show _=_
   rw [z9C _ _ f,bit_lo (hi:=hi) k m o]
  clear i
  go_enter Tryz.func246,Tryz.ntmps246
  go_wp2
  all_goals go_ret
  all_goals exact ⟨retV (show Value.int .i64 _=_ by rw [d.out]),(ykN _ _).alloc (ykK _) _⟩
theorem zvM (hi lo:Nat) (n i:Int) (w:World) (d:hi<18446744073709551616) (f:lo<18446744073709551616):
  Calls Tryz.prog 246 #[.agg #[.int .u64 hi,.int .u64 lo,.int .i64 n],.int .i64 i] w fun e w'=>e= .returned (.int .i64 (bitZ (zaL hi lo) i))∧Below w.heap.size w w':=by
 by_cases h:i<0∨128≤i
 ·rw [show bitZ (zaL hi lo) i=0 from by unfold bitZ;rw [if_neg (by omega)]]
  exact ygT hi lo n i w h
 ·obtain ⟨k,rfl⟩:=Int.eq_ofNat_of_zero_le (show 0≤i by omega)
  rw [zgV _ _ (by omega)]
  exact z8I hi lo n k w d f (by omega)
theorem PT.right {t:PT} {Q k:Nat} (h:t.Inv Q k) {x:En} (d:x∈t.list):x.n≤128∧rt x.W x.n:=by
 have:=PT.bounds h x d;exact ⟨this.2.1,this.2.2.1⟩
def En.key (x:En) (P:Nat) (k:Int):Bool:=decide (x.W=P∧(x.n:Int)=k)
def befB (e x:En):Bool:=decide (e.W<x.W∨(e.W=x.W∧e.n<x.n))
theorem zpS {e x:En}:befB e x=true↔e.lt x:=by unfold befB En.lt;rw [decide_eq_true_iff]
def zpX (l:List En) (P:Nat) (k:Int):List En:=l.filter fun x=> !x.key P k
def getL:List En→Nat→Int→Option Int
 |[],_,_=>none
 |x::l,P,k=>if x.key P k=true then some x.v else getL l P k
def insL (e:En):List En→List En
 |[]=>[e]
 |x::l=>if befB e x=true then e::x::l else x::insL e l
def putL (l:List En) (P k:Nat) (v:Int):List En:=insL ⟨P,k,v⟩ (zpX l P k)
theorem zmH {x:En} {P k:Nat}:x.key P k=true↔x.W=P∧x.n=k:=by
 unfold En.key;rw [decide_eq_true_iff];constructor<;>rintro ⟨a,b⟩<;>exact ⟨a,by omega⟩
theorem zrB {l:List En} {P k:Nat} {x:En}:x∈zpX l P k↔x∈l∧ ¬(x.W=P∧x.n=k):=by
 unfold zpX;rw [List.mem_filter,←zmH];simp
theorem zqK {e:En}: ∀{l:List En} {x:En},x∈insL e l↔x=e∨x∈l
 |[],x=>by simp [insL]
 |y::l,x=>by
  unfold insL
  by_cases c:befB e y=true
  ·rw [if_pos c];simp
  ·rw [if_neg c,List.mem_cons,zqK,List.mem_cons]
   constructor
   ·rintro (h|h|h)
    ·exact .inr (.inl h)
    ·exact .inl h
    ·exact .inr (.inr h)
   ·rintro (h|h|h)
    ·exact .inr (.inl h)
    ·exact .inl h
    ·exact .inr (.inr h)
theorem zzB (e:En): ∀l:List En,(insL e l).length=l.length+1
 |[]=>rfl
 |y::l=>by
  unfold insL
  split
  ·simp
  ·simp [zzB e l]
theorem lt_or {e x:En} (h: ¬(x.W=e.W∧x.n=e.n)) (d: ¬e.lt x):x.lt e:=by unfold En.lt at*;omega
theorem zmG {e:En}: ∀{l:List En},l.Pairwise En.lt→(∀x∈l,¬(x.W=e.W∧x.n=e.n))→(insL e l).Pairwise En.lt
 |[],_,_=>List.pairwise_singleton _ _
 |y::l,h,f=>by
  rw [List.pairwise_cons] at h
  unfold insL
  by_cases c:befB e y=true
  ·rw [if_pos c]
   refine List.Pairwise.cons (fun x d=> ?_) (List.pairwise_cons.2 h)
   rcases List.mem_cons.1 d with g|g
   ·rw [g];exact zpS.1 c
   ·exact En.lt_trans (zpS.1 c) (h.1 x g)
  ·rw [if_neg c]
   refine List.Pairwise.cons (fun x d=> ?_) (zmG h.2 (fun x d=>f x (List.mem_cons_of_mem _ d)))
   rcases zqK.1 d with g|g
   ·rw [g];exact lt_or (f y (ykO ..)) (fun q=>c (zpS.2 q))
   ·exact h.1 x g
theorem ztK {l:List En} (h:l.Pairwise En.lt) (P:Nat) (k:Int):(zpX l P k).Pairwise En.lt:=h.filter _
theorem zwU {l:List En} (h:l.Pairwise En.lt) (P k:Nat) (v:Int):(putL l P k v).Pairwise En.lt:=
 zmG (ztK h P k) (fun _ d=>(zrB.1 d).2)
theorem PT.put_list {t:PT} (h:t.Inv 0 0) {P k:Nat} {v:Int} (f:k≤128) (d:rt P k) (hP:P<2^128):(t.put P k v).list=putL t.list P k v:=
 ztY (PT.sorted (PT.put_inv h f d (zuB hP) (Nat.zero_le _))) (zwU (PT.sorted h) P k v)
  (fun x=>by rw [PT.put_mem h f d x,putL,zqK,zrB])
theorem zlU {P:Nat} {k:Int}: ∀{l:List En} {v:Int},getL l P k=some v→ ∃x∈l,x.key P k=true∧x.v=v
 |[],_,h=>by cases h
 |x::l,v,h=>by
  unfold getL at h
  by_cases c:x.key P k=true
  ·rw [if_pos c] at h;exact ⟨x,ykO ..,c,Option.some.inj h⟩
  ·rw [if_neg c] at h
   obtain ⟨y,d,g⟩:=zlU h
   exact ⟨y,List.mem_cons_of_mem _ d,g⟩
theorem zmI {P:Nat} {k:Int}: ∀{l:List En},getL l P k=none→ ∀x∈l,x.key P k=false
 |[],_,x,d=>by cases d
 |y::l,h,x,d=>by
  unfold getL at h
  by_cases c:y.key P k=true
  ·rw [if_pos c] at h;cases h
  ·rw [if_neg c] at h
   rcases List.mem_cons.1 d with g|g
   ·rw [g];simpa using c
   ·exact zmI h x g
theorem PT.get_list {t:PT} (h:t.Inv 0 0) (P:Nat) (k:Int):t.get P k=getL t.list P k:=by
 cases d:zaN P k with
 |false=>
  rw [PT.get_wrong h d]
  cases e:getL t.list P k with
  |none=>rfl
  |some v=>
   obtain ⟨x,f,g,_⟩:=zlU e
   unfold En.key at g
   rw [decide_eq_true_iff] at g
   have:=PT.right h f
   rw [←g.1,←g.2,zbU.2 this] at d
   cases d
 |true=>
  have m:0≤k:=by unfold zaN at d;rw [decide_eq_true_iff] at d;exact d.1
  obtain ⟨n,rfl⟩:=Int.eq_ofNat_of_zero_le m
  obtain ⟨o,r2⟩:=zbU.1 d
  have i:=PT.get_mem h o r2
  cases e:getL t.list P (n:Int) with
  |none=>
   cases j:t.get P (n:Int) with
   |none=>rfl
   |some v=>have:=zmI e _ ((i v).1 j);rw [zmH.2 ⟨rfl,rfl⟩] at this;cases this
  |some v=>
   obtain ⟨x,f,g,rfl⟩:=zlU e
   obtain ⟨rfl,rfl⟩:=zmH.1 g
   exact (i x.v).2 f
theorem zoZ {l:List En} {P:Nat} {k:Int} (h:getL l P k=none):zpX l P k=l:=by
 unfold zpX
 rw [List.filter_eq_self]
 intro x d
 rw [zmI h x d];rfl
theorem zsG: ∀{l:List En},l.Pairwise En.lt→ ∀{P k:Nat} {v:Int},getL l P k=some v→(zpX l P k).length+1=l.length
 |[],_,_,_,_,h=>by cases h
 |x::l,d,P,k,v,h=>by
  rw [List.pairwise_cons] at d
  unfold getL at h
  by_cases c:x.key P k=true
  ·have m:getL l P k=none:=by
    cases e:getL l P k with
    |none=>rfl
    |some u=>
     obtain ⟨y,i,g,_⟩:=zlU e
     have o:=zmH.1 g
     have A:=zmH.1 c
     have:=d.1 y i
     unfold En.lt at this;omega
   have:=zoZ m
   unfold zpX at this ⊢
   rw [List.filter_cons,c];simp [this]
  ·rw [if_neg c] at h
   have f:=zsG d.2 h
   have j:x.key P k=false:=by simpa using c
   unfold zpX at f ⊢
   rw [List.filter_cons,j];simp;exact f
theorem zqP {l:List En} (d:l.Pairwise En.lt) (P k:Nat) (v:Int):(putL l P k v).length=if (getL l P k).isSome=true then l.length else l.length+1:=by
 unfold putL
 rw [zzB]
 cases e:getL l P k with
 |none=>simp [zoZ e]
 |some u=>simp [zsG d e]
end
end Go.Proofs.YtegmcmgndllmaaaGreatDoor
