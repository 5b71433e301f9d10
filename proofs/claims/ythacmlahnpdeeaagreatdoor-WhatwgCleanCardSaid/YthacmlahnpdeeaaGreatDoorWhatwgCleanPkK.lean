/-
  What the law WhatwgClean leans on, and its walk (11 of 31).
-/
import Derived.Test.YthacmlahnpdeeaaGreatDoorChecked
import Derived.WalkKit
import Derived.WalkLawsBesides
import Derived.BigQuiet
import Derived.Deep.QuietTactic
import Derived.Deep.RegionHeld3
import Derived.Deep.DeepCutAuto
import Derived.Lib.Hide
import Derived.Lib.OthersKept
namespace Go.Proofs.YthacmlahnpdeeaaGreatDoor
set_option maxRecDepth 100000
set_option maxHeartbeats 16000000
theorem tkK {P : Program} {md : Region.Mode} {ops : Array Oper} {Q : Exit → Act → World → Prop} {S : World → Prop} (i : Nat) (s : Option Nat) {op : Op} {ty : TypeId} {pos : String} {af : _} {gd : _} {v : Value} {fuel : Nat} {listed : Array Bool} {a : Act} {w : World} (hi : ops[i]? = some ⟨s, op, ty, pos, af, gd⟩)
 (hy : YieldsIf P ops S ⟨s, op, ty, pos, af, gd⟩ v a) (hS : S w)
 (h : wpAnyH P md ops Q S fuel (listed.setIfInBounds i true) (a.put s v) w)
 (hs : Region.noSelect ops = true := by kernel_rfl) (hf : Region.free md ops listed i = true := by kernel_rfl) (hr : (Region.ready md ops listed).contains i = true := by kernel_rfl)
 (hQ : ∀ c a w, Q (.panic c) (a.put s v) w → Q (.panic c) a w := by exact fun _ _ _ h => h) : wpAnyH P md ops Q S (fuel + 1) listed a w :=
 wpAnyH_take hi hs hf hr hQ hy hS h
theorem tkKa {α : Type _} (l : List α) (i : Nat) (a : α) : l.toArray.setIfInBounds i a = (l.set i a).toArray := List.setIfInBounds_toArray ..
theorem tkKb {α : Type _} (x y : α) (l : List α) : (x :: l).set 0 y = y :: l := rfl
theorem tkKc {α : Type _} (x y : α) (l : List α) (n : Nat) : (x :: l).set (n + 1) y = x :: l.set n y := rfl
section
open Go.RowKit
def zaH (hi lo:Nat):Nat:=hi*2^64+lo
def bitW (W i:Nat):Nat:=W/2^(127 - i) % 2
/-- the number of the prefix of the length n -/
def ofW (W n:Nat):Nat:=W/2^(128 - n)*2^(128 - n)
def rightW (W n:Nat):Prop:=n≤128∧W % 2^(128 - n)=0
theorem yeL {hi lo:Nat} (l:lo<2^64):zaH hi lo/2^64=hi:=by unfold zaH;omega
theorem bit_hi {hi lo:Nat} (l:lo<2^64) (i:Nat) (h:i<64):hi/2^(63 - i) % 2=bitW (zaH hi lo) i:=by
 unfold bitW
 rw [show 127 - i=64+(63 - i) from by omega,Nat.pow_add,←Nat.div_div_eq_div_mul,yeL l]
theorem bit_lo {hi lo:Nat} (i:Nat) (h:64≤i) (h2:i<128):lo/2^(127 - i) % 2=bitW (zaH hi lo) i:=by
 unfold bitW zaH
 have e:hi*2^64=2^(127 - i)*(hi*2^(i - 64)*2):=by
  rw [show (2:Nat)^64=2^(127 - i)*(2^(i - 64)*2) from by rw [←Nat.pow_succ,←Nat.pow_add];congr 1;omega]
  rw [Nat.mul_left_comm,Nat.mul_assoc]
 rw [e,Nat.add_comm,Nat.add_mul_div_left _ _ (Nat.pow_pos (by decide)),Nat.add_mul_mod_self_right]
theorem zcX (W i:Nat):bitW W i=0∨bitW W i=1:=by unfold bitW;omega
theorem yeK (X i:Nat) (h:i<128):X/2^(128 - (i+1))=2*(X/2^(128 - i))+bitW X i:=by
 unfold bitW
 rw [show 128 - (i+1)=127 - i from by omega,show 128 - i=(127 - i)+1 from by omega,Nat.pow_succ,←Nat.div_div_eq_div_mul]
 omega
theorem ydD (W n:Nat):ofW W n/2^(128 - n)=W/2^(128 - n):=Nat.mul_div_cancel _ (Nat.pow_pos (by decide))
theorem ofW_le (W n:Nat):ofW W n≤W:=Nat.div_mul_le_self _ _
theorem z2J {W n:Nat} (h:rightW W n):ofW W n=W:=by
 unfold ofW
 have:=Nat.div_add_mod W (2^(128 - n))
 rw [h.2,Nat.add_zero,Nat.mul_comm] at this
 exact this
/-- a shorter length of a number sees less -/
theorem ztY {P A n m:Nat} (hn:n≤m) (hm:m≤128) (h:P/2^(128 - m)=A/2^(128 - m)):P/2^(128 - n)=A/2^(128 - n):=by
 have e:(2:Nat)^(128 - n)=2^(128 - m)*2^(m - n):=by rw [←Nat.pow_add];congr 1;omega
 rw [e,←Nat.div_div_eq_div_mul,←Nat.div_div_eq_div_mul,h]
theorem ybQ (W n m:Nat) (hn:n≤m) (hm:m≤128):ofW W m/2^(128 - n)=W/2^(128 - n):=ztY hn hm (ydD W m)
end

section
open Go.RowKit
/-- the n highest bits -/
def qt (X n:Nat):Nat:=X/2^(128 - n)
def bitZ (W:Nat) (i:Int):Int:=if 0≤i∧i<128 then (bitW W i.toNat:Int) else 0
def zaM (W:Nat) (n:Int):Bool:=decide (0≤n∧n≤128∧W % 2^(128 - n.toNat)=0)
def zfP (P:Nat) (n:Int) (A:Nat):Bool:=zaM P n&&decide (qt P n.toNat=qt A n.toNat)
def zbW (P:Nat) (n:Int) (Q:Nat) (m:Int):Bool:=zaM P n&&(zaM Q m&&(decide (n≤m)&&decide (qt P n.toNat=qt Q n.toNat)))
theorem zeE (X n:Nat) (h:n<128):qt X (n+1)=2*qt X n+bitW X n:=yeK X n h
theorem zxE {X:Nat} (h:X<2^128):qt X 0=0:=Nat.div_eq_of_lt h
theorem ylT {X:Nat} (h:qt X 0=0):X<2^128:=by
 have h':X/2^128=0:=h
 rcases Nat.div_eq_zero_iff.1 h' with h2|h2
 ·exact absurd h2 (by decide)
 ·exact h2
theorem zhK {P A n m:Nat} (hn:n≤m) (hm:m≤128) (h:qt P m=qt A m):qt P n=qt A n:=ztY hn hm h
theorem zfV (W n:Nat) (h:n<128):bitZ W n=bitW W n:=by
 unfold bitZ;rw [if_pos ⟨by omega,by omega⟩];simp
theorem ygL (W:Nat):bitZ W (128:Nat)=0:=by unfold bitZ;rw [if_neg (by omega)]
theorem zkK (W:Nat) (i:Int):bitZ W i=0∨bitZ W i=1:=by
 unfold bitZ;split
 ·rcases zcX W i.toNat with h|h<;>rw [h]<;>simp
 ·exact .inl rfl
def rt (W n:Nat):Prop:=W % 2^(128 - n)=0
theorem yiD {W n:Nat} (h:rt W n):W=qt W n*2^(128 - n):=by
 unfold rt at h;unfold qt
 have:=Nat.div_add_mod W (2^(128 - n))
 rw [h,Nat.add_zero,Nat.mul_comm] at this
 exact this.symm
theorem zoQ {W P n:Nat} (h:rt W n) (h2:rt P n) (e:qt W n=qt P n):W=P:=by rw [yiD h,yiD h2,e]
theorem rt_le {W X n:Nat} (h:rt W n) (e:qt W n=qt X n):W≤X:=by
 rw [yiD h,e];exact Nat.div_mul_le_self _ _
theorem yfI {X Y n:Nat} (h:qt X n<qt Y n):X<Y:=by
 rcases Nat.lt_or_ge X Y with h1|h1
 ·exact h1
 ·have:=Nat.div_le_div_right (c:=2^(128 - n)) h1
  unfold qt at h;omega
theorem zcE {W n:Nat}:zaM W n=true↔n≤128∧rt W n:=by
 unfold zaM rt;rw [decide_eq_true_iff]
 constructor
 ·rintro ⟨_,h2,h3⟩;exact ⟨by omega,by simpa using h3⟩
 ·rintro ⟨h2,h3⟩;exact ⟨by omega,by omega,by simpa using h3⟩
theorem zlA {P n A:Nat}:zfP P n A=true↔(n≤128∧rt P n)∧qt P n=qt A n:=by
 unfold zfP;rw [Bool.and_eq_true,zcE,decide_eq_true_iff];simp
theorem zdN {P n Q m:Nat}:zbW P n Q m=true↔(n≤128∧rt P n)∧(m≤128∧rt Q m)∧n≤m∧qt P n=qt Q n:=by
 unfold zbW;rw [Bool.and_eq_true,Bool.and_eq_true,Bool.and_eq_true,zcE,zcE,decide_eq_true_iff,decide_eq_true_iff];simp
theorem zsE (X n:Nat):rt (ofW X n) n:=Nat.mul_mod_left _ _
theorem ztS (X n:Nat):qt (ofW X n) n=qt X n:=ydD X n
structure En where
 W:Nat
 n:Nat
 v:Int
deriving DecidableEq
def En.lt (x y:En):Prop:=x.W<y.W∨(x.W=y.W∧x.n<y.n)
inductive PT where
 |nil
 |node (W n:Nat) (v:Int) (h:Bool) (l r:PT)
def PT.list:PT→List En
 | .nil=>[]
 | .node W n v h l r=>(if h=true then [⟨W,n,v⟩] else [])++(l.list++r.list)
def PT.Inv:PT→Nat→Nat→Prop
 | .nil,_,_=>True
 | .node W n _ h l r,Q,k=>(k≤n∧n≤128∧rt W n∧qt W k=Q)∧l.Inv (2*qt W n) (n+1)∧r.Inv (2*qt W n+1) (n+1)∧(h=false→l≠ .nil∧r≠ .nil)
theorem PT.mem_node {x:En} {W n:Nat} {v:Int} {h:Bool} {l r:PT}:x∈(PT.node W n v h l r).list↔(h=true∧x=⟨W,n,v⟩)∨x∈l.list∨x∈r.list:=by
 cases h<;>simp [PT.list]
theorem PT.bounds: ∀{t:PT} {Q k:Nat},t.Inv Q k→ ∀x∈t.list,k≤x.n∧x.n≤128∧rt x.W x.n∧qt x.W k=Q
 | .nil,_,_,_,x,hx=>by cases hx
 | .node W n v h l r,Q,k,⟨⟨h1,h2,h3,h4⟩,hl,hr,_⟩,x,hx=>by
  rcases PT.mem_node.1 hx with ⟨_,rfl⟩|hx|hx
  ·exact ⟨h1,h2,h3,h4⟩
  ·obtain ⟨a,b,c,d⟩:=PT.bounds hl x hx
   have:=zeE x.W n (by omega)
   have hb:=zcX x.W n
   have e:qt x.W n=qt W n:=by omega
   exact ⟨by omega,b,c,by rw [zhK h1 h2 e];exact h4⟩
  ·obtain ⟨a,b,c,d⟩:=PT.bounds hr x hx
   have:=zeE x.W n (by omega)
   have hb:=zcX x.W n
   have e:qt x.W n=qt W n:=by omega
   exact ⟨by omega,b,c,by rw [zhK h1 h2 e];exact h4⟩
/-- what lies on a side -/
theorem PT.side {t:PT} {q n b:Nat} (h:t.Inv (2*q+b) (n+1)) (hb:b<2) {x:En} (hx:x∈t.list):n<x.n∧x.n≤128∧rt x.W x.n∧qt x.W n=q∧bitW x.W n=b∧qt x.W (n+1)=2*q+b:=by
 obtain ⟨a,b',c,d⟩:=PT.bounds h x hx
 have:=zeE x.W n (by omega)
 have hb:=zcX x.W n
 exact ⟨by omega,b',c,by omega,by omega,d⟩
theorem PT.sorted: ∀{t:PT} {Q k:Nat},t.Inv Q k→t.list.Pairwise En.lt
 | .nil,_,_,_=>List.Pairwise.nil
 | .node W n v h l r,Q,k,⟨⟨h1,h2,h3,h4⟩,hl,hr,_⟩=>by
  have hl':l.Inv (2*qt W n+0) (n+1):=hl
  have key:(l.list++r.list).Pairwise En.lt:=by
   rw [List.pairwise_append]
   refine ⟨PT.sorted hl,PT.sorted hr,fun x hx y hy=> ?_⟩
   have a:=PT.side hl' (by omega) hx
   have b:=PT.side hr (by omega) hy
   exact .inl (yfI (n:=n+1) (by omega))
  show ((if h=true then [(⟨W,n,v⟩:En)] else [])++(l.list++r.list)).Pairwise En.lt
  cases h with
  |false=>exact key
  |true=>
   refine List.Pairwise.cons (fun x hx=> ?_) key
   have:n<x.n∧qt x.W n=qt W n:=by
    rcases List.mem_append.1 (show x∈l.list++r.list by simpa using hx) with hx|hx
    ·have a:=PT.side hl' (by omega) hx;exact ⟨a.1,a.2.2.2.1⟩
    ·have a:=PT.side hr (by omega) hx;exact ⟨a.1,a.2.2.2.1⟩
   have hle:=rt_le h3 this.2.symm
   rcases Nat.lt_or_ge W x.W with h5|h5
   ·exact .inl h5
   ·exact .inr ⟨by show W=x.W;omega,this.1⟩
theorem En.lt_irrefl (x:En): ¬x.lt x:=by unfold En.lt;omega
theorem En.lt_trans {x y z:En} (h:x.lt y) (h2:y.lt z):x.lt z:=by unfold En.lt at*;omega
/-- two rising lists with the same members are one -/
theorem zvC: ∀{a b:List En},a.Pairwise En.lt→b.Pairwise En.lt→(∀x,x∈a↔x∈b)→a=b
 |[],[],_,_,_=>rfl
 |[],y::b,_,_,h=>by have:=(h y).2 (List.mem_cons_self ..);cases this
 |x::a,[],_,_,h=>by have:=(h x).1 (List.mem_cons_self ..);cases this
 |x::a,y::b,ha,hb,h=>by
  rw [List.pairwise_cons] at ha hb
  have e:x=y:=by
   rcases List.mem_cons.1 ((h x).1 (List.mem_cons_self ..)) with e|e
   ·exact e
   ·rcases List.mem_cons.1 ((h y).2 (List.mem_cons_self ..)) with e'|e'
    ·exact e'.symm
    ·exact absurd (En.lt_trans (ha.1 y e') (hb.1 x e)) (En.lt_irrefl x)
  subst e
  rw [zvC ha.2 hb.2 (fun z=>⟨fun hz=> ?_,fun hz=> ?_⟩)]
  ·rcases List.mem_cons.1 ((h z).1 (List.mem_cons_of_mem _ hz)) with e|e
   ·subst e;exact absurd (ha.1 z hz) (En.lt_irrefl z)
   ·exact e
  ·rcases List.mem_cons.1 ((h z).2 (List.mem_cons_of_mem _ hz)) with e|e
   ·subst e;exact absurd (hb.1 z hz) (En.lt_irrefl z)
   ·exact e
/-- the verdict -/
def PT.get:PT→Nat→Int→Option Int
 | .nil,_,_=>none
 | .node W n v h l r,P,k=>if W=P∧(n:Int)=k then (if h=true then some v else none)
  else if zbW W n P k=true then (if bitZ P n=0 then l.get P k else r.get P k) else none
theorem PT.get_mem: ∀{t:PT} {Q k0:Nat},t.Inv Q k0→ ∀{P k:Nat},k≤128→rt P k→ ∀v,t.get P k=some v↔(⟨P,k,v⟩:En)∈t.list
 | .nil,_,_,_,P,k,_,_,v=>by simp [PT.get,PT.list]
 | .node W n u h l r,Q,k0,⟨⟨h1,h2,h3,h4⟩,hl,hr,_⟩,P,k,hk,hp,v=>by
  have hl':l.Inv (2*qt W n+0) (n+1):=hl
  rw [PT.mem_node]
  unfold PT.get
  by_cases e:W=P∧(n:Int)=k
  ·rw [if_pos e]
   have nl:(⟨P,k,v⟩:En)∉l.list:=fun hx=>by have:=(PT.side hl' (by omega) hx).1;simp at this;omega
   have nr:(⟨P,k,v⟩:En)∉r.list:=fun hx=>by have:=(PT.side hr (by omega) hx).1;simp at this;omega
   obtain ⟨rfl,e2⟩:=e
   have e2:n=k:=by omega
   subst e2
   cases h with
   |false=>simp [nl,nr]
   |true=>simp [nl,nr,eq_comm]
  ·rw [if_neg e]
   have nx: ¬(h=true∧(⟨P,k,v⟩:En)=⟨W,n,u⟩):=by
    rintro ⟨_,e2⟩
    injection e2 with a b _
    exact e ⟨a.symm,by omega⟩
   by_cases c:zbW W n P k=true
   ·rw [if_pos c]
    have cc:=zdN.1 c
    have c1:=cc.2.2.1
    have c2:=cc.2.2.2
    have hlt:n<k:=by
     rcases Nat.lt_or_ge n k with g|g
     ·exact g
     ·have:n=k:=by omega
      subst this
      exact absurd ⟨zoQ h3 hp c2,rfl⟩ e
    rw [zfV P n (by omega)]
    have hb:=zcX P n
    by_cases b0:(bitW P n:Int)=0
    ·rw [if_pos b0,PT.get_mem hl hk hp v]
     have nr:(⟨P,k,v⟩:En)∉r.list:=fun hx=>by have:=(PT.side hr (by omega) hx).2.2.2.2.1;simp at this;omega
     constructor
     ·exact fun g=> .inr (.inl g)
     ·rintro (g|g|g)
      ·exact absurd g nx
      ·exact g
      ·exact absurd g nr
    ·rw [if_neg b0,PT.get_mem hr hk hp v]
     have nl:(⟨P,k,v⟩:En)∉l.list:=fun hx=>by have:=(PT.side hl' (by omega) hx).2.2.2.2.1;simp at this;omega
     constructor
     ·exact fun g=> .inr (.inr g)
     ·rintro (g|g|g)
      ·exact absurd g nx
      ·exact absurd g nl
      ·exact g
   ·rw [if_neg c]
    constructor
    ·intro g;cases g
    ·rintro (g|g|g)
     ·exact absurd g nx
     ·obtain ⟨a1,a2,a3,a4,_⟩:=PT.side hl' (by omega) g
      exact absurd (zdN.2 ⟨⟨h2,h3⟩,⟨hk,hp⟩,by simp at a1;omega,a4.symm⟩) c
     ·obtain ⟨a1,a2,a3,a4,_⟩:=PT.side hr (by omega) g
      exact absurd (zdN.2 ⟨⟨h2,h3⟩,⟨hk,hp⟩,by simp at a1;omega,a4.symm⟩) c
theorem PT.get_wrong: ∀{t:PT} {Q k0:Nat},t.Inv Q k0→ ∀{P:Nat} {k:Int},zaM P k=false→t.get P k=none
 | .nil,_,_,_,_,_,_=>rfl
 | .node W n u h l r,Q,k0,⟨⟨h1,h2,h3,h4⟩,hl,hr,_⟩,P,k,hp=>by
  unfold PT.get
  rw [if_neg (fun e=>by obtain ⟨rfl,rfl⟩:=e;rw [zcE.2 ⟨h2,h3⟩] at hp;cases hp),if_neg (by unfold zbW;rw [hp];simp)]
/-- how many highest bits two numbers share,from i on,at most f -/
def zcW (W P:Nat):Nat→Nat→Nat
 |i,0=>i
 |i,f+1=>if bitW W i=bitW P i then zcW W P (i+1) f else i
def zbM (W n P k:Nat):Nat:=zcW W P 0 (min n k)
theorem zoP (W P:Nat): ∀(f i:Nat),i≤zcW W P i f∧zcW W P i f≤i+f∧(∀j,i≤j→j<zcW W P i f→bitW W j=bitW P j)∧(zcW W P i f=i+f∨bitW W (zcW W P i f)≠bitW P (zcW W P i f))
 |0,i=>⟨Nat.le_refl _,Nat.le_refl _,fun j h1 h2=>by unfold zcW at h2;omega,.inl rfl⟩
 |f+1,i=>by
  unfold zcW
  by_cases h:bitW W i=bitW P i
  ·rw [if_pos h]
   obtain ⟨a,b,c,d⟩:=zoP W P f (i+1)
   refine ⟨by omega,by omega,fun j h1 h2=> ?_,d.imp (fun e=>by omega) id⟩
   rcases Nat.lt_or_ge i j with g|g
   ·exact c j g h2
   ·rw [show j=i from by omega];exact h
  ·rw [if_neg h]
   exact ⟨Nat.le_refl _,by omega,fun j h1 h2=>by omega,.inr h⟩
theorem zqZ {W P:Nat} (hw:qt W 0=qt P 0): ∀m,m≤128→(∀j,j<m→bitW W j=bitW P j)→qt W m=qt P m
 |0,_,_=>hw
 |m+1,hm,h=>by rw [zeE W m (by omega),zeE P m (by omega),zqZ hw m (by omega) (fun j hj=>h j (by omega)),h m (by omega)]
theorem z9Z {W n P k:Nat} (hw:qt W 0=qt P 0) (hn:n≤128) (hk:k≤128):
  zbM W n P k≤n∧zbM W n P k≤k∧qt W (zbM W n P k)=qt P (zbM W n P k)∧(zbM W n P k=n∨zbM W n P k=k∨bitW W (zbM W n P k)≠bitW P (zbM W n P k)):=by
 obtain ⟨a,b,c,d⟩:=zoP W P (min n k) 0
 unfold zbM
 refine ⟨by omega,by omega,zqZ hw _ (by omega) (fun j hj=>c j (by omega) hj),?_⟩
 rcases d with d|d
 ·omega
 ·exact .inr (.inr d)
/-- a prefix is laid in -/
def PT.leaf (P k:Nat) (v:Int):PT:= .node P k v true .nil .nil
def PT.put:PT→Nat→Nat→Int→PT
 | .nil,P,k,v=> .leaf P k v
 | .node W n u h l r,P,k,v=>
  if W=P∧n=k then .node W n v true l r
  else if zbW W n P k=true then (if bitZ P n=0 then .node W n u h (l.put P k v) r else .node W n u h l (r.put P k v))
  else if zbM W n P k=k then (if bitZ W k=0 then .node P k v true (.node W n u h l r) .nil else .node P k v true .nil (.node W n u h l r))
  else if bitZ W (zbM W n P k)=0 then .node (ofW P (zbM W n P k)) (zbM W n P k) 0 false (.node W n u h l r) (.leaf P k v)
  else .node (ofW P (zbM W n P k)) (zbM W n P k) 0 false (.leaf P k v) (.node W n u h l r)
/-- where a node does not cover what is laid in,they part ahead of it -/
theorem ydB {W n P k:Nat} (hw:qt W 0=qt P 0) (hn:n≤128) (hr:rt W n) (hk:k≤128) (hp:rt P k) (c: ¬zbW W n P k=true):
  zbM W n P k<n∧zbM W n P k≤k∧qt W (zbM W n P k)=qt P (zbM W n P k)∧(zbM W n P k<k→bitW W (zbM W n P k)≠bitW P (zbM W n P k)):=by
 obtain ⟨a,b,d,f⟩:=z9Z (n:=n) (k:=k) hw hn hk
 have hlt:zbM W n P k<n:=by
  rcases Nat.lt_or_ge (zbM W n P k) n with g|g
  ·exact g
  ·have e1:zbM W n P k=n:=by omega
   rw [e1] at d b
   exact absurd (zdN.2 ⟨⟨hn,hr⟩,⟨hk,hp⟩,b,d⟩) c
 exact ⟨hlt,b,d,fun g=>by
  rcases f with f|f|f
  ·omega
  ·omega
  ·exact f⟩
theorem PT.put_ne: ∀{t:PT} {P k:Nat} {v:Int},t.put P k v≠ .nil
 | .nil,_,_,_=>by unfold PT.put PT.leaf;intro h;cases h
 | .node W n u h l r,P,k,v=>by
  unfold PT.put
  intro g
  split at g
  ·cases g
  ·split at g
   ·split at g<;>cases g
   ·split at g
    ·split at g<;>cases g
    ·split at g<;>cases g
theorem PT.put_inv: ∀{t:PT} {Q k0:Nat},t.Inv Q k0→ ∀{P k:Nat} {v:Int},k≤128→rt P k→qt P k0=Q→k0≤k→(t.put P k v).Inv Q k0
 | .nil,Q,k0,_,P,k,v,hk,hp,hq,h0=>by
  exact ⟨⟨h0,hk,hp,hq⟩,trivial,trivial,fun h=>by cases h⟩
 | .node W n u h l r,Q,k0,⟨⟨h1,h2,h3,h4⟩,hl,hr,hh⟩,P,k,v,hk,hp,hq,h0=>by
  have hw:qt W 0=qt P 0:=zhK (Nat.zero_le k0) (by omega) (h4.trans hq.symm)
  unfold PT.put
  by_cases e:W=P∧n=k
  ·rw [if_pos e]
   exact ⟨⟨h1,h2,h3,h4⟩,hl,hr,fun h=>by cases h⟩
  rw [if_neg e]
  by_cases c:zbW W n P k=true
  ·rw [if_pos c]
   have cc:=zdN.1 c
   have c1:=cc.2.2.1
   have c2:=cc.2.2.2
   have hlt:n<k:=by
    rcases Nat.lt_or_ge n k with g|g
    ·exact g
    ·have:n=k:=by omega
     subst this
     exact absurd ⟨zoQ h3 hp c2,rfl⟩ e
   rw [zfV P n (by omega)]
   have hs:=zeE P n (by omega)
   have hb:=zcX P n
   by_cases b0:(bitW P n:Int)=0
   ·rw [if_pos b0]
    exact ⟨⟨h1,h2,h3,h4⟩,PT.put_inv hl hk hp (by omega) hlt,hr,fun g=>⟨PT.put_ne,(hh g).2⟩⟩
   ·rw [if_neg b0]
    exact ⟨⟨h1,h2,h3,h4⟩,hl,PT.put_inv hr hk hp (by omega) hlt,fun g=>⟨(hh g).1,PT.put_ne⟩⟩
  ·rw [if_neg c]
   obtain ⟨p1,p2,p3,p4⟩:=ydB hw h2 h3 hk hp c
   have hm0:k0≤zbM W n P k:=by
    rcases Nat.lt_or_ge (zbM W n P k) k with g|g
    ·rcases Nat.lt_or_ge (zbM W n P k) k0 with g2|g2
     ·have e1:=zhK (show zbM W n P k+1≤k0 by omega) (by omega) (h4.trans hq.symm)
      rw [zeE W _ (by omega),zeE P _ (by omega),p3] at e1
      exact absurd (by omega) (p4 g)
     ·exact g2
    ·omega
   have hs:=zeE W (zbM W n P k) (by omega)
   have hb:=zcX W (zbM W n P k)
   have hs2:=zeE P (zbM W n P k)
   have hb2:=zcX P (zbM W n P k)
   have hc:(zbM W n P k:Int)<128:=by omega
   have hz:=zfV W (zbM W n P k) (by omega)
   have hof:qt (ofW P (zbM W n P k)) k0=Q:=(ybQ P k0 (zbM W n P k) hm0 (by omega)).trans hq
   by_cases e2:zbM W n P k=k
   ·rw [if_pos e2]
    rw [e2] at hs hb p3 hz p1
    rw [hz]
    by_cases b0:(bitW W k:Int)=0
    ·rw [if_pos b0]
     exact ⟨⟨h0,hk,hp,hq⟩,⟨⟨by omega,h2,h3,by omega⟩,hl,hr,hh⟩,trivial,fun h=>by cases h⟩
    ·rw [if_neg b0]
     exact ⟨⟨h0,hk,hp,hq⟩,trivial,⟨⟨by omega,h2,h3,by omega⟩,hl,hr,hh⟩,fun h=>by cases h⟩
   ·rw [if_neg e2,hz]
    have p5:=p4 (by omega)
    have hs3:=hs2 (by omega)
    by_cases b0:(bitW W (zbM W n P k):Int)=0
    ·rw [if_pos b0]
     refine ⟨⟨hm0,by omega,zsE _ _,hof⟩,⟨⟨by omega,h2,h3,by rw [ztS];omega⟩,hl,hr,hh⟩,⟨⟨by omega,hk,hp,by rw [ztS];omega⟩,trivial,trivial,fun h=>by cases h⟩,fun _=>⟨(fun h=>by cases h),(fun h=>by cases h)⟩⟩
    ·rw [if_neg b0]
     refine ⟨⟨hm0,by omega,zsE _ _,hof⟩,⟨⟨by omega,hk,hp,by rw [ztS];omega⟩,trivial,trivial,fun h=>by cases h⟩,⟨⟨by omega,h2,h3,by rw [ztS];omega⟩,hl,hr,hh⟩,fun _=>⟨(fun h=>by cases h),(fun h=>by cases h)⟩⟩
theorem PT.mem_leaf {x:En} {P k:Nat} {v:Int}:x∈(PT.leaf P k v).list↔x=⟨P,k,v⟩:=by simp [PT.leaf,PT.list]
theorem PT.put_mem: ∀{t:PT} {Q k0:Nat},t.Inv Q k0→ ∀{P k:Nat} {v:Int},k≤128→rt P k→ ∀x,x∈(t.put P k v).list↔x=⟨P,k,v⟩∨(x∈t.list∧ ¬(x.W=P∧x.n=k))
 | .nil,_,_,_,P,k,v,_,_,x=>by
  unfold PT.put;rw [PT.mem_leaf];simp [PT.list]
 | .node W n u h l r,Q,k0,hi,P,k,v,hk,hp,x=>by
  obtain ⟨⟨h1,h2,h3,h4⟩,hl,hr,hh⟩:=id hi
  have hl':l.Inv (2*qt W n+0) (n+1):=hl
  have kl: ∀y∈l.list,¬(y.W=W∧y.n=n):=fun y hy g=>by have:=(PT.side hl' (by omega) hy).1;omega
  have kr: ∀y∈r.list,¬(y.W=W∧y.n=n):=fun y hy g=>by have:=(PT.side hr (by omega) hy).1;omega
  have gm:=PT.get_mem hi hk hp
  unfold PT.put
  by_cases e:W=P∧n=k
  ·rw [if_pos e,PT.mem_node,PT.mem_node]
   obtain ⟨rfl,rfl⟩:=e
   constructor
   ·rintro (⟨_,g⟩|g|g)
    ·exact .inl g
    ·exact .inr ⟨.inr (.inl g),kl x g⟩
    ·exact .inr ⟨.inr (.inr g),kr x g⟩
   ·rintro (g|⟨⟨_,g⟩|g|g,g2⟩)
    ·exact .inl ⟨rfl,g⟩
    ·rw [g] at g2;exact absurd ⟨rfl,rfl⟩ g2
    ·exact .inr (.inl g)
    ·exact .inr (.inr g)
  rw [if_neg e]
  by_cases c:zbW W n P k=true
  ·rw [if_pos c]
   have cc:=zdN.1 c
   have c1:=cc.2.2.1
   have c2:=cc.2.2.2
   have hlt:n<k:=by
    rcases Nat.lt_or_ge n k with g|g
    ·exact g
    ·have:n=k:=by omega
     subst this
     exact absurd ⟨zoQ h3 hp c2,rfl⟩ e
   rw [zfV P n (by omega)]
   have hb:=zcX P n
   have nx: ∀{y:En},y=⟨W,n,u⟩→ ¬(y.W=P∧y.n=k):=fun {y} g g2=>by rw [g] at g2;exact e g2
   by_cases b0:(bitW P n:Int)=0
   ·rw [if_pos b0,PT.mem_node,PT.mem_node,PT.put_mem hl hk hp x]
    have nr: ∀y∈r.list,¬(y.W=P∧y.n=k):=fun y hy g=>by have:=(PT.side hr (by omega) hy).2.2.2.2.1;rw [g.1] at this;omega
    constructor
    ·rintro (⟨g1,g⟩|(g|⟨g,g2⟩)|g)
     ·exact .inr ⟨.inl ⟨g1,g⟩,nx g⟩
     ·exact .inl g
     ·exact .inr ⟨.inr (.inl g),g2⟩
     ·exact .inr ⟨.inr (.inr g),nr x g⟩
    ·rintro (g|⟨⟨g1,g⟩|g|g,g2⟩)
     ·exact .inr (.inl (.inl g))
     ·exact .inl ⟨g1,g⟩
     ·exact .inr (.inl (.inr ⟨g,g2⟩))
     ·exact .inr (.inr g)
   ·rw [if_neg b0,PT.mem_node,PT.mem_node,PT.put_mem hr hk hp x]
    have nl: ∀y∈l.list,¬(y.W=P∧y.n=k):=fun y hy g=>by have:=(PT.side hl' (by omega) hy).2.2.2.2.1;rw [g.1] at this;omega
    constructor
    ·rintro (⟨g1,g⟩|g|(g|⟨g,g2⟩))
     ·exact .inr ⟨.inl ⟨g1,g⟩,nx g⟩
     ·exact .inr ⟨.inr (.inl g),nl x g⟩
     ·exact .inl g
     ·exact .inr ⟨.inr (.inr g),g2⟩
    ·rintro (g|⟨⟨g1,g⟩|g|g,g2⟩)
     ·exact .inr (.inr (.inl g))
     ·exact .inl ⟨g1,g⟩
     ·exact .inr (.inl g)
     ·exact .inr (.inr (.inr ⟨g,g2⟩))
  ·rw [if_neg c]
   have none: ∀y∈(PT.node W n u h l r).list,¬(y.W=P∧y.n=k):=fun y hy g=>by
    have:=(gm y.v).2 (by rw [←g.1,←g.2];exact hy)
    unfold PT.get at this
    rw [if_neg (fun q=>e ⟨q.1,by omega⟩),if_neg c] at this
    cases this
   have key:x∈(PT.node W n u h l r).list↔(x∈(PT.node W n u h l r).list∧ ¬(x.W=P∧x.n=k)):=⟨fun g=>⟨g,none x g⟩,fun g=>g.1⟩
   rw [←key]
   by_cases e2:zbM W n P k=k
   ·rw [if_pos e2]
    split
    ·rw [PT.mem_node (h:=true)];simp [PT.list]
    ·rw [PT.mem_node (h:=true)];simp [PT.list]
   ·rw [if_neg e2]
    split
    ·rw [PT.mem_node (h:=false),PT.mem_leaf];simp [or_comm]
    ·rw [PT.mem_node (h:=false),PT.mem_leaf];simp
end

section
open Go.RowKit
/-- a prefix,of a wide number -/
def pfV (hi lo:Nat) (n:Int):Value:= .agg #[.int .u64 (hi:Int),.int .u64 (lo:Int),.int .i64 n]
def hiN (W:Nat):Nat:=W/18446744073709551616
def loN (W:Nat):Nat:=W % 18446744073709551616
def pfW (W:Nat) (n:Int):Value:=pfV (hiN W) (loN W) n
theorem zbS (W:Nat):zaH (hiN W) (loN W)=W:=by unfold zaH hiN loN;omega
theorem zfW {W:Nat} (h:W<2^128):hiN W<18446744073709551616:=by unfold hiN;omega
theorem zgD (W:Nat):loN W<18446744073709551616:=by unfold loN;omega
theorem zeS {hi lo:Nat} (l:lo<18446744073709551616):hiN (zaH hi lo)=hi:=by unfold zaH hiN;omega
theorem zfY {hi lo:Nat} (l:lo<18446744073709551616):loN (zaH hi lo)=lo:=by unfold zaH loN;omega
theorem znH {hi lo:Nat} (h:hi<18446744073709551616) (l:lo<18446744073709551616):zaH hi lo<2^128:=by unfold zaH;omega
theorem zkL {hi lo:Nat} (l:lo<18446744073709551616) (n:Int):pfW (zaH hi lo) n=pfV hi lo n:=by unfold pfW;rw [zeS l,zfY l]
theorem zkC {W P:Nat} (h1:hiN W=hiN P) (h2:loN W=loN P):W=P:=by rw [←zbS W,←zbS P,h1,h2]
def zoW (k:Nat):Nat:=2^64 - 2^(64 - k)
theorem zuS {k:Nat} (h:k≤64):2^k*2^(64 - k)=18446744073709551616:=by rw [←Nat.pow_add,show k+(64 - k)=64 from by omega]
theorem yhP (k:Nat):zoW k<18446744073709551616:=by
 have:0<2^(64 - k):=Nat.pow_pos (by decide)
 unfold zoW;omega
theorem yiI {k:Nat} (h:k≤64):18446744073709551615/2^k=2^(64 - k) - 1:=by
 have e:=zuS h
 have p1:0<2^k:=Nat.pow_pos (by decide)
 have p2:0<2^(64 - k):=Nat.pow_pos (by decide)
 generalize 2^k=a at*
 generalize 2^(64 - k)=b at*
 obtain ⟨c,rfl⟩: ∃c,b=c+1:=⟨b - 1,by omega⟩
 rw [Nat.mul_add,Nat.mul_one] at e
 rw [show 18446744073709551615=a*c+(a - 1) from by omega,Nat.mul_add_div p1,Nat.div_eq_of_lt (by omega)]
 omega
theorem xor64u (n:Nat) (h1:n≤18446744073709551615):bits .xor .u64 IntKind.u64.max (n:Int)=((18446744073709551615 - n:Nat):Int):=by
 have ha:n<2^64:=by omega
 have e1:BitVec.ofInt 64 18446744073709551615=BitVec.allOnes 64:=by decide
 show IntKind.u64.wrap (((BitVec.ofInt 64 18446744073709551615)^^^(BitVec.ofInt 64 (n:Int))).toNat:Int)=_
 rw [e1,BitVec.allOnes_xor,BitVec.toNat_not,BitVec.ofInt_natCast,BitVec.toNat_ofNat,Nat.mod_eq_of_lt ha,IntKind.wrap_u64]
 omega
theorem yfF {k:Nat} (h:k≤64):bits .xor .u64 IntKind.u64.max ((18446744073709551615:Int)/2^k)=(zoW k:Int):=by
 have e:((18446744073709551615:Int)/2^k)=((18446744073709551615/2^k:Nat):Int):=by simp
 have p2:0<2^(64 - k):=Nat.pow_pos (by decide)
 have p3:2^(64 - k)≤2^64:=Nat.pow_le_pow_right (by decide) (by omega)
 rw [e,yiI h,xor64u _ (by omega)]
 unfold zoW
 congr 1;omega
theorem z1L (x k:Nat) (hx:x<18446744073709551616):bits .and .u64 (x:Int) (zoW k:Int)=((x/2^(64 - k)*2^(64 - k):Nat):Int):=by
 rw [u64_and_nat x (zoW k) hx (yhP k)]
 congr 1
 have hk:zoW k=(2^(64 - (64 - k)) - 1)*2^(64 - k):=by
  have:=zuS (k:=64 - (64 - k)) (by omega)
  rw [show 64 - (64 - (64 - k))=64 - k from by omega] at this
  rw [Nat.sub_mul,this,Nat.one_mul];rfl
 apply Nat.eq_of_testBit_eq
 intro j
 rw [Nat.testBit_and,hk,Nat.testBit_mul_two_pow,Nat.testBit_mul_two_pow,Nat.testBit_two_pow_sub_one,Nat.testBit_div_two_pow]
 by_cases h:64 - k≤j
 ·rw [show j - (64 - k)+(64 - k)=j from by omega]
  by_cases h2:j<64
  ·simp [h,show j - (64 - k)<64 - (64 - k) from by omega]
  ·have:x.testBit j=false:=Nat.testBit_lt_two_pow (Nat.lt_of_lt_of_le hx (by rw [show 18446744073709551616=2^64 from by decide];exact Nat.pow_le_pow_right (by decide) (by omega)))
   simp [this]
 ·simp [h]
theorem yfY {hi lo:Nat} (l:lo<18446744073709551616) {n:Nat} (hn:n≤128):
  hiN (ofW (zaH hi lo) n)=hi/2^(64 - n)*2^(64 - n)∧loN (ofW (zaH hi lo) n)=lo/2^(64 - (n - 64))*2^(64 - (n - 64)):=by
 unfold ofW
 rcases Nat.lt_or_ge 64 n with h|h
 ·have e:(18446744073709551616:Nat)=2^(128 - n)*2^(n - 64):=by rw [←Nat.pow_add,show 128 - n+(n - 64)=64 from by omega]
  rw [show 64 - n=0 from by omega,show 64 - (n - 64)=128 - n from by omega]
  have hd:0<2^(128 - n):=Nat.pow_pos (by decide)
  have e3:zaH hi lo/2^(128 - n)*2^(128 - n)=hi*18446744073709551616+lo/2^(128 - n)*2^(128 - n):=by
   have q:zaH hi lo=2^(128 - n)*(2^(n - 64)*hi)+lo:=by
    unfold zaH
    rw [show (2:Nat)^64=18446744073709551616 from by decide,e]
    congr 1
    ac_rfl
   rw [q,Nat.mul_add_div hd,Nat.add_mul,e]
   congr 1
   ac_rfl
  have hle:lo/2^(128 - n)*2^(128 - n)≤lo:=Nat.div_mul_le_self _ _
  rw [e3]
  unfold hiN loN
  simp only [Nat.pow_zero,Nat.div_one,Nat.mul_one]
  constructor<;>omega
 ·have e:(2:Nat)^(128 - n)=18446744073709551616*2^(64 - n):=by rw [show 18446744073709551616=2^64 from by decide,←Nat.pow_add];congr 1;omega
  have e2:zaH hi lo/(18446744073709551616*2^(64 - n))=hi/2^(64 - n):=by
   rw [←Nat.div_div_eq_div_mul];congr 1;unfold zaH;omega
  rw [e,e2,show n - 64=0 from by omega,Nat.mul_left_comm]
  unfold hiN loN
  constructor
  ·rw [Nat.mul_div_cancel_left _ (by decide)]
  ·rw [Nat.mul_mod_right,Nat.div_eq_of_lt (show lo<2^(64 - 0) from l),Nat.zero_mul]
theorem retV {a b:Value} (h:a=b):Ending.returned a= .returned b:=by rw [h]
theorem z2U (n:Int) (w:World) (h0: -9223372036854775808≤n) (h1:n≤9223372036854775807):
  Calls Tryz.prog 270 #[.int .i64 n] w fun e w'=>e= .returned (.int .u64 (zoW n.toNat:Nat))∧w=w':=by
 by_cases a:n<0
 ·go_enter Tryz.func270,Tryz.ntmps270
  go_wp2
  all_goals go_ret
  all_goals exact ⟨retV (by rw [show n.toNat=0 from by omega];rfl),rfl⟩
 ·by_cases b:64<n
  ·go_enter Tryz.func270,Tryz.ntmps270
   go_wp2
   all_goals go_ret
   all_goals exact ⟨retV (by unfold zoW;rw [show 64 - n.toNat=0 from by omega];rfl),rfl⟩
  ·obtain ⟨k,rfl⟩:=Int.eq_ofNat_of_zero_le (show 0≤n by omega)
   have hk:k≤64:=by omega
   have HV:=Lib.hid (yfF hk)
   clear a b h0 h1
   go_enter Tryz.func270,Tryz.ntmps270
   go_wp2
   all_goals go_ret
   all_goals exact ⟨retV (show Value.int .u64 _=_ by rw [HV.out]),rfl⟩
theorem zhC (hi lo n:Nat) (w:World) (h1:hi<18446744073709551616) (h2:lo<18446744073709551616) (hn:n≤128):
  Calls Tryz.prog 260 #[.int .u64 hi,.int .u64 lo,.int .i64 n] w fun e w'=>e= .returned (pfW (ofW (zaH hi lo) n) n)∧Below w.heap.size w w':=by
 obtain ⟨o1,o2⟩:=yfY (hi:=hi) h2 hn
 have HP:Hid (pfW (ofW (zaH hi lo) n) n= .agg #[.int .u64 ((hi/2^(64 - n)*2^(64 - n):Nat):Int),.int .u64 ((lo/2^(64 - (n - 64))*2^(64 - (n - 64)):Nat):Int),.int .i64 n]):=by
  show pfV _ _ _=_
  rw [o1,o2];rfl
 have e3:((n:Int) - 64).toNat=n - 64:=by omega
 have H3:=Lib.hid e3
 have HA:=Lib.hid (z1L hi n h1)
 have HB:=Lib.hid (z1L lo (n - 64) h2)
 clear o1 o2 e3
 go_enter Tryz.func260,Tryz.ntmps260
 go_wp2_with fail
 refine (z2U _ _ (by omega) (by omega)).mono ?_
 rintro e x1 ⟨rfl,rfl⟩
 rw [Int.toNat_natCast]
 go_wp2_with fail
 refine (z2U _ _ (by omega) (by omega)).mono ?_
 rintro e x1 ⟨rfl,rfl⟩
 rw [H3.out]
 go_wp2
 refine bodyPost_ret (v:= .agg #[.int .u64 (bits .and .u64 (hi:Int) (zoW n:Nat)),.int .u64 (bits .and .u64 (lo:Int) (zoW (n - 64):Nat)),.int .i64 n]) (by simp [results,Tryz.results260,go_sem]) rfl ⟨?_,?_⟩
 ·rw [HP.out,HA.out,HB.out]
 ·exact ((Below.refl _ _).alloc (Nat.le_refl _) _)
end

section
open Go.RowKit
theorem zeX (u v:Array Value): ∀(p q:Operand) (W:World),(eqGuard .eql 235 p q (.agg u) (.agg v)).run Tryz.prog W= .ok () W:=by
 intro p q W;kernel_rfl
theorem eqPf (a b c a' b' c':Int): ∀W:World,(binOp .eql 235 (.agg #[.int .u64 a,.int .u64 b,.int .i64 c]) (.agg #[.int .u64 a',.int .u64 b',.int .i64 c'])).run Tryz.prog W= .ok (.bool (a==a'&&(b==b'&&c==c'))) W:=by
 intro W
 have e1:(Op.equal 235 (.agg #[.int .u64 a,.int .u64 b,.int .i64 c]) (.agg #[.int .u64 a',.int .u64 b',.int .i64 c'])).run Tryz.prog W= .ok (a==a'&&(b==b'&&c==c')) W:=by
  show (Op.equalIn 10000 235 _ _).run Tryz.prog W=_
  rw [run_equalIn_struct W 9999 235 _ _ (by kernel_rfl) (by kernel_rfl)]
  simp [Program.fieldsOf,Tryz.underlying235,Op.eqFields,go_sem,part,Tryz.sizeOf31,Tryz.isAgg31,Tryz.underlying31,Tryz.sizeOf3,Tryz.isAgg3,Tryz.underlying3]
  by_cases g1:a=a'<;>by_cases g2:b=b'<;>by_cases g3:c=c'<;>simp [g1,g2,g3]
 show ((Op.equal _ _ _>>=fun b=>pure (Value.bool b)):Sem Value).run _ _=_
 rw [Sem.run_bind,e1];rfl
theorem zfR (w:World) (a b c:Value) (t:TypeId): ∀W,Below (w.heap.size+1) (w.alloc (.cells #[a,b,c] t)) W→W.cell? ⟨w.heap.size,0,none⟩=some a∧W.cell? ⟨w.heap.size,1,none⟩=some b∧W.cell? ⟨w.heap.size,2,none⟩=some c:=fun W h=>by
 refine ⟨?_,?_,?_⟩
 all_goals
  rw [h.cell (p:=⟨w.heap.size,_,none⟩) (by show w.heap.size<_;omega)]
  simp [go_sem]
theorem zbL {w W:World} {o:Obj} (h:Below (w.heap.size+1) (w.alloc o) W):Below w.heap.size w W:=
 ((Below.refl _ _).alloc (Nat.le_refl _) o).trans (h.mono (Nat.le_succ _))
theorem zxJ {x:World} {n:Nat}:Below n x x.drew:=(Below.refl _ _).drew
theorem zdI {x:World} {n k:Nat}:Below n x (x.drewN k):=⟨rfl,rfl,rfl,Nat.le_refl _,fun _ _=>rfl⟩
theorem zgE {x W:World} {n:Nat} (hn:n≤x.heap.size) (h:Below x.drew.heap.size x.drew W):Below n x W:=(Below.refl _ _).drew.trans (h.mono hn)
theorem zhL {x y W:World} {n:Nat} (hn:n≤x.heap.size) (h:Below n x y) (h2:Below y.heap.size y W):Below n x W:=h.trans (h2.mono (Nat.le_trans hn h.size))
theorem ygN (hi lo n:Nat) (w:World) (h1:hi<18446744073709551616) (h2:lo<18446744073709551616) (hn:n≤128):
  Calls Tryz.prog 249 #[.agg #[.int .u64 hi,.int .u64 lo,.int .i64 n]] w fun e w'=>e= .returned (.bool (zaM (zaH hi lo) n))∧Below w.heap.size w w':=by
 obtain ⟨h',g1⟩: ∃x,hiN (ofW (zaH hi lo) n)=x:=⟨_,rfl⟩
 obtain ⟨l',g2⟩: ∃x,loN (ofW (zaH hi lo) n)=x:=⟨_,rfl⟩
 have HC:Hid (∀W,Calls Tryz.prog 260 #[.int .u64 hi,.int .u64 lo,.int .i64 n] W fun e w'=>e= .returned (.agg #[.int .u64 h',.int .u64 l',.int .i64 n])∧Below W.heap.size W w'):=fun W=>by
  have:=zhC hi lo n W h1 h2 hn
  unfold pfW at this
  rw [g1,g2] at this
  exact this
 have hb:((h':Int)==hi&&((l':Int)==lo&&(n:Int)==n))=zaM (zaH hi lo) n:=by
  rw [Bool.eq_iff_iff,zcE]
  simp only [Bool.and_eq_true,beq_iff_eq,and_true]
  constructor
  ·rintro ⟨a,b⟩
   refine ⟨hn,?_⟩
   have:ofW (zaH hi lo) n=zaH hi lo:=zkC (by rw [g1,zeS h2];omega) (by rw [g2,zfY h2];omega)
   rw [←this];exact zsE _ _
  ·rintro ⟨_,b⟩
   have:ofW (zaH hi lo) n=zaH hi lo:=z2J ⟨hn,b⟩
   rw [this,zeS h2] at g1
   rw [this,zfY h2] at g2
   omega
 have heq:=eqPf h' l' n hi lo n
 rw [hb] at heq
 have hg:=zeX
 have HKC:=Lib.hid (zfR w (.int .u64 hi) (.int .u64 lo) (.int .i64 n) 235)
 have t1:decide ((0:Int)≤n)=true:=decide_eq_true (by omega)
 have t2:decide ((n:Int)≤128)=true:=decide_eq_true (by omega)
 clear g1 g2 hb
 generalize zaM (zaH hi lo) n=b at*
 go_enter Tryz.func249,Tryz.ntmps249
 go_wp2
 go_region_held3 (fun W=>W.cell? ⟨w.heap.size,0,none⟩=some (.int .u64 hi)∧W.cell? ⟨w.heap.size,1,none⟩=some (.int .u64 lo)∧W.cell? ⟨w.heap.size,2,none⟩=some (.int .i64 n))
  (first|exact HKC.out _ zxJ|exact HKC.out _ (zgE (by simp) hb1))
  (first
   |(go_simp;go_at_call 260;((with_reducible refine (HC.out _).mono ?_);rintro e x1 ⟨rfl,hb1⟩)))
 go_wp2
 go_ret
 exact ⟨rfl,zbL (zgE (by simp) hb1)⟩
theorem ybZ (hi lo:Nat) (n:Int) (w:World) (hn:n<0∨128<n):
  Calls Tryz.prog 249 #[.agg #[.int .u64 hi,.int .u64 lo,.int .i64 n]] w fun e w'=>e= .returned (.bool false)∧Below w.heap.size w w':=by
 by_cases h0:n<0
 ·have t1:decide ((0:Int)≤n)=false:=decide_eq_false (by omega)
  clear hn
  go_enter Tryz.func249,Tryz.ntmps249
  go_wp2
  go_quiet (fail)
  go_wp2
  go_ret
  exact ⟨rfl,zbL zdI⟩
 ·have t1:decide ((0:Int)≤n)=true:=decide_eq_true (by omega)
  have t2:decide (n≤128)=false:=decide_eq_false (by omega)
  clear hn
  go_enter Tryz.func249,Tryz.ntmps249
  go_wp2
  go_quiet (fail)
  go_wp2
  go_ret
  exact ⟨rfl,zbL zdI⟩
theorem zoX {W:Nat} {n:Int} (h:n<0∨128<n):zaM W n=false:=by unfold zaM;rw [decide_eq_false_iff_not];omega
theorem zqW {W:Nat} {n:Int} (h:zaM W n=true):0≤n∧n≤128:=by unfold zaM at h;rw [decide_eq_true_iff] at h;omega
theorem zcA (hi lo:Nat) (n:Int) (w:World) (h1:hi<18446744073709551616) (h2:lo<18446744073709551616):
  Calls Tryz.prog 249 #[.agg #[.int .u64 hi,.int .u64 lo,.int .i64 n]] w fun e w'=>e= .returned (.bool (zaM (zaH hi lo) n))∧Below w.heap.size w w':=by
 by_cases h:n<0∨128<n
 ·rw [zoX h];exact ybZ hi lo n w h
 ·obtain ⟨k,rfl⟩:=Int.eq_ofNat_of_zero_le (show 0≤n by omega)
  exact ygN hi lo k w h1 h2 (by omega)
theorem zkH (w:World) (a b c a' b' c':Value) (t:TypeId): ∀W,Below (w.heap.size+2) ((w.alloc (.cells #[a,b,c] t)).alloc (.cells #[a',b',c'] t)) W→
  (W.cell? ⟨w.heap.size,0,none⟩=some a∧W.cell? ⟨w.heap.size,1,none⟩=some b∧W.cell? ⟨w.heap.size,2,none⟩=some c)∧W.cell? ⟨w.heap.size+1,0,none⟩=some a'∧W.cell? ⟨w.heap.size+1,1,none⟩=some b'∧W.cell? ⟨w.heap.size+1,2,none⟩=some c':=fun W h=>by
 refine ⟨⟨?_,?_,?_⟩,?_,?_,?_⟩
 ·rw [h.cell (p:=⟨w.heap.size,_,none⟩) (by show w.heap.size<_;omega)];simp [go_sem]
 ·rw [h.cell (p:=⟨w.heap.size,_,none⟩) (by show w.heap.size<_;omega)];simp [go_sem]
 ·rw [h.cell (p:=⟨w.heap.size,_,none⟩) (by show w.heap.size<_;omega)];simp [go_sem]
 ·rw [h.cell (p:=⟨w.heap.size+1,_,none⟩) (by show w.heap.size+1<_;omega)];simp [go_sem]
 ·rw [h.cell (p:=⟨w.heap.size+1,_,none⟩) (by show w.heap.size+1<_;omega)];simp [go_sem]
 ·rw [h.cell (p:=⟨w.heap.size+1,_,none⟩) (by show w.heap.size+1<_;omega)];simp [go_sem]
theorem zfZ {w W:World} {o o':Obj} (h:Below (w.heap.size+2) ((w.alloc o).alloc o') W):Below w.heap.size w W:=
 (((Below.refl _ _).alloc (Nat.le_refl _) o).alloc (by simp) o').trans (h.mono (by omega))
end

section
open Go.RowKit
theorem ydX (hi lo hi2 lo2:Nat) (n m:Int) (w:World) (h1:hi<18446744073709551616) (h2:lo<18446744073709551616) (_:hi2<18446744073709551616) (_:lo2<18446744073709551616) (r1:zaM (zaH hi lo) n=false):
  Calls Tryz.prog 262 #[.agg #[.int .u64 hi,.int .u64 lo,.int .i64 n],.agg #[.int .u64 hi2,.int .u64 lo2,.int .i64 m]] w fun e w'=>e= .returned (.bool false)∧Below w.heap.size w w':=by
 have HKC:=Lib.hid (zkH w (.int .u64 hi) (.int .u64 lo) (.int .i64 n) (.int .u64 hi2) (.int .u64 lo2) (.int .i64 m) 235)
 have HR1:Hid (∀W,Calls Tryz.prog 249 #[.agg #[.int .u64 hi,.int .u64 lo,.int .i64 n]] W fun e w'=>e= .returned (.bool false)∧Below W.heap.size W w'):=fun W=>by
  have:=zcA hi lo n W h1 h2;rwa [r1] at this
 clear r1 h1 h2
 go_enter Tryz.func262,Tryz.ntmps262
 go_wp2
 refine wp_region_held_drew (S:=fun W=>(W.cell? ⟨w.heap.size,0,none⟩=some (.int .u64 hi)∧W.cell? ⟨w.heap.size,1,none⟩=some (.int .u64 lo)∧W.cell? ⟨w.heap.size,2,none⟩=some (.int .i64 n))∧W.cell? ⟨w.heap.size+1,0,none⟩=some (.int .u64 hi2)∧W.cell? ⟨w.heap.size+1,1,none⟩=some (.int .u64 lo2)∧W.cell? ⟨w.heap.size+1,2,none⟩=some (.int .i64 m)) (by kernel_rfl) ?_ (fun hHeld=> ?_)
 ·exact HKC.out _ zxJ
 refine tkK 0 (some 5) (v:= ?_) rfl (.inl ⟨by rfl,?_⟩) hHeld ?_;rotate_left;·intro w hSw;(try dsimp only at hSw);go_simp;try with_reducible rfl
 try simp only [Act.put,tkKa,tkKb,tkKc]
 refine wpAnyH_ready (rs:=[1]) (by kernel_rfl) (by simp) ?_
 refine AllReadyH.cons (o:=⟨some 6,_,_,_,_,_⟩) rfl (fun K hK=> ?_) AllReadyH.nil
 go_simp
 go_at_call 249
 refine (HR1.out _).mono ?_
 rintro e x1 ⟨rfl,hb1⟩
 (try go_wp2_with fail)
 refine hK.out _ _ ?_ (fun hHeld1=> ?_)
 ·exact HKC.out _ (zgE (by simp) hb1)
 clear hK K
 try simp only [Act.put,tkKa,tkKb,tkKc]
 refine tkK 2 (some 7) (v:= ?_) rfl (.inl ⟨by rfl,?_⟩) hHeld1 ?_;rotate_left;·intro w hSw;(try dsimp only at hSw);go_simp;try with_reducible rfl
 try simp only [Act.put,tkKa,tkKb,tkKc]
 refine tkK 3 (some 8) (v:=undef) rfl (.inr ⟨by rfl,rfl⟩) hHeld1 ?_
 try simp only [Act.put,tkKa,tkKb,tkKc]
 refine tkK 4 (some 9) (v:=undef) rfl (.inr ⟨by rfl,rfl⟩) hHeld1 ?_
 try simp only [Act.put,tkKa,tkKb,tkKc]
 refine tkK 5 (some 10) (v:= ?_) rfl (.inl ⟨by rfl,?_⟩) hHeld1 ?_;rotate_left;·intro w hSw;(try dsimp only at hSw);go_simp;try with_reducible rfl
 try simp only [Act.put,tkKa,tkKb,tkKc]
 refine tkK 6 (some 11) (v:= ?_) rfl (.inl ⟨by rfl,?_⟩) hHeld1 ?_;rotate_left;·intro w hSw;(try dsimp only at hSw);go_simp;try with_reducible rfl
 try simp only [Act.put,tkKa,tkKb,tkKc]
 refine tkK 7 (some 12) (v:=undef) rfl (.inr ⟨by rfl,rfl⟩) hHeld1 ?_
 try simp only [Act.put,tkKa,tkKb,tkKc]
 refine tkK 8 (some 13) (v:=undef) rfl (.inr ⟨by rfl,rfl⟩) hHeld1 ?_
 try simp only [Act.put,tkKa,tkKb,tkKc]
 refine tkK 9 (some 14) (v:=undef) rfl (.inr ⟨by rfl,rfl⟩) hHeld1 ?_
 try simp only [Act.put,tkKa,tkKb,tkKc]
 refine tkK 10 (some 15) (v:=undef) rfl (.inr ⟨by rfl,rfl⟩) hHeld1 ?_
 try simp only [Act.put,tkKa,tkKb,tkKc]
 refine tkK 11 (some 16) (v:=undef) rfl (.inr ⟨by rfl,rfl⟩) hHeld1 ?_
 try simp only [Act.put,tkKa,tkKb,tkKc]
 refine tkK 12 (some 17) (v:= ?_) rfl (.inl ⟨by rfl,?_⟩) hHeld1 ?_;rotate_left;·intro w hSw;(try dsimp only at hSw);go_simp;try with_reducible rfl
 try simp only [Act.put,tkKa,tkKb,tkKc]
 refine tkK 13 (some 18) (v:= ?_) rfl (.inl ⟨by rfl,?_⟩) hHeld1 ?_;rotate_left;·intro w hSw;(try dsimp only at hSw);go_simp;try with_reducible rfl
 try simp only [Act.put,tkKa,tkKb,tkKc]
 refine tkK 14 (some 19) (v:=undef) rfl (.inr ⟨by rfl,rfl⟩) hHeld1 ?_
 try simp only [Act.put,tkKa,tkKb,tkKc]
 refine tkK 15 (some 20) (v:=undef) rfl (.inr ⟨by rfl,rfl⟩) hHeld1 ?_
 try simp only [Act.put,tkKa,tkKb,tkKc]
 refine tkK 16 (some 21) (v:=undef) rfl (.inr ⟨by rfl,rfl⟩) hHeld1 ?_
 try simp only [Act.put,tkKa,tkKb,tkKc]
 refine tkK 17 (some 22) (v:=undef) rfl (.inr ⟨by rfl,rfl⟩) hHeld1 ?_
 try simp only [Act.put,tkKa,tkKb,tkKc]
 refine tkK 18 (some 23) (v:=undef) rfl (.inr ⟨by rfl,rfl⟩) hHeld1 ?_
 try simp only [Act.put,tkKa,tkKb,tkKc]
 refine tkK 19 (some 24) (v:=undef) rfl (.inr ⟨by rfl,rfl⟩) hHeld1 ?_
 try simp only [Act.put,tkKa,tkKb,tkKc]
 refine tkK 20 (some 25) (v:=undef) rfl (.inr ⟨by rfl,rfl⟩) hHeld1 ?_
 try simp only [Act.put,tkKa,tkKb,tkKc]
 refine tkK 21 (some 26) (v:=undef) rfl (.inr ⟨by rfl,rfl⟩) hHeld1 ?_
 try simp only [Act.put,tkKa,tkKb,tkKc]
 refine tkK 22 (some 27) (v:=undef) rfl (.inr ⟨by rfl,rfl⟩) hHeld1 ?_
 try simp only [Act.put,tkKa,tkKb,tkKc]
 refine tkK 23 (some 28) (v:= ?_) rfl (.inl ⟨by rfl,?_⟩) hHeld1 ?_;rotate_left;·intro w hSw;(try dsimp only at hSw);go_simp;try with_reducible rfl
 try simp only [Act.put,tkKa,tkKb,tkKc]
 refine tkK 24 (some 4) (v:= ?_) rfl (.inl ⟨by rfl,?_⟩) hHeld1 ?_;rotate_left;·intro w hSw;(try dsimp only at hSw);go_simp;try with_reducible rfl
 try simp only [Act.put,tkKa,tkKb,tkKc]
 refine wpAnyH_done (by kernel_rfl) ?_ _
 go_wp2
 go_ret
 exact ⟨by first|rfl|(simp;done)|kernel_rfl|(simp [Act.put];done),zfZ (zgE (by simp) hb1)⟩
theorem ydV (hi lo hi2 lo2:Nat) (n m:Int) (w:World) (h1:hi<18446744073709551616) (h2:lo<18446744073709551616) (h3:hi2<18446744073709551616) (h4:lo2<18446744073709551616) (r1:zaM (zaH hi lo) n=true) (r2:zaM (zaH hi2 lo2) m=false):
  Calls Tryz.prog 262 #[.agg #[.int .u64 hi,.int .u64 lo,.int .i64 n],.agg #[.int .u64 hi2,.int .u64 lo2,.int .i64 m]] w fun e w'=>e= .returned (.bool false)∧Below w.heap.size w w':=by
 have HKC:=Lib.hid (zkH w (.int .u64 hi) (.int .u64 lo) (.int .i64 n) (.int .u64 hi2) (.int .u64 lo2) (.int .i64 m) 235)
 have HR1:Hid (∀W,Calls Tryz.prog 249 #[.agg #[.int .u64 hi,.int .u64 lo,.int .i64 n]] W fun e w'=>e= .returned (.bool true)∧Below W.heap.size W w'):=fun W=>by
  have:=zcA hi lo n W h1 h2;rwa [r1] at this
 have HR2:Hid (∀W,Calls Tryz.prog 249 #[.agg #[.int .u64 hi2,.int .u64 lo2,.int .i64 m]] W fun e w'=>e= .returned (.bool false)∧Below W.heap.size W w'):=fun W=>by
  have:=zcA hi2 lo2 m W h3 h4;rwa [r2] at this
 clear r1 r2 h1 h2 h3 h4
 go_enter Tryz.func262,Tryz.ntmps262
 go_wp2
 refine wp_region_held_drew (S:=fun W=>(W.cell? ⟨w.heap.size,0,none⟩=some (.int .u64 hi)∧W.cell? ⟨w.heap.size,1,none⟩=some (.int .u64 lo)∧W.cell? ⟨w.heap.size,2,none⟩=some (.int .i64 n))∧W.cell? ⟨w.heap.size+1,0,none⟩=some (.int .u64 hi2)∧W.cell? ⟨w.heap.size+1,1,none⟩=some (.int .u64 lo2)∧W.cell? ⟨w.heap.size+1,2,none⟩=some (.int .i64 m)) (by kernel_rfl) ?_ (fun hHeld=> ?_)
 ·exact HKC.out _ zxJ
 refine tkK 0 (some 5) (v:= ?_) rfl (.inl ⟨by rfl,?_⟩) hHeld ?_;rotate_left;·intro w hSw;(try dsimp only at hSw);go_simp;try with_reducible rfl
 try simp only [Act.put,tkKa,tkKb,tkKc]
 refine wpAnyH_ready (rs:=[1]) (by kernel_rfl) (by simp) ?_
 refine AllReadyH.cons (o:=⟨some 6,_,_,_,_,_⟩) rfl (fun K hK=> ?_) AllReadyH.nil
 go_simp
 go_at_call 249
 refine (HR1.out _).mono ?_
 rintro e x1 ⟨rfl,hb1⟩
 (try go_wp2_with fail)
 refine hK.out _ _ ?_ (fun hHeld1=> ?_)
 ·exact HKC.out _ (zgE (by simp) hb1)
 clear hK K
 try simp only [Act.put,tkKa,tkKb,tkKc]
 refine tkK 2 (some 7) (v:= ?_) rfl (.inl ⟨by rfl,?_⟩) hHeld1 ?_;rotate_left;·intro w hSw;(try dsimp only at hSw);go_simp;try with_reducible rfl
 try simp only [Act.put,tkKa,tkKb,tkKc]
 refine tkK 3 (some 8) (v:= ?_) rfl (.inl ⟨by rfl,?_⟩) hHeld1 ?_;rotate_left;·intro w hSw;(try dsimp only at hSw);go_simp;try with_reducible rfl
 try simp only [Act.put,tkKa,tkKb,tkKc]
 refine wpAnyH_ready (rs:=[4]) (by kernel_rfl) (by simp) ?_
 refine AllReadyH.cons (o:=⟨some 9,_,_,_,_,_⟩) rfl (fun K hK=> ?_) AllReadyH.nil
 go_simp
 go_at_call 249
 refine (HR2.out _).mono ?_
 rintro e x2 ⟨rfl,hb2⟩
 (try go_wp2_with fail)
 refine hK.out _ _ ?_ (fun hHeld2=> ?_)
 ·exact HKC.out _ (zhL (by simp) (zgE (by simp) hb1) hb2)
 clear hK K
 try simp only [Act.put,tkKa,tkKb,tkKc]
 refine tkK 5 (some 10) (v:= ?_) rfl (.inl ⟨by rfl,?_⟩) hHeld2 ?_;rotate_left;·intro w hSw;(try dsimp only at hSw);go_simp;try with_reducible rfl
 try simp only [Act.put,tkKa,tkKb,tkKc]
 refine tkK 6 (some 11) (v:= ?_) rfl (.inl ⟨by rfl,?_⟩) hHeld2 ?_;rotate_left;·intro w hSw;(try dsimp only at hSw);go_simp;try with_reducible rfl
 try simp only [Act.put,tkKa,tkKb,tkKc]
 refine tkK 7 (some 12) (v:=undef) rfl (.inr ⟨by rfl,rfl⟩) hHeld2 ?_
 try simp only [Act.put,tkKa,tkKb,tkKc]
 refine tkK 8 (some 13) (v:=undef) rfl (.inr ⟨by rfl,rfl⟩) hHeld2 ?_
 try simp only [Act.put,tkKa,tkKb,tkKc]
 refine tkK 9 (some 14) (v:=undef) rfl (.inr ⟨by rfl,rfl⟩) hHeld2 ?_
 try simp only [Act.put,tkKa,tkKb,tkKc]
 refine tkK 10 (some 15) (v:=undef) rfl (.inr ⟨by rfl,rfl⟩) hHeld2 ?_
 try simp only [Act.put,tkKa,tkKb,tkKc]
 refine tkK 11 (some 16) (v:=undef) rfl (.inr ⟨by rfl,rfl⟩) hHeld2 ?_
 try simp only [Act.put,tkKa,tkKb,tkKc]
 refine tkK 12 (some 17) (v:= ?_) rfl (.inl ⟨by rfl,?_⟩) hHeld2 ?_;rotate_left;·intro w hSw;(try dsimp only at hSw);go_simp;try with_reducible rfl
 try simp only [Act.put,tkKa,tkKb,tkKc]
 refine tkK 13 (some 18) (v:= ?_) rfl (.inl ⟨by rfl,?_⟩) hHeld2 ?_;rotate_left;·intro w hSw;(try dsimp only at hSw);go_simp;try with_reducible rfl
 try simp only [Act.put,tkKa,tkKb,tkKc]
 refine tkK 14 (some 19) (v:=undef) rfl (.inr ⟨by rfl,rfl⟩) hHeld2 ?_
 try simp only [Act.put,tkKa,tkKb,tkKc]
 refine tkK 15 (some 20) (v:=undef) rfl (.inr ⟨by rfl,rfl⟩) hHeld2 ?_
 try simp only [Act.put,tkKa,tkKb,tkKc]
 refine tkK 16 (some 21) (v:=undef) rfl (.inr ⟨by rfl,rfl⟩) hHeld2 ?_
 try simp only [Act.put,tkKa,tkKb,tkKc]
 refine tkK 17 (some 22) (v:=undef) rfl (.inr ⟨by rfl,rfl⟩) hHeld2 ?_
 try simp only [Act.put,tkKa,tkKb,tkKc]
 refine tkK 18 (some 23) (v:=undef) rfl (.inr ⟨by rfl,rfl⟩) hHeld2 ?_
 try simp only [Act.put,tkKa,tkKb,tkKc]
 refine tkK 19 (some 24) (v:=undef) rfl (.inr ⟨by rfl,rfl⟩) hHeld2 ?_
 try simp only [Act.put,tkKa,tkKb,tkKc]
 refine tkK 20 (some 25) (v:=undef) rfl (.inr ⟨by rfl,rfl⟩) hHeld2 ?_
 try simp only [Act.put,tkKa,tkKb,tkKc]
 refine tkK 21 (some 26) (v:=undef) rfl (.inr ⟨by rfl,rfl⟩) hHeld2 ?_
 try simp only [Act.put,tkKa,tkKb,tkKc]
 refine tkK 22 (some 27) (v:=undef) rfl (.inr ⟨by rfl,rfl⟩) hHeld2 ?_
 try simp only [Act.put,tkKa,tkKb,tkKc]
 refine tkK 23 (some 28) (v:= ?_) rfl (.inl ⟨by rfl,?_⟩) hHeld2 ?_;rotate_left;·intro w hSw;(try dsimp only at hSw);go_simp;try with_reducible rfl
 try simp only [Act.put,tkKa,tkKb,tkKc]
 refine tkK 24 (some 4) (v:= ?_) rfl (.inl ⟨by rfl,?_⟩) hHeld2 ?_;rotate_left;·intro w hSw;(try dsimp only at hSw);go_simp;try with_reducible rfl
 try simp only [Act.put,tkKa,tkKb,tkKc]
 refine wpAnyH_done (by kernel_rfl) ?_ _
 go_wp2
 go_ret
 exact ⟨by first|rfl|(simp;done)|kernel_rfl|(simp [Act.put];done),zfZ (zhL (by simp) (zgE (by simp) hb1) hb2)⟩
theorem yeQ (hi lo hi2 lo2:Nat) (n m:Int) (w:World) (h1:hi<18446744073709551616) (h2:lo<18446744073709551616) (h3:hi2<18446744073709551616) (h4:lo2<18446744073709551616) (r1:zaM (zaH hi lo) n=true) (r2:zaM (zaH hi2 lo2) m=true) (hm:m<n):
  Calls Tryz.prog 262 #[.agg #[.int .u64 hi,.int .u64 lo,.int .i64 n],.agg #[.int .u64 hi2,.int .u64 lo2,.int .i64 m]] w fun e w'=>e= .returned (.bool false)∧Below w.heap.size w w':=by
 have HKC:=Lib.hid (zkH w (.int .u64 hi) (.int .u64 lo) (.int .i64 n) (.int .u64 hi2) (.int .u64 lo2) (.int .i64 m) 235)
 have HR1:Hid (∀W,Calls Tryz.prog 249 #[.agg #[.int .u64 hi,.int .u64 lo,.int .i64 n]] W fun e w'=>e= .returned (.bool true)∧Below W.heap.size W w'):=fun W=>by
  have:=zcA hi lo n W h1 h2;rwa [r1] at this
 have HR2:Hid (∀W,Calls Tryz.prog 249 #[.agg #[.int .u64 hi2,.int .u64 lo2,.int .i64 m]] W fun e w'=>e= .returned (.bool true)∧Below W.heap.size W w'):=fun W=>by
  have:=zcA hi2 lo2 m W h3 h4;rwa [r2] at this
 have t1:decide (n≤m)=false:=decide_eq_false (by omega)
 clear r1 r2 h1 h2 h3 h4 hm
 go_enter Tryz.func262,Tryz.ntmps262
 go_wp2
 refine wp_region_held_drew (S:=fun W=>(W.cell? ⟨w.heap.size,0,none⟩=some (.int .u64 hi)∧W.cell? ⟨w.heap.size,1,none⟩=some (.int .u64 lo)∧W.cell? ⟨w.heap.size,2,none⟩=some (.int .i64 n))∧W.cell? ⟨w.heap.size+1,0,none⟩=some (.int .u64 hi2)∧W.cell? ⟨w.heap.size+1,1,none⟩=some (.int .u64 lo2)∧W.cell? ⟨w.heap.size+1,2,none⟩=some (.int .i64 m)) (by kernel_rfl) ?_ (fun hHeld=> ?_)
 ·exact HKC.out _ zxJ
 refine tkK 0 (some 5) (v:= ?_) rfl (.inl ⟨by rfl,?_⟩) hHeld ?_;rotate_left;·intro w hSw;(try dsimp only at hSw);go_simp;try with_reducible rfl
 try simp only [Act.put,tkKa,tkKb,tkKc]
 refine wpAnyH_ready (rs:=[1]) (by kernel_rfl) (by simp) ?_
 refine AllReadyH.cons (o:=⟨some 6,_,_,_,_,_⟩) rfl (fun K hK=> ?_) AllReadyH.nil
 go_simp
 go_at_call 249
 refine (HR1.out _).mono ?_
 rintro e x1 ⟨rfl,hb1⟩
 (try go_wp2_with fail)
 refine hK.out _ _ ?_ (fun hHeld1=> ?_)
 ·exact HKC.out _ (zgE (by simp) hb1)
 clear hK K
 try simp only [Act.put,tkKa,tkKb,tkKc]
 refine tkK 2 (some 7) (v:= ?_) rfl (.inl ⟨by rfl,?_⟩) hHeld1 ?_;rotate_left;·intro w hSw;(try dsimp only at hSw);go_simp;try with_reducible rfl
 try simp only [Act.put,tkKa,tkKb,tkKc]
 refine tkK 3 (some 8) (v:= ?_) rfl (.inl ⟨by rfl,?_⟩) hHeld1 ?_;rotate_left;·intro w hSw;(try dsimp only at hSw);go_simp;try with_reducible rfl
 try simp only [Act.put,tkKa,tkKb,tkKc]
 refine wpAnyH_ready (rs:=[4]) (by kernel_rfl) (by simp) ?_
 refine AllReadyH.cons (o:=⟨some 9,_,_,_,_,_⟩) rfl (fun K hK=> ?_) AllReadyH.nil
 go_simp
 go_at_call 249
 refine (HR2.out _).mono ?_
 rintro e x2 ⟨rfl,hb2⟩
 (try go_wp2_with fail)
 refine hK.out _ _ ?_ (fun hHeld2=> ?_)
 ·exact HKC.out _ (zhL (by simp) (zgE (by simp) hb1) hb2)
 clear hK K
 try simp only [Act.put,tkKa,tkKb,tkKc]
 refine tkK 5 (some 10) (v:= ?_) rfl (.inl ⟨by rfl,?_⟩) hHeld2 ?_;rotate_left;·intro w hSw;(try dsimp only at hSw);go_simp;try with_reducible rfl
 try simp only [Act.put,tkKa,tkKb,tkKc]
 refine tkK 6 (some 11) (v:= ?_) rfl (.inl ⟨by rfl,?_⟩) hHeld2 ?_;rotate_left;·intro w hSw;(try dsimp only at hSw);go_simp;try with_reducible rfl
 try simp only [Act.put,tkKa,tkKb,tkKc]
 refine tkK 7 (some 12) (v:= ?_) rfl (.inl ⟨by rfl,?_⟩) hHeld2 ?_;rotate_left;·intro w hSw;(try dsimp only at hSw);go_simp;try with_reducible rfl
 try simp only [Act.put,tkKa,tkKb,tkKc]
 refine tkK 8 (some 13) (v:= ?_) rfl (.inl ⟨by rfl,?_⟩) hHeld2 ?_;rotate_left;·intro w hSw;(try dsimp only at hSw);go_simp;try with_reducible rfl
 try simp only [Act.put,tkKa,tkKb,tkKc]
 refine tkK 9 (some 14) (v:= ?_) rfl (.inl ⟨by rfl,?_⟩) hHeld2 ?_;rotate_left;·intro w hSw;(try dsimp only at hSw);go_simp;try with_reducible rfl
 try simp only [Act.put,tkKa,tkKb,tkKc]
 refine tkK 10 (some 15) (v:= ?_) rfl (.inl ⟨by rfl,?_⟩) hHeld2 ?_;rotate_left;·intro w hSw;(try dsimp only at hSw);go_simp;try with_reducible rfl
 try simp only [Act.put,tkKa,tkKb,tkKc]
 refine tkK 11 (some 16) (v:= ?_) rfl (.inl ⟨by rfl,?_⟩) hHeld2 ?_;rotate_left;·intro w hSw;(try dsimp only at hSw);go_simp;try with_reducible rfl
 try simp only [Act.put,tkKa,tkKb,tkKc]
 refine tkK 12 (some 17) (v:= ?_) rfl (.inl ⟨by rfl,?_⟩) hHeld2 ?_;rotate_left;·intro w hSw;(try dsimp only at hSw);go_simp;try with_reducible rfl
 try simp only [Act.put,tkKa,tkKb,tkKc]
 refine tkK 13 (some 18) (v:= ?_) rfl (.inl ⟨by rfl,?_⟩) hHeld2 ?_;rotate_left;·intro w hSw;(try dsimp only at hSw);go_simp;try with_reducible rfl
 try simp only [Act.put,tkKa,tkKb,tkKc]
 refine tkK 14 (some 19) (v:=undef) rfl (.inr ⟨by rfl,rfl⟩) hHeld2 ?_
 try simp only [Act.put,tkKa,tkKb,tkKc]
 refine tkK 15 (some 20) (v:=undef) rfl (.inr ⟨by rfl,rfl⟩) hHeld2 ?_
 try simp only [Act.put,tkKa,tkKb,tkKc]
 refine tkK 16 (some 21) (v:=undef) rfl (.inr ⟨by rfl,rfl⟩) hHeld2 ?_
 try simp only [Act.put,tkKa,tkKb,tkKc]
 refine tkK 17 (some 22) (v:=undef) rfl (.inr ⟨by rfl,rfl⟩) hHeld2 ?_
 try simp only [Act.put,tkKa,tkKb,tkKc]
 refine tkK 18 (some 23) (v:=undef) rfl (.inr ⟨by rfl,rfl⟩) hHeld2 ?_
 try simp only [Act.put,tkKa,tkKb,tkKc]
 refine tkK 19 (some 24) (v:=undef) rfl (.inr ⟨by rfl,rfl⟩) hHeld2 ?_
 try simp only [Act.put,tkKa,tkKb,tkKc]
 refine tkK 20 (some 25) (v:=undef) rfl (.inr ⟨by rfl,rfl⟩) hHeld2 ?_
 try simp only [Act.put,tkKa,tkKb,tkKc]
 refine tkK 21 (some 26) (v:=undef) rfl (.inr ⟨by rfl,rfl⟩) hHeld2 ?_
 try simp only [Act.put,tkKa,tkKb,tkKc]
 refine tkK 22 (some 27) (v:=undef) rfl (.inr ⟨by rfl,rfl⟩) hHeld2 ?_
 try simp only [Act.put,tkKa,tkKb,tkKc]
 refine tkK 23 (some 28) (v:= ?_) rfl (.inl ⟨by rfl,?_⟩) hHeld2 ?_;rotate_left;·intro w hSw;(try dsimp only at hSw);go_simp;try with_reducible rfl
 try simp only [Act.put,tkKa,tkKb,tkKc]
 refine tkK 24 (some 4) (v:= ?_) rfl (.inl ⟨by rfl,?_⟩) hHeld2 ?_;rotate_left;·intro w hSw;(try dsimp only at hSw);go_simp;try with_reducible rfl
 try simp only [Act.put,tkKa,tkKb,tkKc]
 refine wpAnyH_done (by kernel_rfl) ?_ _
 go_wp2
 go_ret
 exact ⟨by first|rfl|(simp;done)|kernel_rfl|(simp [Act.put];done),zfZ (zhL (by simp) (zgE (by simp) hb1) hb2)⟩
theorem yhG (hi lo hi2 lo2:Nat) (n m:Int) (w:World) (h1:hi<18446744073709551616) (h2:lo<18446744073709551616) (h3:hi2<18446744073709551616) (h4:lo2<18446744073709551616) (r1:zaM (zaH hi lo) n=true) (r2:zaM (zaH hi2 lo2) m=true) (hm:n≤m):
  Calls Tryz.prog 262 #[.agg #[.int .u64 hi,.int .u64 lo,.int .i64 n],.agg #[.int .u64 hi2,.int .u64 lo2,.int .i64 m]] w fun e w'=>e= .returned (.bool (zbW (zaH hi lo) n (zaH hi2 lo2) m))∧Below w.heap.size w w':=by
 have HKC:=Lib.hid (zkH w (.int .u64 hi) (.int .u64 lo) (.int .i64 n) (.int .u64 hi2) (.int .u64 lo2) (.int .i64 m) 235)
 have HR1:Hid (∀W,Calls Tryz.prog 249 #[.agg #[.int .u64 hi,.int .u64 lo,.int .i64 n]] W fun e w'=>e= .returned (.bool true)∧Below W.heap.size W w'):=fun W=>by
  have:=zcA hi lo n W h1 h2;rwa [r1] at this
 have HR2:Hid (∀W,Calls Tryz.prog 249 #[.agg #[.int .u64 hi2,.int .u64 lo2,.int .i64 m]] W fun e w'=>e= .returned (.bool true)∧Below W.heap.size W w'):=fun W=>by
  have:=zcA hi2 lo2 m W h3 h4;rwa [r2] at this
 obtain ⟨h',g1⟩: ∃x,hiN (ofW (zaH hi2 lo2) n.toNat)=x:=⟨_,rfl⟩
 obtain ⟨l',g2⟩: ∃x,loN (ofW (zaH hi2 lo2) n.toNat)=x:=⟨_,rfl⟩
 have hn:=zqW r1
 have hnn:(n.toNat:Int)=n:=by omega
 have HC:Hid (∀W,Calls Tryz.prog 260 #[.int .u64 hi2,.int .u64 lo2,.int .i64 n] W fun e w'=>e= .returned (.agg #[.int .u64 h',.int .u64 l',.int .i64 n])∧Below W.heap.size W w'):=fun W=>by
  have:=zhC hi2 lo2 n.toNat W h3 h4 (by omega)
  unfold pfW at this
  rw [g1,g2,hnn] at this
  exact this
 have hb:((h':Int)==hi&&((l':Int)==lo&&n==n))=zbW (zaH hi lo) n (zaH hi2 lo2) m:=by
  unfold zbW
  have r3:rt (zaH hi lo) n.toNat:=by have:=r1;rw [←hnn,zcE] at this;exact this.2
  rw [r1,r2,decide_eq_true hm,Bool.true_and,Bool.true_and,Bool.true_and,Bool.eq_iff_iff,decide_eq_true_iff]
  simp only [Bool.and_eq_true,beq_iff_eq,and_true]
  constructor
  ·rintro ⟨a,b⟩
   have:ofW (zaH hi2 lo2) n.toNat=zaH hi lo:=zkC (by rw [g1,zeS h2];omega) (by rw [g2,zfY h2];omega)
   rw [←this];exact ztS _ _
  ·intro b
   have:ofW (zaH hi2 lo2) n.toNat=zaH hi lo:=zoQ (zsE _ _) r3 ((ztS _ _).trans b.symm)
   rw [this,zeS h2] at g1
   rw [this,zfY h2] at g2
   omega
 have heq:=eqPf h' l' n hi lo n
 rw [hb] at heq
 have hg:=zeX
 have t1:decide (n≤m)=true:=decide_eq_true (by omega)
 clear r1 r2 h1 h2 h3 h4 hm hb g1 g2 hnn hn
 generalize zbW (zaH hi lo) n (zaH hi2 lo2) m=b at*
 go_enter Tryz.func262,Tryz.ntmps262
 go_wp2
 go_region_held3 (fun W=>(W.cell? ⟨w.heap.size,0,none⟩=some (.int .u64 hi)∧W.cell? ⟨w.heap.size,1,none⟩=some (.int .u64 lo)∧W.cell? ⟨w.heap.size,2,none⟩=some (.int .i64 n))∧W.cell? ⟨w.heap.size+1,0,none⟩=some (.int .u64 hi2)∧W.cell? ⟨w.heap.size+1,1,none⟩=some (.int .u64 lo2)∧W.cell? ⟨w.heap.size+1,2,none⟩=some (.int .i64 m))
  (first|exact HKC.out _ (zxJ)|exact HKC.out _ (zgE (by simp) hb1)|exact HKC.out _ (zhL (by simp) (zgE (by simp) hb1) hb2)|exact HKC.out _ (zhL (by simp) (zhL (by simp) (zgE (by simp) hb1) hb2) hb3))
  (first
   |(go_simp;go_at_call 249;((with_reducible refine (HR1.out _).mono ?_);rintro e x1 ⟨rfl,hb1⟩))
   |(go_simp;go_at_call 249;((with_reducible refine (HR2.out _).mono ?_);rintro e x2 ⟨rfl,hb2⟩))
   |(go_simp;go_at_call 260;((with_reducible refine (HC.out _).mono ?_);rintro e x3 ⟨rfl,hb3⟩))
)
 go_wp2
 go_ret
 exact ⟨by first|rfl|(simp;done)|kernel_rfl|(simp [Act.put];done),zfZ (zhL (by simp) (zhL (by simp) (zgE (by simp) hb1) hb2) hb3)⟩
theorem zlR (hi lo hi2 lo2:Nat) (n m:Int) (w:World) (h1:hi<18446744073709551616) (h2:lo<18446744073709551616) (h3:hi2<18446744073709551616) (h4:lo2<18446744073709551616):
  Calls Tryz.prog 262 #[.agg #[.int .u64 hi,.int .u64 lo,.int .i64 n],.agg #[.int .u64 hi2,.int .u64 lo2,.int .i64 m]] w fun e w'=>e= .returned (.bool (zbW (zaH hi lo) n (zaH hi2 lo2) m))∧Below w.heap.size w w':=by
 cases r1:zaM (zaH hi lo) n with
 |false=>
  rw [show zbW (zaH hi lo) n (zaH hi2 lo2) m=false from by unfold zbW;rw [r1];rfl]
  exact ydX hi lo hi2 lo2 n m w h1 h2 h3 h4 r1
 |true=>
  cases r2:zaM (zaH hi2 lo2) m with
  |false=>
   rw [show zbW (zaH hi lo) n (zaH hi2 lo2) m=false from by unfold zbW;rw [r1,r2];rfl]
   exact ydV hi lo hi2 lo2 n m w h1 h2 h3 h4 r1 r2
  |true=>
   by_cases hm:n≤m
   ·exact yhG hi lo hi2 lo2 n m w h1 h2 h3 h4 r1 r2 hm
   ·rw [show zbW (zaH hi lo) n (zaH hi2 lo2) m=false from by unfold zbW;rw [r1,r2,decide_eq_false hm];rfl]
    exact yeQ hi lo hi2 lo2 n m w h1 h2 h3 h4 r1 r2 (by omega)
theorem yfK (x:Nat) (h:x<18446744073709551616):bits .and .u64 (x:Int) 1=((x % 2:Nat):Int):=by
 rw [show (1:Int)=((1:Nat):Int) from rfl,u64_and_nat x 1 h (by decide),Nat.and_one_is_mod]
theorem yjO (hi lo:Nat) (n i:Int) (w:World) (h:i<0∨128≤i):
  Calls Tryz.prog 263 #[.agg #[.int .u64 hi,.int .u64 lo,.int .i64 n],.int .i64 i] w fun e w'=>e= .returned (.int .i64 0)∧Below w.heap.size w w':=by
 by_cases h0:i<0
 ·clear h
  go_enter Tryz.func263,Tryz.ntmps263
  go_wp2
  all_goals go_ret
  all_goals exact ⟨rfl,(Below.refl _ _).alloc (Nat.le_refl _) _⟩
 ·have h5:128≤i:=by omega
  clear h
  go_enter Tryz.func263,Tryz.ntmps263
  go_wp2
  all_goals go_ret
  all_goals exact ⟨rfl,(Below.refl _ _).alloc (Nat.le_refl _) _⟩
theorem ycO (x j:Nat) (h:x<18446744073709551616):wrap64 (bits .and .u64 ((x:Int)/2^j) 1)=((x/2^j % 2:Nat):Int):=by
 have e:((x:Int)/2^j)=((x/2^j:Nat):Int):=by simp
 rw [e,yfK _ (Nat.lt_of_le_of_lt (Nat.div_le_self _ _) h)]
 have:x/2^j % 2<2:=Nat.mod_lt _ (by decide)
 unfold wrap64;omega
theorem z6X (hi lo:Nat) (n:Int) (k:Nat) (w:World) (h1:hi<18446744073709551616) (h2:lo<18446744073709551616) (hk:k<128):
  Calls Tryz.prog 263 #[.agg #[.int .u64 hi,.int .u64 lo,.int .i64 n],.int .i64 k] w fun e w'=>e= .returned (.int .i64 (bitW (zaH hi lo) k:Nat))∧Below w.heap.size w w':=by
 by_cases h5:k<64
 ·have HV:Hid (wrap64 (bits .and .u64 ((hi:Int)/2^(63 - k)) 1)=(bitW (zaH hi lo) k:Nat)):=by
   show _=_
   rw [ycO _ _ h1,bit_hi (show lo<2^64 from h2) k h5]
  go_enter Tryz.func263,Tryz.ntmps263
  go_wp2
  all_goals go_ret
  all_goals exact ⟨retV (show Value.int .i64 _=_ by rw [HV.out]),(Below.refl _ _).alloc (Nat.le_refl _) _⟩
 ·have h6:64≤k:=by omega
  have HV:Hid (wrap64 (bits .and .u64 ((lo:Int)/2^(127 - k)) 1)=(bitW (zaH hi lo) k:Nat)):=by
   show _=_
   rw [ycO _ _ h2,bit_lo (hi:=hi) k h6 hk]
  clear h5
  go_enter Tryz.func263,Tryz.ntmps263
  go_wp2
  all_goals go_ret
  all_goals exact ⟨retV (show Value.int .i64 _=_ by rw [HV.out]),(Below.refl _ _).alloc (Nat.le_refl _) _⟩
theorem zsT (hi lo:Nat) (n i:Int) (w:World) (h1:hi<18446744073709551616) (h2:lo<18446744073709551616):
  Calls Tryz.prog 263 #[.agg #[.int .u64 hi,.int .u64 lo,.int .i64 n],.int .i64 i] w fun e w'=>e= .returned (.int .i64 (bitZ (zaH hi lo) i))∧Below w.heap.size w w':=by
 by_cases h:i<0∨128≤i
 ·rw [show bitZ (zaH hi lo) i=0 from by unfold bitZ;rw [if_neg (by omega)]]
  exact yjO hi lo n i w h
 ·obtain ⟨k,rfl⟩:=Int.eq_ofNat_of_zero_le (show 0≤i by omega)
  rw [zfV _ _ (by omega)]
  exact z6X hi lo n k w h1 h2 (by omega)
end

section
open Go.RowKit
def PT.isNil:PT→Bool
 | .nil=>true
 | .node .. =>false
/-- the node that stays -/
def PT.join (W n:Nat) (u:Int) (h:Bool) (l r:PT):PT:=
 if (h||(!l.isNil&& !r.isNil))=true then .node W n u h l r else if l.isNil=false then l else r
def PT.drop:PT→Nat→Nat→PT
 | .nil,_,_=> .nil
 | .node W n u h l r,P,k=>if W=P∧n=k then PT.join W n 0 false l r else if bitZ P n=0 then PT.join W n u h (l.drop P k) r else PT.join W n u h l (r.drop P k)
/-- the longest one,behind what was found above -/
def PT.find:PT→Nat→Option En→Option En
 | .nil,_,acc=>acc
 | .node W n v h l r,A,acc=>if zfP W n A=true then (if bitZ A n=0 then l.find A (if h=true then some ⟨W,n,v⟩ else acc) else r.find A (if h=true then some ⟨W,n,v⟩ else acc)) else acc
def En.has (x:En) (A:Nat):Prop:=qt x.W x.n=qt A x.n
theorem PT.find_is: ∀{t:PT} {Q k0:Nat},t.Inv Q k0→ ∀(A:Nat) (acc:Option En),
  ((∃x,x∈t.list∧x.has A)→ ∃y,t.find A acc=some y∧y∈t.list∧y.has A∧ ∀x∈t.list,x.has A→x.n≤y.n)∧((∀x∈t.list,¬x.has A)→t.find A acc=acc)
 | .nil,_,_,_,A,acc=>⟨(fun ⟨x,hx,_⟩=>by cases hx),fun _=>rfl⟩
 | .node W n u h l r,Q,k0,⟨⟨h1,h2,h3,h4⟩,hl,hr,hh⟩,A,acc=>by
  have hl':l.Inv (2*qt W n+0) (n+1):=hl
  have up: ∀x,x∈l.list∨x∈r.list→x.has A→qt W n=qt A n∧n<128:=fun x hx hA=>by
   have:n<x.n∧x.n≤128∧qt x.W n=qt W n:=by
    rcases hx with g|g
    ·have a:=PT.side hl' (by omega) g;exact ⟨a.1,a.2.1,a.2.2.2.1⟩
    ·have a:=PT.side hr (by omega) g;exact ⟨a.1,a.2.1,a.2.2.2.1⟩
   have e:=zhK (n:=n) (by omega) this.2.1 hA
   exact ⟨by omega,by omega⟩
  unfold PT.find
  by_cases c:zfP W n A=true
  ·rw [if_pos c]
   have c2:=(zlA.1 c).2
   have nl: ∀b,bitW A n=b→b≠0→ ∀y∈l.list,¬y.has A:=fun b e hb y hy g=>by
    have a:=PT.side hl' (by omega) hy
    have e1:=zhK (n:=n+1) (by omega) a.2.1 g
    have e2:=zeE A n (by omega)
    omega
   have nr:bitW A n≠1→ ∀y∈r.list,¬y.has A:=fun hb y hy g=>by
    have a:=PT.side hr (by omega) hy
    have e1:=zhK (n:=n+1) (by omega) a.2.1 g
    have e2:=zeE A n (by omega)
    have e3:=zcX A n
    omega
   have nl1:bitW A n≠0→ ∀y∈l.list,¬y.has A:=fun hb=>nl _ rfl hb
   have hb2:=zcX A n
   -- on one side alone there may be some
   have main: ∀(s o:PT),(∀y,y∈(PT.node W n u h l r).list↔(h=true∧y=⟨W,n,u⟩)∨y∈s.list∨y∈o.list)→(∀y∈o.list,¬y.has A)→(∀y∈s.list,n<y.n)→
     (∀acc,((∃x,x∈s.list∧x.has A)→ ∃y,s.find A acc=some y∧y∈s.list∧y.has A∧ ∀x∈s.list,x.has A→x.n≤y.n)∧((∀x∈s.list,¬x.has A)→s.find A acc=acc))→
     ((∃x,x∈(PT.node W n u h l r).list∧x.has A)→ ∃y,s.find A (if h=true then some ⟨W,n,u⟩ else acc)=some y∧y∈(PT.node W n u h l r).list∧y.has A∧ ∀x∈(PT.node W n u h l r).list,x.has A→x.n≤y.n)∧
     ((∀x∈(PT.node W n u h l r).list,¬x.has A)→s.find A (if h=true then some ⟨W,n,u⟩ else acc)=acc):=by
    intro s o hm ho hs ih
    obtain ⟨i1,i2⟩:=ih (if h=true then some ⟨W,n,u⟩ else acc)
    by_cases g: ∃x,x∈s.list∧x.has A
    ·obtain ⟨y,y1,y2,y3,y4⟩:=i1 g
     refine ⟨fun _=>⟨y,y1,(hm y).2 (.inr (.inl y2)),y3,fun x hx hA=> ?_⟩,fun q=>absurd y3 (q y ((hm y).2 (.inr (.inl y2))))⟩
     rcases (hm x).1 hx with ⟨_,e⟩|e|e
     ·rw [e];exact Nat.le_of_lt (hs y y2)
     ·exact y4 x e hA
     ·exact absurd hA (ho x e)
    ·have g': ∀x∈s.list,¬x.has A:=fun x hx hA=>g ⟨x,hx,hA⟩
     rw [i2 g']
     cases h with
     |true=>
      have hmem:(⟨W,n,u⟩:En)∈(PT.node W n u true l r).list:=(hm _).2 (.inl ⟨rfl,rfl⟩)
      refine ⟨fun _=>⟨⟨W,n,u⟩,if_pos rfl,hmem,c2,fun x hx hA=> ?_⟩,fun q=>absurd c2 (q _ hmem)⟩
      rcases (hm x).1 hx with ⟨_,e⟩|e|e
      ·rw [e];exact Nat.le_refl _
      ·exact absurd hA (g' x e)
      ·exact absurd hA (ho x e)
     |false=>
      refine ⟨fun ⟨x,hx,hA⟩=> ?_,fun _=>if_neg (by simp)⟩
      rcases (hm x).1 hx with ⟨e,_⟩|e|e
      ·cases e
      ·exact absurd hA (g' x e)
      ·exact absurd hA (ho x e)
   have sl: ∀y∈l.list,n<y.n:=fun y hy=>(PT.side hl' (by omega) hy).1
   have sr: ∀y∈r.list,n<y.n:=fun y hy=>(PT.side hr (by omega) hy).1
   have ml: ∀y,y∈(PT.node W n u h l r).list↔(h=true∧y=⟨W,n,u⟩)∨y∈l.list∨y∈r.list:=fun y=>PT.mem_node
   have mr: ∀y,y∈(PT.node W n u h l r).list↔(h=true∧y=⟨W,n,u⟩)∨y∈r.list∨y∈l.list:=fun y=>PT.mem_node.trans (by rw [or_comm (a:=y∈l.list)])
   by_cases hn:n<128
   ·rw [zfV A n hn]
    by_cases b0:(bitW A n:Int)=0
    ·rw [if_pos b0]
     exact main l r ml (nr (by omega)) sl (PT.find_is hl A)
    ·rw [if_neg b0]
     exact main r l mr (nl1 (by omega)) sr (PT.find_is hr A)
   ·have e128:n=128:=by omega
    subst e128
    rw [ygL,if_pos rfl]
    exact main l r ml (fun y hy _=>by have a:=PT.side hr (by omega) hy;omega) sl (PT.find_is hl A)
  ·rw [if_neg c]
   refine ⟨fun ⟨x,hx,hA⟩=> ?_,fun _=>rfl⟩
   rcases PT.mem_node.1 hx with ⟨_,e⟩|e
   ·rw [e] at hA
    exact absurd (zlA.2 ⟨⟨h2,h3⟩,hA⟩) c
   ·exact absurd (zlA.2 ⟨⟨h2,h3⟩,(up x e hA).1⟩) c
theorem PT.right {t:PT} {Q k:Nat} (h:t.Inv Q k) {x:En} (hx:x∈t.list):x.n≤128∧rt x.W x.n:=by
 have:=PT.bounds h x hx;exact ⟨this.2.1,this.2.2.1⟩
theorem PT.small {t:PT} (h:t.Inv 0 0) {x:En} (hx:x∈t.list):x.W<2^128:=ylT (PT.bounds h x hx).2.2.2
theorem PT.find_none {t:PT} {Q k:Nat} (h:t.Inv Q k) {A:Nat} (e:t.find A none=none): ∀x∈t.list,¬x.has A:=by
 obtain ⟨h1,_⟩:=PT.find_is h A none
 intro x hx hA
 obtain ⟨z,z1,_⟩:=h1 ⟨x,hx,hA⟩
 rw [e] at z1;cases z1
end

section
open Go.RowKit
def En.key (x:En) (P:Nat) (k:Int):Bool:=decide (x.W=P∧(x.n:Int)=k)
def befB (e x:En):Bool:=decide (e.W<x.W∨(e.W=x.W∧e.n<x.n))
theorem ztA {e x:En}:befB e x=true↔e.lt x:=by unfold befB En.lt;rw [decide_eq_true_iff]
def ztF (l:List En) (P:Nat) (k:Int):List En:=l.filter fun x=> !x.key P k
def getL:List En→Nat→Int→Option Int
 |[],_,_=>none
 |x::l,P,k=>if x.key P k=true then some x.v else getL l P k
def insL (e:En):List En→List En
 |[]=>[e]
 |x::l=>if befB e x=true then e::x::l else x::insL e l
def putL (l:List En) (P k:Nat) (v:Int):List En:=insL ⟨P,k,v⟩ (ztF l P k)
theorem zoA {x:En} {P k:Nat}:x.key P k=true↔x.W=P∧x.n=k:=by
 unfold En.key;rw [decide_eq_true_iff];constructor<;>rintro ⟨a,b⟩<;>exact ⟨a,by omega⟩
theorem zuA {l:List En} {P k:Nat} {x:En}:x∈ztF l P k↔x∈l∧ ¬(x.W=P∧x.n=k):=by
 unfold ztF;rw [List.mem_filter,←zoA];simp
theorem zsH {e:En}: ∀{l:List En} {x:En},x∈insL e l↔x=e∨x∈l
 |[],x=>by simp [insL]
 |y::l,x=>by
  unfold insL
  by_cases c:befB e y=true
  ·rw [if_pos c];simp
  ·rw [if_neg c,List.mem_cons,zsH,List.mem_cons]
   constructor
   ·rintro (h|h|h)
    ·exact .inr (.inl h)
    ·exact .inl h
    ·exact .inr (.inr h)
   ·rintro (h|h|h)
    ·exact .inr (.inl h)
    ·exact .inl h
    ·exact .inr (.inr h)
theorem z2E (e:En): ∀l:List En,(insL e l).length=l.length+1
 |[]=>rfl
 |y::l=>by
  unfold insL
  split
  ·simp
  ·simp [z2E e l]
theorem lt_or {e x:En} (h: ¬(x.W=e.W∧x.n=e.n)) (h2: ¬e.lt x):x.lt e:=by unfold En.lt at*;omega
theorem zpC {e:En}: ∀{l:List En},l.Pairwise En.lt→(∀x∈l,¬(x.W=e.W∧x.n=e.n))→(insL e l).Pairwise En.lt
 |[],_,_=>List.pairwise_singleton _ _
 |y::l,h,hn=>by
  rw [List.pairwise_cons] at h
  unfold insL
  by_cases c:befB e y=true
  ·rw [if_pos c]
   refine List.Pairwise.cons (fun x hx=> ?_) (List.pairwise_cons.2 h)
   rcases List.mem_cons.1 hx with g|g
   ·rw [g];exact ztA.1 c
   ·exact En.lt_trans (ztA.1 c) (h.1 x g)
  ·rw [if_neg c]
   refine List.Pairwise.cons (fun x hx=> ?_) (zpC h.2 (fun x hx=>hn x (List.mem_cons_of_mem _ hx)))
   rcases zsH.1 hx with g|g
   ·rw [g];exact lt_or (hn y (List.mem_cons_self ..)) (fun q=>c (ztA.2 q))
   ·exact h.1 x g
theorem ztX {l:List En} (h:l.Pairwise En.lt) (P:Nat) (k:Int):(ztF l P k).Pairwise En.lt:=h.filter _
theorem zxW {l:List En} (h:l.Pairwise En.lt) (P k:Nat) (v:Int):(putL l P k v).Pairwise En.lt:=
 zpC (ztX h P k) (fun _ hx=>(zuA.1 hx).2)
theorem PT.put_list {t:PT} (h:t.Inv 0 0) {P k:Nat} {v:Int} (hk:k≤128) (hp:rt P k) (hP:P<2^128):(t.put P k v).list=putL t.list P k v:=
 zvC (PT.sorted (PT.put_inv h hk hp (zxE hP) (Nat.zero_le _))) (zxW (PT.sorted h) P k v)
  (fun x=>by rw [PT.put_mem h hk hp x,putL,zsH,zuA])
theorem zmT {P:Nat} {k:Int}: ∀{l:List En} {v:Int},getL l P k=some v→ ∃x∈l,x.key P k=true∧x.v=v
 |[],_,h=>by cases h
 |x::l,v,h=>by
  unfold getL at h
  by_cases c:x.key P k=true
  ·rw [if_pos c] at h;exact ⟨x,List.mem_cons_self ..,c,Option.some.inj h⟩
  ·rw [if_neg c] at h
   obtain ⟨y,hy,g⟩:=zmT h
   exact ⟨y,List.mem_cons_of_mem _ hy,g⟩
theorem znW {P:Nat} {k:Int}: ∀{l:List En},getL l P k=none→ ∀x∈l,x.key P k=false
 |[],_,x,hx=>by cases hx
 |y::l,h,x,hx=>by
  unfold getL at h
  by_cases c:y.key P k=true
  ·rw [if_pos c] at h;cases h
  ·rw [if_neg c] at h
   rcases List.mem_cons.1 hx with g|g
   ·rw [g];simpa using c
   ·exact znW h x g
theorem PT.get_list {t:PT} (h:t.Inv 0 0) (P:Nat) (k:Int):t.get P k=getL t.list P k:=by
 cases hr:zaM P k with
 |false=>
  rw [PT.get_wrong h hr]
  cases e:getL t.list P k with
  |none=>rfl
  |some v=>
   obtain ⟨x,hx,g,_⟩:=zmT e
   unfold En.key at g
   rw [decide_eq_true_iff] at g
   have:=PT.right h hx
   rw [←g.1,←g.2,zcE.2 this] at hr
   cases hr
 |true=>
  have h0:0≤k:=by unfold zaM at hr;rw [decide_eq_true_iff] at hr;exact hr.1
  obtain ⟨n,rfl⟩:=Int.eq_ofNat_of_zero_le h0
  obtain ⟨r1,r2⟩:=zcE.1 hr
  have hm:=PT.get_mem h r1 r2
  cases e:getL t.list P (n:Int) with
  |none=>
   cases e2:t.get P (n:Int) with
   |none=>rfl
   |some v=>have:=znW e _ ((hm v).1 e2);rw [zoA.2 ⟨rfl,rfl⟩] at this;cases this
  |some v=>
   obtain ⟨x,hx,g,rfl⟩:=zmT e
   obtain ⟨rfl,rfl⟩:=zoA.1 g
   exact (hm x.v).2 hx
theorem zrE {l:List En} {P:Nat} {k:Int} (h:getL l P k=none):ztF l P k=l:=by
 unfold ztF
 rw [List.filter_eq_self]
 intro x hx
 rw [znW h x hx];rfl
theorem zwF: ∀{l:List En},l.Pairwise En.lt→ ∀{P k:Nat} {v:Int},getL l P k=some v→(ztF l P k).length+1=l.length
 |[],_,_,_,_,h=>by cases h
 |x::l,hs,P,k,v,h=>by
  rw [List.pairwise_cons] at hs
  unfold getL at h
  by_cases c:x.key P k=true
  ·have hn:getL l P k=none:=by
    cases e:getL l P k with
    |none=>rfl
    |some u=>
     obtain ⟨y,hy,g,_⟩:=zmT e
     have g1:=zoA.1 g
     have g2:=zoA.1 c
     have:=hs.1 y hy
     unfold En.lt at this;omega
   have:=zrE hn
   unfold ztF at this ⊢
   rw [List.filter_cons,c];simp [this]
  ·rw [if_neg c] at h
   have ih:=zwF hs.2 h
   have c':x.key P k=false:=by simpa using c
   unfold ztF at ih ⊢
   rw [List.filter_cons,c'];simp;exact ih
theorem ztE {l:List En} (hs:l.Pairwise En.lt) (P k:Nat) (v:Int):(putL l P k v).length=if (getL l P k).isSome=true then l.length else l.length+1:=by
 unfold putL
 rw [z2E]
 cases e:getL l P k with
 |none=>simp [zrE e]
 |some u=>simp [zwF hs e]
end

end Go.Proofs.YthacmlahnpdeeaaGreatDoor
