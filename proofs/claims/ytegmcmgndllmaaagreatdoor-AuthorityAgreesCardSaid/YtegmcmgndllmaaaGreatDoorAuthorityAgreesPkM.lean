/-
  What the law AuthorityAgrees leans on, and its walk (13 of 43).
-/
import Derived.Lib.LastIndexByte
import Derived.Lib.IndexAny
import Derived.Test.YtegmcmgndllmaaaGreatDoorAuthorityAgreesPkL
namespace Go.Proofs.YtegmcmgndllmaaaGreatDoor
set_option maxRecDepth 100000
set_option maxHeartbeats 16000000
section
open Go.RowKit
def pctA:List UInt8→Bool
 |c::d::e::_=>c==37&&hexA d&&hexA e
 |_=>false
theorem ymP: ∀d:Fin 256,hexA (UInt8.ofNat d.val)=true→zjZ (UInt8.ofNat d.val)=true∧(UInt8.ofNat d.val==37)=false:=by decide+kernel
theorem yhF {c:UInt8} (h:hexA c=true):zjZ c=true∧(c==37)=false:=by
 have:=ymP ⟨c.toNat,c.toNat_lt⟩
 simp only [UInt8.ofNat_toNat] at this
 exact this h
theorem yjY {of l:List UInt8} (h:pctA l=true):isA of l=isA of (l.drop 3):=by
 match l,h with
 |c::d::e::l,h=>
  conv=>lhs;unfold isA
  rw [if_pos (show (c==37&&hexA d&&hexA e)=true from h)]
  rfl
theorem z8M {of:List UInt8} {c:UInt8} {l:List UInt8} (h:pctA (c::l)=false):isA of (c::l)=((zjZ c||of.contains c)&&isA of l):=by
 match l,h with
 |[],_=>simp [isA]
 |[d],_=>rfl
 |d::e::l,h=>
  conv=>lhs;unfold isA
  rw [if_neg (by rw [show (c==37&&hexA d&&hexA e)=false from h];exact Bool.false_ne_true)]
theorem z5T {of:List UInt8} {c:UInt8} {l:List UInt8} (h:hexA c=true):isA of (c::l)=isA of l:=by
 obtain ⟨f,g⟩:=yhF h
 rw [z8M,f]
 ·simp
 ·match l with
  |[]=>rfl
  |[_]=>rfl
  |d::e::l=>simp [pctA,g]
theorem zrO {of:List UInt8} (c:UInt8) (l:List UInt8):isA of (c::l)=((zjZ c||pctA (c::l)||of.contains c)&&isA of l):=by
 cases h:pctA (c::l) with
 |false=>rw [z8M h];simp
 |true=>
  rw [yjY h]
  match l,h with
  |d::e::l,h=>
   simp only [pctA,Bool.and_eq_true] at h
   show isA of l=_
   rw [z5T h.1.2,z5T h.2]
   simp
/-! ### places -/
theorem yhD (l:List UInt8) (j:Nat) (h:j<l.length):(ByteArray.mk l.toArray).data[j]! =l[j]:=by
 show l.toArray[j]! =_
 rw [getElem!_pos l.toArray j (by simpa using h)]
 simp
theorem yeV (l:List UInt8):(ByteArray.mk l.toArray).size=l.length:=by simp [ByteArray.size]
theorem u8A {a b:UInt8} (h:(a.toNat:Int)=(b.toNat:Int)):a=b:=UInt8.toNat_inj.1 (by omega)
theorem zzN (r t:List UInt8) (c:UInt8) (h:c∉t):Lib.lastIndexByte ⟨(r++c::t).toArray⟩ (c.toNat:Int)=(r.length:Nat):=by
 have d:(r++c::t).length=r.length+t.length+1:=by simp;omega
 rcases Lib.lastIndexByte_spec ⟨(r++c::t).toArray⟩ (c.toNat:Int) with ⟨_,g⟩|⟨i,j,g,f,q⟩
 ·have:=g r.length (by rw [yeV,d];omega)
  rw [yhD _ _ (by rw [d];omega)] at this
  simp at this
 ·rw [yeV,d] at j
  rw [yhD _ _ (by rw [d];omega)] at f
  rw [g]
  by_cases e:i<r.length
  ·have:=q r.length e (by rw [yeV,d];omega)
   rw [yhD _ _ (by rw [d];omega)] at this
   simp at this
  ·by_cases m:i=r.length
   ·rw [m]
   ·have f:=u8A f
    rw [List.getElem_append_right (by omega)] at f
    obtain ⟨k,o⟩: ∃k,i - r.length=k+1:=⟨i - r.length - 1,by omega⟩
    simp only [o,List.getElem_cons_succ] at f
    exact absurd (f▸List.getElem_mem _) h
theorem zlQ (r t:List UInt8) (c:UInt8) (h:c∉t):Lib.lastIndexByte ⟨(r++t).toArray⟩ (c.toNat:Int)<(r.length:Nat):=by
 rcases Lib.lastIndexByte_spec ⟨(r++t).toArray⟩ (c.toNat:Int) with ⟨f,_⟩|⟨i,f,g,d,_⟩
 ·rw [f];omega
 ·rw [yeV] at f
  rw [yhD _ _ f] at d
  rw [g]
  by_cases e:i<r.length
  ·omega
  ·have d:=u8A d
   rw [List.getElem_append_right (by omega)] at d
   exact absurd (d▸List.getElem_mem _) h
theorem z0Q (l:List UInt8) (c:Int): -1≤Lib.lastIndexByte ⟨l.toArray⟩ c:=by
 rcases Lib.lastIndexByte_spec ⟨l.toArray⟩ c with ⟨d,_⟩|⟨i,_,e,_⟩<;>omega
theorem zoX (a:List UInt8):(∃i:Nat,i<a.length∧Lib.lastIndexByte ⟨a.toArray⟩ 58=i∧Lib.lastIndexByte ⟨a.toArray⟩ 93<i∧zcW a=(a.take i,true,a.drop (i+1)))∨(Lib.lastIndexByte ⟨a.toArray⟩ 58≤Lib.lastIndexByte ⟨a.toArray⟩ 93∧zcW a=(a,false,[])):=by
 have E:=zfQ (fun c=>c==58||c==93) a.reverse
 have C:=zgI (fun c=>c==58||c==93) a.reverse
 have G:=ziY (fun c=>c==58||c==93) a.reverse
 have B:zcW a=(match (zaR (fun c=>c==58||c==93) a.reverse).2 with
  |58::r=>(r.reverse,true,(zaR (fun c=>c==58||c==93) a.reverse).1.reverse)
  |_=>(a,false,[])):=rfl
 generalize (zaR (fun c=>c==58||c==93) a.reverse).1=t at*
 generalize (zaR (fun c=>c==58||c==93) a.reverse).2=q at*
 have f:=congrArg List.reverse E
 rw [List.reverse_reverse,List.reverse_append] at f
 have o:(58:UInt8)∉t.reverse:=fun h=>by have:=C 58 (by simpa using h);simp at this
 have m:(93:UInt8)∉t.reverse:=fun h=>by have:=C 93 (by simpa using h);simp at this
 rcases G with rfl|⟨c,r,rfl,D⟩
 ·right
  have f:a=t.reverse:=by simpa using f
  have e:=zlQ [] t.reverse 58 o
  have g:=zlQ [] t.reverse 93 m
  have I:=z0Q a 93
  have H:=z0Q a 58
  rw [List.nil_append,←f] at e g
  refine ⟨?_,B⟩
  have e:Lib.lastIndexByte ⟨a.toArray⟩ 58<0:=e
  omega
 ·rw [List.reverse_cons,List.append_assoc] at f
  by_cases j:c=58
  ·subst j
   left
   have e:=zzN r.reverse t.reverse 58 o
   have g:=zlQ r.reverse ([58]++t.reverse) 93 (by simp;simpa using m)
   have d:a=r.reverse++58::t.reverse:=f
   refine ⟨r.reverse.length,by rw [d];simp,?_,?_,?_⟩
   ·rw [d];exact e
   ·rw [d];exact g
   ·rw [B,d,List.take_left,List.drop_append]
    simp
  ·right
   have A:c=93:=by
    simp only [Bool.or_eq_true,beq_iff_eq] at D
    exact D.resolve_left j
   subst A
   have e:=zzN r.reverse t.reverse 93 m
   have g:=zlQ r.reverse ([93]++t.reverse) 58 (by simp;simpa using o)
   have d:a=r.reverse++93::t.reverse:=f
   refine ⟨?_,B⟩
   rw [d]
   have e:Lib.lastIndexByte ⟨(r.reverse++93::t.reverse).toArray⟩ 93=(r.reverse.length:Nat):=e
   have g:Lib.lastIndexByte ⟨(r.reverse++93::t.reverse).toArray⟩ 58<(r.reverse.length:Nat):=g
   omega
theorem zlF (f l:List UInt8):((zaR f.contains l).2=[]∧Lib.indexAny l f= -1∧ ∀c∈l,f.contains c=false)∨(∃(i:Nat) (h:i<l.length),Lib.indexAny l f=i∧zaR f.contains l=(l.take i,l[i]::l.drop (i+1))∧f.contains l[i]=true):=by
 induction l with
 |nil=>exact .inl ⟨rfl,rfl,fun _ h=>by cases h⟩
 |cons c l q=>
  cases e:f.contains c with
  |true=>
   refine .inr ⟨0,by simp,?_,?_,e⟩
   ·unfold Lib.indexAny;rw [e];rfl
   ·unfold zaR;rw [e];simp
  |false=>
   rcases q with ⟨j,o,m⟩|⟨i,h,j,o,m⟩
   ·refine .inl ⟨?_,?_,?_⟩
    ·unfold zaR;rw [e];exact j
    ·unfold Lib.indexAny;rw [e,o];rfl
    ·intro d g
     rcases List.mem_cons.1 g with rfl|g
     ·exact e
     ·exact m d g
   ·refine .inr ⟨i+1,by simp;omega,?_,?_,?_⟩
    ·unfold Lib.indexAny
     rw [e,j]
     simp
    ·unfold zaR;rw [e,o];simp
    ·simpa using m
theorem z9Q:zfJ=[58,47,63,35].contains:=by
 funext c
 rw [Bool.eq_iff_iff]
 simp [zfJ,or_assoc]
theorem z3K (l:List UInt8):(∃(i:Nat) (h:i<l.length),Lib.indexAny l [58,47,63,35]=i∧l[i]=58∧zaO l=(true,l.take i,l.drop (i+1)))∨(zaO l=(false,[],l)∧(Lib.indexAny l [58,47,63,35]= -1∨ ∃(i:Nat) (h:i<l.length),Lib.indexAny l [58,47,63,35]=i∧l[i]≠58)):=by
 unfold zaO
 rw [z9Q]
 rcases zlF [58,47,63,35] l with ⟨d,f,_⟩|⟨i,h,d,f,g⟩
 ·rw [d]
  exact .inr ⟨rfl,.inl f⟩
 ·rw [f]
  by_cases e:l[i]=58
  ·left
   refine ⟨i,h,d,e,?_⟩
   simp [e]
  ·right
   refine ⟨?_,.inr ⟨i,h,d,e⟩⟩
   split
   ·rename_i q;simp only [List.cons.injEq] at q;exact absurd q.1 e
   ·rfl
end
end Go.Proofs.YtegmcmgndllmaaaGreatDoor
