/-
  What the law AgreeNever leans on, and its walk (13 of 42).
-/
import Derived.Lib.LastIndexByte
import Derived.Lib.IndexAny
import Derived.Test.YtegmcmgndllmaaaGreatDoorAgreeNeverPkL
namespace Go.Proofs.YtegmcmgndllmaaaGreatDoor
set_option maxRecDepth 100000
set_option maxHeartbeats 16000000
section
open Go.RowKit
def pctA:List UInt8→Bool
 |c::d::e::_=>c==37&&hexA d&&hexA e
 |_=>false
theorem yiF: ∀d:Fin 256,hexA (UInt8.ofNat d.val)=true→ziJ (UInt8.ofNat d.val)=true∧(UInt8.ofNat d.val==37)=false:=by decide+kernel
theorem ycZ {c:UInt8} (h:hexA c=true):ziJ c=true∧(c==37)=false:=by
 have:=yiF ⟨c.toNat,c.toNat_lt⟩
 simp only [UInt8.ofNat_toNat] at this
 exact this h
theorem yiV {f l:List UInt8} (h:pctA l=true):isA f l=isA f (l.drop 3):=by
 match l,h with
 |c::d::e::l,h=>
  conv=>lhs;unfold isA
  rw [if_pos (show (c==37&&hexA d&&hexA e)=true from h)]
  rfl
theorem z5K {f:List UInt8} {c:UInt8} {l:List UInt8} (h:pctA (c::l)=false):isA f (c::l)=((ziJ c||f.contains c)&&isA f l):=by
 match l,h with
 |[],_=>simp [isA]
 |[d],_=>rfl
 |d::e::l,h=>
  conv=>lhs;unfold isA
  rw [if_neg (by rw [show (c==37&&hexA d&&hexA e)=false from h];exact Bool.false_ne_true)]
theorem z7F {f:List UInt8} {c:UInt8} {l:List UInt8} (h:hexA c=true):isA f (c::l)=isA f l:=by
 obtain ⟨i,j⟩:=ycZ h
 rw [z5K,i]
 ·simp
 ·match l with
  |[]=>rfl
  |[_]=>rfl
  |d::e::l=>simp [pctA,j]
theorem zlR {f:List UInt8} (c:UInt8) (l:List UInt8):isA f (c::l)=((ziJ c||pctA (c::l)||f.contains c)&&isA f l):=by
 cases h:pctA (c::l) with
 |false=>rw [z5K h];simp
 |true=>
  rw [yiV h]
  match l,h with
  |d::e::l,h=>
   simp only [pctA,Bool.and_eq_true] at h
   show isA f l=_
   rw [z7F h.1.2,z7F h.2]
   simp
/-! ### places -/
theorem yfP (l:List UInt8) (j:Nat) (h:j<l.length):(ByteArray.mk l.toArray).data[j]! =l[j]:=by
 show l.toArray[j]! =_
 rw [getElem!_pos l.toArray j (by simpa using h)]
 simp
theorem yeA (l:List UInt8):(ByteArray.mk l.toArray).size=l.length:=by simp [ByteArray.size]
theorem u8A {a b:UInt8} (h:(a.toNat:Int)=(b.toNat:Int)):a=b:=UInt8.toNat_inj.1 (by omega)
theorem zzN (r t:List UInt8) (c:UInt8) (h:c∉t):Lib.lastIndexByte ⟨(r++c::t).toArray⟩ (c.toNat:Int)=(r.length:Nat):=by
 have f:(r++c::t).length=r.length+t.length+1:=by simp;omega
 rcases Lib.lastIndexByte_spec ⟨(r++c::t).toArray⟩ (c.toNat:Int) with ⟨_,j⟩|⟨i,o,j,d,m⟩
 ·have:=j r.length (by rw [yeA,f];omega)
  rw [yfP _ _ (by rw [f];omega)] at this
  simp at this
 ·rw [yeA,f] at o
  rw [yfP _ _ (by rw [f];omega)] at d
  rw [j]
  by_cases e:i<r.length
  ·have:=m r.length e (by rw [yeA,f];omega)
   rw [yfP _ _ (by rw [f];omega)] at this
   simp at this
  ·by_cases B:i=r.length
   ·rw [B]
   ·have d:=u8A d
    rw [List.getElem_append_right (by omega)] at d
    obtain ⟨k,A⟩: ∃k,i - r.length=k+1:=⟨i - r.length - 1,by omega⟩
    simp only [A,List.getElem_cons_succ] at d
    exact absurd (d▸List.getElem_mem _) h
theorem zlO (r t:List UInt8) (c:UInt8) (h:c∉t):Lib.lastIndexByte ⟨(r++t).toArray⟩ (c.toNat:Int)<(r.length:Nat):=by
 rcases Lib.lastIndexByte_spec ⟨(r++t).toArray⟩ (c.toNat:Int) with ⟨f,_⟩|⟨i,f,j,d,_⟩
 ·rw [f];omega
 ·rw [yeA] at f
  rw [yfP _ _ f] at d
  rw [j]
  by_cases e:i<r.length
  ·omega
  ·have d:=u8A d
   rw [List.getElem_append_right (by omega)] at d
   exact absurd (d▸List.getElem_mem _) h
theorem z0B (l:List UInt8) (c:Int): -1≤Lib.lastIndexByte ⟨l.toArray⟩ c:=by
 rcases Lib.lastIndexByte_spec ⟨l.toArray⟩ c with ⟨d,_⟩|⟨i,_,f,_⟩<;>omega
theorem zoS (a:List UInt8):(∃i:Nat,i<a.length∧Lib.lastIndexByte ⟨a.toArray⟩ 58=i∧Lib.lastIndexByte ⟨a.toArray⟩ 93<i∧zdW a=(a.take i,true,a.drop (i+1)))∨(Lib.lastIndexByte ⟨a.toArray⟩ 58≤Lib.lastIndexByte ⟨a.toArray⟩ 93∧zdW a=(a,false,[])):=by
 have H:=zdM (fun c=>c==58||c==93) a.reverse
 have E:=zeR (fun c=>c==58||c==93) a.reverse
 have I:=zgK (fun c=>c==58||c==93) a.reverse
 have B:zdW a=(match (zaS (fun c=>c==58||c==93) a.reverse).2 with
  |58::r=>(r.reverse,true,(zaS (fun c=>c==58||c==93) a.reverse).1.reverse)
  |_=>(a,false,[])):=rfl
 generalize (zaS (fun c=>c==58||c==93) a.reverse).1=t at*
 generalize (zaS (fun c=>c==58||c==93) a.reverse).2=q at*
 have j:=congrArg List.reverse H
 rw [List.reverse_reverse,List.reverse_append] at j
 have D:(58:UInt8)∉t.reverse:=fun h=>by have:=E 58 (by simpa using h);simp at this
 have C:(93:UInt8)∉t.reverse:=fun h=>by have:=E 93 (by simpa using h);simp at this
 rcases I with rfl|⟨c,r,rfl,G⟩
 ·right
  have j:a=t.reverse:=by simpa using j
  have f:=zlO [] t.reverse 58 D
  have m:=zlO [] t.reverse 93 C
  have J:=z0B a 93
  have K:=z0B a 58
  rw [List.nil_append,←j] at f m
  refine ⟨?_,B⟩
  have f:Lib.lastIndexByte ⟨a.toArray⟩ 58<0:=f
  omega
 ·rw [List.reverse_cons,List.append_assoc] at j
  by_cases o:c=58
  ·subst o
   left
   have f:=zzN r.reverse t.reverse 58 D
   have m:=zlO r.reverse ([58]++t.reverse) 93 (by simp;simpa using C)
   have d:a=r.reverse++58::t.reverse:=j
   refine ⟨r.reverse.length,by rw [d];simp,?_,?_,?_⟩
   ·rw [d];exact f
   ·rw [d];exact m
   ·rw [B,d,List.take_left,List.drop_append]
    simp
  ·right
   have A:c=93:=by
    simp only [Bool.or_eq_true,beq_iff_eq] at G
    exact G.resolve_left o
   subst A
   have f:=zzN r.reverse t.reverse 93 C
   have m:=zlO r.reverse ([93]++t.reverse) 58 (by simp;simpa using D)
   have d:a=r.reverse++93::t.reverse:=j
   refine ⟨?_,B⟩
   rw [d]
   have f:Lib.lastIndexByte ⟨(r.reverse++93::t.reverse).toArray⟩ 93=(r.reverse.length:Nat):=f
   have m:Lib.lastIndexByte ⟨(r.reverse++93::t.reverse).toArray⟩ 58<(r.reverse.length:Nat):=m
   omega
theorem zkL (j l:List UInt8):((zaS j.contains l).2=[]∧Lib.indexAny l j= -1∧ ∀c∈l,j.contains c=false)∨(∃(i:Nat) (h:i<l.length),Lib.indexAny l j=i∧zaS j.contains l=(l.take i,l[i]::l.drop (i+1))∧j.contains l[i]=true):=by
 induction l with
 |nil=>exact .inl ⟨rfl,rfl,fun _ h=>by cases h⟩
 |cons c l C=>
  cases f:j.contains c with
  |true=>
   refine .inr ⟨0,by simp,?_,?_,f⟩
   ·unfold Lib.indexAny;rw [f];rfl
   ·unfold zaS;rw [f];simp
  |false=>
   rcases C with ⟨m,o,B⟩|⟨i,h,m,o,B⟩
   ·refine .inl ⟨?_,?_,?_⟩
    ·unfold zaS;rw [f];exact m
    ·unfold Lib.indexAny;rw [f,o];rfl
    ·intro d A
     rcases List.mem_cons.1 A with rfl|A
     ·exact f
     ·exact B d A
   ·refine .inr ⟨i+1,by simp;omega,?_,?_,?_⟩
    ·unfold Lib.indexAny
     rw [f,m]
     simp
    ·unfold zaS;rw [f,o];simp
    ·simpa using B
theorem z7L:zhB=[58,47,63,35].contains:=by
 funext c
 rw [Bool.eq_iff_iff]
 simp [zhB,or_assoc]
theorem z1Q (l:List UInt8):(∃(i:Nat) (h:i<l.length),Lib.indexAny l [58,47,63,35]=i∧l[i]=58∧zaO l=(true,l.take i,l.drop (i+1)))∨(zaO l=(false,[],l)∧(Lib.indexAny l [58,47,63,35]= -1∨ ∃(i:Nat) (h:i<l.length),Lib.indexAny l [58,47,63,35]=i∧l[i]≠58)):=by
 unfold zaO
 rw [z7L]
 rcases zkL [58,47,63,35] l with ⟨d,f,_⟩|⟨i,h,d,f,j⟩
 ·rw [d]
  exact .inr ⟨rfl,.inl f⟩
 ·rw [f]
  by_cases e:l[i]=58
  ·left
   refine ⟨i,h,d,e,?_⟩
   simp [e]
  ·right
   refine ⟨?_,.inr ⟨i,h,d,e⟩⟩
   split
   ·rename_i q;simp only [List.cons.injEq] at q;exact absurd q.1 e
   ·rfl
end
end Go.Proofs.YtegmcmgndllmaaaGreatDoor
