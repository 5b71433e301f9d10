/-
  What the law ResolveMeets leans on, and its walk (13 of 46).
-/
import Derived.Lib.LastIndexByte
import Derived.Lib.IndexAny
import Derived.Test.YtmjappnpedjlnaaGreatDoorResolveMeetsPkL
namespace Go.Proofs.YtmjappnpedjlnaaGreatDoor
set_option maxRecDepth 100000
set_option maxHeartbeats 16000000
section
open Go.RowKit
def pctA:List UInt8→Bool
 |c::d::e::_=>c==37&&hexA d&&hexA e
 |_=>false
theorem ylC: ∀d:Fin 256,hexA (UInt8.ofNat d.val)=true→zhN (UInt8.ofNat d.val)=true∧(UInt8.ofNat d.val==37)=false:=by decide+kernel
theorem ygN {c:UInt8} (h:hexA c=true):zhN c=true∧(c==37)=false:=by
 have:=ylC ⟨c.toNat,c.toNat_lt⟩
 simp only [UInt8.ofNat_toNat] at this
 exact this h
theorem ykT {of l:List UInt8} (h:pctA l=true):isA of l=isA of (l.drop 3):=by
 match l,h with
 |c::d::e::l,h=>
  conv=>lhs;unfold isA
  rw [if_pos (show (c==37&&hexA d&&hexA e)=true from h)]
  rfl
theorem z9D {of:List UInt8} {c:UInt8} {l:List UInt8} (h:pctA (c::l)=false):isA of (c::l)=((zhN c||of.contains c)&&isA of l):=by
 match l,h with
 |[],_=>simp [isA]
 |[d],_=>rfl
 |d::e::l,h=>
  conv=>lhs;unfold isA
  rw [if_neg (by rw [show (c==37&&hexA d&&hexA e)=false from h];exact Bool.false_ne_true)]
theorem z6I {of:List UInt8} {c:UInt8} {l:List UInt8} (h:hexA c=true):isA of (c::l)=isA of l:=by
 obtain ⟨h1,h2⟩:=ygN h
 rw [z9D,h1]
 ·simp
 ·match l with
  |[]=>rfl
  |[_]=>rfl
  |d::e::l=>simp [pctA,h2]
theorem zgA {of:List UInt8} (c:UInt8) (l:List UInt8):isA of (c::l)=((zhN c||pctA (c::l)||of.contains c)&&isA of l):=by
 cases h:pctA (c::l) with
 |false=>rw [z9D h];simp
 |true=>
  rw [ykT h]
  match l,h with
  |d::e::l,h=>
   simp only [pctA,Bool.and_eq_true] at h
   show isA of l=_
   rw [z6I h.1.2,z6I h.2]
   simp
/-! ### places -/
theorem z3J (l:List UInt8) (j:Nat) (h:j<l.length):(ByteArray.mk l.toArray).data[j]! =l[j]:=by
 show l.toArray[j]! =_
 rw [getElem!_pos l.toArray j (by simpa using h)]
 simp
theorem ygZ (l:List UInt8):(ByteArray.mk l.toArray).size=l.length:=by simp [ByteArray.size]
theorem u8A {a b:UInt8} (h:(a.toNat:Int)=(b.toNat:Int)):a=b:=UInt8.toNat_inj.1 (by omega)
theorem zrK (r t:List UInt8) (c:UInt8) (h:c∉t):Lib.lastIndexByte ⟨(r++c::t).toArray⟩ (c.toNat:Int)=(r.length:Nat):=by
 have hl:(r++c::t).length=r.length+t.length+1:=by simp;omega
 rcases Lib.lastIndexByte_spec ⟨(r++c::t).toArray⟩ (c.toNat:Int) with ⟨_,h2⟩|⟨i,h1,h2,h3,h4⟩
 ·have:=h2 r.length (by rw [ygZ,hl];omega)
  rw [z3J _ _ (by rw [hl];omega)] at this
  simp at this
 ·rw [ygZ,hl] at h1
  rw [z3J _ _ (by rw [hl];omega)] at h3
  rw [h2]
  by_cases e:i<r.length
  ·have:=h4 r.length e (by rw [ygZ,hl];omega)
   rw [z3J _ _ (by rw [hl];omega)] at this
   simp at this
  ·by_cases e2:i=r.length
   ·rw [e2]
   ·have h3:=u8A h3
    rw [List.getElem_append_right (by omega)] at h3
    obtain ⟨k,hk⟩: ∃k,i - r.length=k+1:=⟨i - r.length - 1,by omega⟩
    simp only [hk,List.getElem_cons_succ] at h3
    exact absurd (h3▸List.getElem_mem _) h
theorem zmK (r t:List UInt8) (c:UInt8) (h:c∉t):Lib.lastIndexByte ⟨(r++t).toArray⟩ (c.toNat:Int)<(r.length:Nat):=by
 rcases Lib.lastIndexByte_spec ⟨(r++t).toArray⟩ (c.toNat:Int) with ⟨h1,_⟩|⟨i,h1,h2,h3,_⟩
 ·rw [h1];omega
 ·rw [ygZ] at h1
  rw [z3J _ _ h1] at h3
  rw [h2]
  by_cases e:i<r.length
  ·omega
  ·have h3:=u8A h3
   rw [List.getElem_append_right (by omega)] at h3
   exact absurd (h3▸List.getElem_mem _) h
theorem z0R (l:List UInt8) (c:Int): -1≤Lib.lastIndexByte ⟨l.toArray⟩ c:=by
 rcases Lib.lastIndexByte_spec ⟨l.toArray⟩ c with ⟨h1,_⟩|⟨i,_,h2,_⟩<;>omega
theorem zpM (a:List UInt8):(∃i:Nat,i<a.length∧Lib.lastIndexByte ⟨a.toArray⟩ 58=i∧Lib.lastIndexByte ⟨a.toArray⟩ 93<i∧zcM a=(a.take i,true,a.drop (i+1)))∨(Lib.lastIndexByte ⟨a.toArray⟩ 58≤Lib.lastIndexByte ⟨a.toArray⟩ 93∧zcM a=(a,false,[])):=by
 have h1:=zcR (fun c=>c==58||c==93) a.reverse
 have h2:=zdW (fun c=>c==58||c==93) a.reverse
 have h3:=zhG (fun c=>c==58||c==93) a.reverse
 have hp:zcM a=(match (zaO (fun c=>c==58||c==93) a.reverse).2 with
  |58::r=>(r.reverse,true,(zaO (fun c=>c==58||c==93) a.reverse).1.reverse)
  |_=>(a,false,[])):=rfl
 generalize (zaO (fun c=>c==58||c==93) a.reverse).1=t at*
 generalize (zaO (fun c=>c==58||c==93) a.reverse).2=q at*
 have ha:=congrArg List.reverse h1
 rw [List.reverse_reverse,List.reverse_append] at ha
 have n1:(58:UInt8)∉t.reverse:=fun h=>by have:=h2 58 (by simpa using h);simp at this
 have n2:(93:UInt8)∉t.reverse:=fun h=>by have:=h2 93 (by simpa using h);simp at this
 rcases h3 with rfl|⟨c,r,rfl,hc⟩
 ·right
  have ha:a=t.reverse:=by simpa using ha
  have e1:=zmK [] t.reverse 58 n1
  have e2:=zmK [] t.reverse 93 n2
  have e3:=z0R a 93
  have e4:=z0R a 58
  rw [List.nil_append,←ha] at e1 e2
  refine ⟨?_,hp⟩
  have e1:Lib.lastIndexByte ⟨a.toArray⟩ 58<0:=e1
  omega
 ·rw [List.reverse_cons,List.append_assoc] at ha
  by_cases h58:c=58
  ·subst h58
   left
   have e1:=zrK r.reverse t.reverse 58 n1
   have e2:=zmK r.reverse ([58]++t.reverse) 93 (by simp;simpa using n2)
   have ha':a=r.reverse++58::t.reverse:=ha
   refine ⟨r.reverse.length,by rw [ha'];simp,?_,?_,?_⟩
   ·rw [ha'];exact e1
   ·rw [ha'];exact e2
   ·rw [hp,ha',List.take_left,List.drop_append]
    simp
  ·right
   have h93:c=93:=by
    simp only [Bool.or_eq_true,beq_iff_eq] at hc
    exact hc.resolve_left h58
   subst h93
   have e1:=zrK r.reverse t.reverse 93 n2
   have e2:=zmK r.reverse ([93]++t.reverse) 58 (by simp;simpa using n1)
   have ha':a=r.reverse++93::t.reverse:=ha
   refine ⟨?_,hp⟩
   rw [ha']
   have e1:Lib.lastIndexByte ⟨(r.reverse++93::t.reverse).toArray⟩ 93=(r.reverse.length:Nat):=e1
   have e2:Lib.lastIndexByte ⟨(r.reverse++93::t.reverse).toArray⟩ 58<(r.reverse.length:Nat):=e2
   omega
theorem zlR (ch l:List UInt8):((zaO ch.contains l).2=[]∧Lib.indexAny l ch= -1∧ ∀c∈l,ch.contains c=false)∨(∃(i:Nat) (h:i<l.length),Lib.indexAny l ch=i∧zaO ch.contains l=(l.take i,l[i]::l.drop (i+1))∧ch.contains l[i]=true):=by
 induction l with
 |nil=>exact .inl ⟨rfl,rfl,fun _ h=>by cases h⟩
 |cons c l ih=>
  cases hc:ch.contains c with
  |true=>
   refine .inr ⟨0,by simp,?_,?_,hc⟩
   ·unfold Lib.indexAny;rw [hc];rfl
   ·unfold zaO;rw [hc];simp
  |false=>
   rcases ih with ⟨h1,h2,h3⟩|⟨i,h,h1,h2,h3⟩
   ·refine .inl ⟨?_,?_,?_⟩
    ·unfold zaO;rw [hc];exact h1
    ·unfold Lib.indexAny;rw [hc,h2];rfl
    ·intro d hd
     rcases List.mem_cons.1 hd with rfl|hd
     ·exact hc
     ·exact h3 d hd
   ·refine .inr ⟨i+1,by simp;omega,?_,?_,?_⟩
    ·unfold Lib.indexAny
     rw [hc,h1]
     simp
    ·unfold zaO;rw [hc,h2];simp
    ·simpa using h3
theorem yaC:zfO=[58,47,63,35].contains:=by
 funext c
 rw [Bool.eq_iff_iff]
 simp [zfO,or_assoc]
theorem z5L (l:List UInt8):(∃(i:Nat) (h:i<l.length),Lib.indexAny l [58,47,63,35]=i∧l[i]=58∧zaK l=(true,l.take i,l.drop (i+1)))∨(zaK l=(false,[],l)∧(Lib.indexAny l [58,47,63,35]= -1∨ ∃(i:Nat) (h:i<l.length),Lib.indexAny l [58,47,63,35]=i∧l[i]≠58)):=by
 unfold zaK
 rw [yaC]
 rcases zlR [58,47,63,35] l with ⟨h1,h2,_⟩|⟨i,h,h1,h2,h3⟩
 ·rw [h1]
  exact .inr ⟨rfl,.inl h2⟩
 ·rw [h2]
  by_cases e:l[i]=58
  ·left
   refine ⟨i,h,h1,e,?_⟩
   simp [e]
  ·right
   refine ⟨?_,.inr ⟨i,h,h1,e⟩⟩
   split
   ·rename_i q;simp only [List.cons.injEq] at q;exact absurd q.1 e
   ·rfl
end
end Go.Proofs.YtmjappnpedjlnaaGreatDoor
