/-
  What the law AuthorityAgrees leans on, and its walk (12 of 43).
-/
import Derived.Below
namespace Go.Proofs.YtegmcmgndllmaaaGreatDoor
set_option maxRecDepth 100000
set_option maxHeartbeats 16000000
section
open Go.RowKit
structure PZ where
 scheme:List UInt8
 hasS:Bool
 user:List UInt8
 hasU:Bool
 host:List UInt8
 hasA:Bool
 port:List UInt8
 hasP:Bool
 path:List UInt8
 query:List UInt8
 hasQ:Bool
 frag:List UInt8
 hasF:Bool
 deriving DecidableEq
def zaY:PZ:=⟨[],false,[],false,[],false,[],false,[],[],false,[],false⟩
def zaR (q:UInt8→Bool):List UInt8→List UInt8×List UInt8
 |[]=>([],[])
 |c::l=>if q c then ([],c::l) else (c::(zaR q l).1,(zaR q l).2)
theorem zfQ (q:UInt8→Bool) (l:List UInt8):l=(zaR q l).1++(zaR q l).2:=by
 induction l with
 |nil=>rfl
 |cons c l d=>unfold zaR;split;rfl;rw [List.cons_append,←d]
theorem zgI (q:UInt8→Bool) (l:List UInt8): ∀c∈(zaR q l).1,q c=false:=by
 induction l with
 |nil=>exact fun _ h=>(by cases h)
 |cons c l g=>
  unfold zaR
  split
  ·exact fun _ h=>(by cases h)
  ·rename_i f
   intro d e
   rcases List.mem_cons.1 e with rfl|e
   ·simpa using f
   ·exact g d e
theorem ziY (q:UInt8→Bool) (l:List UInt8):(zaR q l).2=[]∨ ∃c r,(zaR q l).2=c::r∧q c=true:=by
 induction l with
 |nil=>exact .inl rfl
 |cons c l e=>
  unfold zaR
  split
  ·rename_i d;exact .inr ⟨c,l,rfl,d⟩
  ·exact e
theorem zdM (q:UInt8→Bool): ∀{a b:List UInt8},(∀c∈a,q c=false)→(b=[]∨ ∃c r,b=c::r∧q c=true)→zaR q (a++b)=(a,b)
 |[],b,_,e=>by
  rcases e with rfl|⟨c,r,rfl,g⟩
  ·rfl
  ·show (if q c=true then _ else _)=_
   rw [if_pos g]
 |c::a,b,f,e=>by
  have h:=f c (by simp)
  show (if q c=true then _ else (c::(zaR q (a++b)).1,(zaR q (a++b)).2))=_
  rw [if_neg (by rw [h];exact Bool.false_ne_true),zdM q (fun d i=>f d (by simp [i])) e]
theorem zpX (q:UInt8→Bool) {a:List UInt8} (d: ∀c∈a,q c=false):zaR q a=(a,[]):=by
 have:=zdM q (b:=[]) d (.inl rfl)
 simpa using this
def zfJ (c:UInt8):Bool:=c==58||c==47||c==63||c==35
def zaO (s:List UInt8):Bool×List UInt8×List UInt8:=
 match (zaR zfJ s).2 with
 |58::r=>(true,(zaR zfJ s).1,r)
 |_=>(false,[],s)
def cutA (b:UInt8) (s:List UInt8):List UInt8×Bool×List UInt8:=
 match (zaR (· ==b) s).2 with
 |[]=>(s,false,[])
 |_::r=>((zaR (· ==b) s).1,true,r)
def zcW (a:List UInt8):List UInt8×Bool×List UInt8:=
 match (zaR (fun c=>c==58||c==93) a.reverse).2 with
 |58::r=>(r.reverse,true,(zaR (fun c=>c==58||c==93) a.reverse).1.reverse)
 |_=>(a,false,[])
def zeT (a:List UInt8):Bool×List UInt8×List UInt8×Bool×List UInt8:=
 match cutA 64 a with
 |(u,true,r)=>(true,u,(zcW r).1,(zcW r).2.1,(zcW r).2.2)
 |(_,false,_)=>(false,[],(zcW a).1,(zcW a).2.1,(zcW a).2.2)
def zfL (s:List UInt8):List UInt8×Bool×(Bool×List UInt8×List UInt8×Bool×List UInt8):=
 match s with
 |47::47::r=>((zaR (· ==47) r).2,true,zeT (zaR (· ==47) r).1)
 |s=>(s,false,(false,[],[],false,[]))
def zcJ (s:List UInt8):PZ:=
 let x:=zaO s
 let f:=cutA 35 x.2.2
 let q:=cutA 63 f.1
 let h:=zfL q.1
 ⟨x.2.1,x.1,h.2.2.2.1,h.2.2.1,h.2.2.2.2.1,h.2.1,h.2.2.2.2.2.2,h.2.2.2.2.2.1,h.1,q.2.2,q.2.1,f.2.2,f.2.1⟩
def ykW (p:PZ):List UInt8:=
 (if p.hasA then 47::47::((if p.hasU then p.user++[64] else [])++(p.host++(if p.hasP then 58::p.port else []))) else [])++p.path
def zpK (p:PZ):List UInt8:=
 (if p.hasS then p.scheme++[58] else [])++(ykW p++((if p.hasQ then 63::p.query else [])++(if p.hasF then 35::p.frag else [])))
theorem zqL (b:UInt8) (s:List UInt8):s=(cutA b s).1++(if (cutA b s).2.1 then b::(cutA b s).2.2 else [])∧(∀c∈(cutA b s).1,(c==b)=false)∧((cutA b s).2.1=false→(cutA b s).2.2=[]):=by
 have f:=zfQ (· ==b) s
 have i:=zgI (· ==b) s
 have g:=ziY (· ==b) s
 unfold cutA
 split
 ·rename_i e
  rw [e,List.append_nil] at f
  refine ⟨by simp,?_,fun _=>rfl⟩
  rw [←f] at i
  exact i
 ·rename_i c r e
  rw [e] at f g
  rcases g with g|⟨d,t,m,j⟩
  ·cases g
  ·cases m
   have:c=b:=by simpa using j
   subst this
   exact ⟨f,i,fun h=>by cases h⟩
theorem zqW {b:UInt8} {a:List UInt8} (d: ∀c∈a,(c==b)=false) (r:List UInt8):cutA b (a++b::r)=(a,true,r):=by
 unfold cutA
 rw [zdM (· ==b) d (.inr ⟨b,r,rfl,by simp⟩)]
theorem zmE {b:UInt8} {a:List UInt8} (d: ∀c∈a,(c==b)=false):cutA b a=(a,false,[]):=by
 unfold cutA
 rw [zpX (· ==b) d]
theorem zqC (s:List UInt8):s=(if (zaO s).1 then (zaO s).2.1++[58] else [])++(zaO s).2.2∧((zaO s).1=false→(zaO s).2.1=[]):=by
 have d:=zfQ zfJ s
 unfold zaO
 split
 ·rename_i r e
  rw [e] at d
  refine ⟨?_,fun h=>by cases h⟩
  show s=((zaR zfJ s).1++[58])++r
  rw [List.append_assoc]
  exact d
 ·exact ⟨rfl,fun _=>rfl⟩
/-! ### what may stand where -/
def zgY (c:UInt8):Bool:=(65≤c.toNat&&c.toNat≤90)||(97≤c.toNat&&c.toNat≤122)
def zdF (c:UInt8):Bool:=48≤c.toNat&&c.toNat≤57
def hexA (c:UInt8):Bool:=zdF c||(65≤c.toNat&&c.toNat≤70)||(97≤c.toNat&&c.toNat≤102)
def zjZ (c:UInt8):Bool:=zgY c||zdF c||[45,46,95,126].contains c||[33,36,38,39,40,41,42,43,44,59,61].contains c
def isA (of:List UInt8):List UInt8→Bool
 |[]=>true
 |[c]=>zjZ c||of.contains c
 |[c,d]=>(zjZ c||of.contains c)&&(zjZ d||of.contains d)
 |c::d::e::l=>if c==37&&hexA d&&hexA e then isA of l else (zjZ c||of.contains c)&&isA of (d::e::l)
def zeA (s:List UInt8):Bool:=
 match s with
 |[]=>false
 |c::l=>zgY c&&l.all fun d=>zgY d||zdF d||[43,45,46].contains d
def zhP (s:List UInt8):Bool:=
 match s with
 |[]=>false
 |c::l=>(c==118||c==86)&&(match zaR (· ==46) l with
  |(d,_::r)=> !d.isEmpty&& !r.isEmpty&&d.all hexA&&isA [58] r&& !r.contains 37
  |_=>false)
def zhH (six:List UInt8→Bool) (s:List UInt8):Bool:=
 match s with
 |91::l=>l.getLast? ==some 93&&(six l.dropLast||zhP l.dropLast)
 |s=>isA [] s
def yjD (s:List UInt8) (hasS hasA:Bool):Bool:=
 isA [58,64,47] s&&(if hasA then s.isEmpty||s.head? ==some 47 else (s.take 2 !=[47,47])&&(hasS||(zaR (fun c=>c==58||c==47) s).2.head? !=some 58))
def z0S (six:List UInt8→Bool) (p:PZ):Bool:=
 (!p.hasA||(isA [58] p.user&&zhH six p.host&&p.port.all zdF))&&yjD p.path p.hasS p.hasA&&isA [58,64,47,63] p.query&&isA [58,64,47,63] p.frag
def zfA (six:List UInt8→Bool) (s:List UInt8):PZ×Int:=
 if 4096<s.length then (zaY,3)
 else if (zcJ s).hasS&& !zeA (zcJ s).scheme then (zaY,5)
 else if z0S six (zcJ s) then (zcJ s,0) else (zaY,11)
theorem ybN {six:List UInt8→Bool} {s:List UInt8} (h:(zfA six s).2=0):s.length≤4096∧((zcJ s).hasS&& !zeA (zcJ s).scheme)=false∧z0S six (zcJ s)=true∧zfA six s=(zcJ s,0):=by
 unfold zfA at h ⊢
 split at h
 ·cases h
 ·rename_i f
  split at h
  ·cases h
  ·rename_i e
   split at h
   ·rename_i d
    rw [if_neg f,if_neg e,if_pos d]
    exact ⟨by omega,by simpa using e,d,rfl⟩
   ·cases h
end
end Go.Proofs.YtegmcmgndllmaaaGreatDoor
