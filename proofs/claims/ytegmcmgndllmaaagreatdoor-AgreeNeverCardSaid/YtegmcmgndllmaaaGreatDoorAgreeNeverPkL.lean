/-
  What the law AgreeNever leans on, and its walk (12 of 42).
-/
import Derived.Below
namespace Go.Proofs.YtegmcmgndllmaaaGreatDoor
set_option maxRecDepth 100000
set_option maxHeartbeats 16000000
section
open Go.RowKit
structure PZ where
 scheme:List UInt8
 hasS:Bool
 user:List UInt8
 hasU:Bool
 host:List UInt8
 hasA:Bool
 port:List UInt8
 hasP:Bool
 path:List UInt8
 query:List UInt8
 hasQ:Bool
 frag:List UInt8
 hasF:Bool
 deriving DecidableEq
def zbH:PZ:=⟨[],false,[],false,[],false,[],false,[],[],false,[],false⟩
def zaS (q:UInt8→Bool):List UInt8→List UInt8×List UInt8
 |[]=>([],[])
 |c::l=>if q c then ([],c::l) else (c::(zaS q l).1,(zaS q l).2)
theorem zdM (q:UInt8→Bool) (l:List UInt8):l=(zaS q l).1++(zaS q l).2:=by
 induction l with
 |nil=>rfl
 |cons c l d=>unfold zaS;split;rfl;rw [List.cons_append,←d]
theorem zeR (q:UInt8→Bool) (l:List UInt8): ∀c∈(zaS q l).1,q c=false:=by
 induction l with
 |nil=>exact fun _ h=>(by cases h)
 |cons c l i=>
  unfold zaS
  split
  ·exact fun _ h=>(by cases h)
  ·rename_i j
   intro d f
   rcases List.mem_cons.1 f with rfl|f
   ·simpa using j
   ·exact i d f
theorem zgK (q:UInt8→Bool) (l:List UInt8):(zaS q l).2=[]∨ ∃c r,(zaS q l).2=c::r∧q c=true:=by
 induction l with
 |nil=>exact .inl rfl
 |cons c l d=>
  unfold zaS
  split
  ·rename_i f;exact .inr ⟨c,l,rfl,f⟩
  ·exact d
theorem zoT (q:UInt8→Bool): ∀{a b:List UInt8},(∀c∈a,q c=false)→(b=[]∨ ∃c r,b=c::r∧q c=true)→zaS q (a++b)=(a,b)
 |[],b,_,f=>by
  rcases f with rfl|⟨c,r,rfl,m⟩
  ·rfl
  ·show (if q c=true then _ else _)=_
   rw [if_pos m]
 |c::a,b,i,f=>by
  have h:=i c (by simp)
  show (if q c=true then _ else (c::(zaS q (a++b)).1,(zaS q (a++b)).2))=_
  rw [if_neg (by rw [h];exact Bool.false_ne_true),zoT q (fun d j=>i d (by simp [j])) f]
def zhB (c:UInt8):Bool:=c==58||c==47||c==63||c==35
def zaO (s:List UInt8):Bool×List UInt8×List UInt8:=
 match (zaS zhB s).2 with
 |58::r=>(true,(zaS zhB s).1,r)
 |_=>(false,[],s)
def cutA (b:UInt8) (s:List UInt8):List UInt8×Bool×List UInt8:=
 match (zaS (· ==b) s).2 with
 |[]=>(s,false,[])
 |_::r=>((zaS (· ==b) s).1,true,r)
def zdW (a:List UInt8):List UInt8×Bool×List UInt8:=
 match (zaS (fun c=>c==58||c==93) a.reverse).2 with
 |58::r=>(r.reverse,true,(zaS (fun c=>c==58||c==93) a.reverse).1.reverse)
 |_=>(a,false,[])
def zeO (a:List UInt8):Bool×List UInt8×List UInt8×Bool×List UInt8:=
 match cutA 64 a with
 |(u,true,r)=>(true,u,(zdW r).1,(zdW r).2.1,(zdW r).2.2)
 |(_,false,_)=>(false,[],(zdW a).1,(zdW a).2.1,(zdW a).2.2)
def zdI (s:List UInt8):List UInt8×Bool×(Bool×List UInt8×List UInt8×Bool×List UInt8):=
 match s with
 |47::47::r=>((zaS (· ==47) r).2,true,zeO (zaS (· ==47) r).1)
 |s=>(s,false,(false,[],[],false,[]))
def zbK (s:List UInt8):PZ:=
 let x:=zaO s
 let f:=cutA 35 x.2.2
 let q:=cutA 63 f.1
 let h:=zdI q.1
 ⟨x.2.1,x.1,h.2.2.2.1,h.2.2.1,h.2.2.2.2.1,h.2.1,h.2.2.2.2.2.2,h.2.2.2.2.2.1,h.1,q.2.2,q.2.1,f.2.2,f.2.1⟩
def yhO (p:PZ):List UInt8:=
 (if p.hasA then 47::47::((if p.hasU then p.user++[64] else [])++(p.host++(if p.hasP then 58::p.port else []))) else [])++p.path
def zzD (p:PZ):List UInt8:=
 (if p.hasS then p.scheme++[58] else [])++(yhO p++((if p.hasQ then 63::p.query else [])++(if p.hasF then 35::p.frag else [])))
theorem zgW (b:UInt8) (s:List UInt8):s=(cutA b s).1++(if (cutA b s).2.1 then b::(cutA b s).2.2 else [])∧(∀c∈(cutA b s).1,(c==b)=false)∧((cutA b s).2.1=false→(cutA b s).2.2=[]):=by
 have f:=zdM (· ==b) s
 have j:=zeR (· ==b) s
 have i:=zgK (· ==b) s
 unfold cutA
 split
 ·rename_i e
  rw [e,List.append_nil] at f
  refine ⟨by simp,?_,fun _=>rfl⟩
  rw [←f] at j
  exact j
 ·rename_i c r e
  rw [e] at f i
  rcases i with i|⟨d,t,m,o⟩
  ·cases i
  ·cases m
   have:c=b:=by simpa using o
   subst this
   exact ⟨f,j,fun h=>by cases h⟩
theorem zhY (s:List UInt8):s=(if (zaO s).1 then (zaO s).2.1++[58] else [])++(zaO s).2.2∧((zaO s).1=false→(zaO s).2.1=[]):=by
 have d:=zdM zhB s
 unfold zaO
 split
 ·rename_i r e
  rw [e] at d
  refine ⟨?_,fun h=>by cases h⟩
  show s=((zaS zhB s).1++[58])++r
  rw [List.append_assoc]
  exact d
 ·exact ⟨rfl,fun _=>rfl⟩
theorem zzJ (a:List UInt8):a=(zdW a).1++(if (zdW a).2.1 then 58::(zdW a).2.2 else []):=by
 have d:=zdM (fun c=>c==58||c==93) a.reverse
 unfold zdW
 split
 ·rename_i r e
  rw [e] at d
  generalize (zaS (fun c=>c==58||c==93) a.reverse).1=t at*
  have f:=congrArg List.reverse d
  rw [List.reverse_reverse] at f
  show a=r.reverse++58::t.reverse
  rw [f]
  simp
 ·simp
theorem ydI (a:List UInt8):a=(if (zeO a).1 then (zeO a).2.1++[64] else [])++((zeO a).2.2.1++(if (zeO a).2.2.2.1 then 58::(zeO a).2.2.2.2 else [])):=by
 obtain ⟨d,_,f⟩:=zgW 64 a
 unfold zeO
 generalize cutA 64 a=x at*
 obtain ⟨u,b,r⟩:=x
 cases b with
 |true=>
  show a=(u++[64])++_
  have i:=zzJ r
  rw [List.append_assoc]
  show a=u++(64::_)
  have d:a=u++64::r:=d
  rw [d]
  congr 2
 |false=>exact zzJ a
theorem ydH (s:List UInt8):s=(if (zdI s).2.1 then 47::47::((if (zdI s).2.2.1 then (zdI s).2.2.2.1++[64] else [])++((zdI s).2.2.2.2.1++(if (zdI s).2.2.2.2.2.1 then 58::(zdI s).2.2.2.2.2.2 else []))) else [])++(zdI s).1:=by
 unfold zdI
 split
 ·rename_i r
  have f:=zdM (· ==47) r
  have d:=ydI (zaS (· ==47) r).1
  show 47::47::r=(47::47::_)++_
  rw [List.cons_append,List.cons_append,←d,←f]
 ·rfl
theorem z1D (s:List UInt8):zzD (zbK s)=s:=by
 obtain ⟨f,_⟩:=zhY s
 obtain ⟨i,_⟩:=zgW 35 (zaO s).2.2
 obtain ⟨j,_⟩:=zgW 63 (cutA 35 (zaO s).2.2).1
 have d:=ydH (cutA 63 (cutA 35 (zaO s).2.2).1).1
 unfold zzD yhO zbK
 simp only
 rw [←d]
 conv=>rhs;rw [f,i,j]
 simp only [List.append_assoc]
/-! ### what may stand where -/
def zgB (c:UInt8):Bool:=(65≤c.toNat&&c.toNat≤90)||(97≤c.toNat&&c.toNat≤122)
def zdD (c:UInt8):Bool:=48≤c.toNat&&c.toNat≤57
def hexA (c:UInt8):Bool:=zdD c||(65≤c.toNat&&c.toNat≤70)||(97≤c.toNat&&c.toNat≤102)
def ziJ (c:UInt8):Bool:=zgB c||zdD c||[45,46,95,126].contains c||[33,36,38,39,40,41,42,43,44,59,61].contains c
def isA (f:List UInt8):List UInt8→Bool
 |[]=>true
 |[c]=>ziJ c||f.contains c
 |[c,d]=>(ziJ c||f.contains c)&&(ziJ d||f.contains d)
 |c::d::e::l=>if c==37&&hexA d&&hexA e then isA f l else (ziJ c||f.contains c)&&isA f (d::e::l)
def zcZ (s:List UInt8):Bool:=
 match s with
 |[]=>false
 |c::l=>zgB c&&l.all fun d=>zgB d||zdD d||[43,45,46].contains d
def zfK (s:List UInt8):Bool:=
 match s with
 |[]=>false
 |c::l=>(c==118||c==86)&&(match zaS (· ==46) l with
  |(d,_::r)=> !d.isEmpty&& !r.isEmpty&&d.all hexA&&isA [58] r&& !r.contains 37
  |_=>false)
def zfW (six:List UInt8→Bool) (s:List UInt8):Bool:=
 match s with
 |91::l=>l.getLast? ==some 93&&(six l.dropLast||zfK l.dropLast)
 |s=>isA [] s
def z8F (s:List UInt8) (hasS hasA:Bool):Bool:=
 isA [58,64,47] s&&(if hasA then s.isEmpty||s.head? ==some 47 else (s.take 2 !=[47,47])&&(hasS||(zaS (fun c=>c==58||c==47) s).2.head? !=some 58))
def zpK (six:List UInt8→Bool) (p:PZ):Bool:=
 (!p.hasA||(isA [58] p.user&&zfW six p.host&&p.port.all zdD))&&z8F p.path p.hasS p.hasA&&isA [58,64,47,63] p.query&&isA [58,64,47,63] p.frag
def zdK (six:List UInt8→Bool) (s:List UInt8):PZ×Int:=
 if 4096<s.length then (zbH,3)
 else if (zbK s).hasS&& !zcZ (zbK s).scheme then (zbH,5)
 else if zpK six (zbK s) then (zbK s,0) else (zbH,11)
theorem zsX {six:List UInt8→Bool} {s:List UInt8} (h:(zdK six s).2=0):s.length≤4096∧((zbK s).hasS&& !zcZ (zbK s).scheme)=false∧zpK six (zbK s)=true∧zdK six s=(zbK s,0):=by
 unfold zdK at h ⊢
 split at h
 ·cases h
 ·rename_i i
  split at h
  ·cases h
  ·rename_i d
   split at h
   ·rename_i f
    rw [if_neg i,if_neg d,if_pos f]
    exact ⟨by omega,by simpa using d,f,rfl⟩
   ·cases h
end
end Go.Proofs.YtegmcmgndllmaaaGreatDoor
