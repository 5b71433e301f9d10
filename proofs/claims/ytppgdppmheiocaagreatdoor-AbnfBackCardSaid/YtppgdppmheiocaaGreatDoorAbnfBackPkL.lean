/-
  What the law AbnfBack leans on, and its walk (12 of 27).
-/
import Derived.Below
namespace Go.Proofs.YtppgdppmheiocaaGreatDoor
set_option maxRecDepth 100000
set_option maxHeartbeats 16000000
section
open Go.RowKit
structure PZ where
 scheme:List UInt8
 hasS:Bool
 user:List UInt8
 hasU:Bool
 host:List UInt8
 hasA:Bool
 port:List UInt8
 hasP:Bool
 path:List UInt8
 query:List UInt8
 hasQ:Bool
 frag:List UInt8
 hasF:Bool
 deriving DecidableEq
def zaJ:PZ:=⟨[],false,[],false,[],false,[],false,[],[],false,[],false⟩
def zaG (q:UInt8→Bool):List UInt8→List UInt8×List UInt8
 |[]=>([],[])
 |c::l=>if q c then ([],c::l) else (c::(zaG q l).1,(zaG q l).2)
theorem zbI (q:UInt8→Bool) (l:List UInt8):l=(zaG q l).1++(zaG q l).2:=by
 induction l with
 |nil=>rfl
 |cons c l ih=>unfold zaG;split;rfl;rw [List.cons_append,←ih]
theorem zbP (q:UInt8→Bool) (l:List UInt8): ∀c∈(zaG q l).1,q c=false:=by
 induction l with
 |nil=>exact fun _ h=>(by cases h)
 |cons c l ih=>
  unfold zaG
  split
  ·exact fun _ h=>(by cases h)
  ·rename_i hc
   intro d hd
   rcases List.mem_cons.1 hd with rfl|hd
   ·simpa using hc
   ·exact ih d hd
theorem zdE (q:UInt8→Bool) (l:List UInt8):(zaG q l).2=[]∨ ∃c r,(zaG q l).2=c::r∧q c=true:=by
 induction l with
 |nil=>exact .inl rfl
 |cons c l ih=>
  unfold zaG
  split
  ·rename_i hc;exact .inr ⟨c,l,rfl,hc⟩
  ·exact ih
theorem zcU (q:UInt8→Bool): ∀{a b:List UInt8},(∀c∈a,q c=false)→(b=[]∨ ∃c r,b=c::r∧q c=true)→zaG q (a++b)=(a,b)
 |[],b,_,hb=>by
  rcases hb with rfl|⟨c,r,rfl,hc⟩
  ·rfl
  ·show (if q c=true then _ else _)=_
   rw [if_pos hc]
 |c::a,b,ha,hb=>by
  have h:=ha c (by simp)
  show (if q c=true then _ else (c::(zaG q (a++b)).1,(zaG q (a++b)).2))=_
  rw [if_neg (by rw [h];exact Bool.false_ne_true),zcU q (fun d hd=>ha d (by simp [hd])) hb]
theorem zmA (q:UInt8→Bool) {a:List UInt8} (ha: ∀c∈a,q c=false):zaG q a=(a,[]):=by
 have:=zcU q (b:=[]) ha (.inl rfl)
 simpa using this
def zbD (c:UInt8):Bool:=c==58||c==47||c==63||c==35
def zaB (s:List UInt8):Bool×List UInt8×List UInt8:=
 match (zaG zbD s).2 with
 |58::r=>(true,(zaG zbD s).1,r)
 |_=>(false,[],s)
def cutA (b:UInt8) (s:List UInt8):List UInt8×Bool×List UInt8:=
 match (zaG (· ==b) s).2 with
 |[]=>(s,false,[])
 |_::r=>((zaG (· ==b) s).1,true,r)
def zbQ (a:List UInt8):List UInt8×Bool×List UInt8:=
 match (zaG (fun c=>c==58||c==93) a.reverse).2 with
 |58::r=>(r.reverse,true,(zaG (fun c=>c==58||c==93) a.reverse).1.reverse)
 |_=>(a,false,[])
def zcK (a:List UInt8):Bool×List UInt8×List UInt8×Bool×List UInt8:=
 match cutA 64 a with
 |(u,true,r)=>(true,u,(zbQ r).1,(zbQ r).2.1,(zbQ r).2.2)
 |(_,false,_)=>(false,[],(zbQ a).1,(zbQ a).2.1,(zbQ a).2.2)
def zbR (s:List UInt8):List UInt8×Bool×(Bool×List UInt8×List UInt8×Bool×List UInt8):=
 match s with
 |47::47::r=>((zaG (· ==47) r).2,true,zcK (zaG (· ==47) r).1)
 |s=>(s,false,(false,[],[],false,[]))
def zaN (s:List UInt8):PZ:=
 let x:=zaB s
 let f:=cutA 35 x.2.2
 let q:=cutA 63 f.1
 let h:=zbR q.1
 ⟨x.2.1,x.1,h.2.2.2.1,h.2.2.1,h.2.2.2.2.1,h.2.1,h.2.2.2.2.2.2,h.2.2.2.2.2.1,h.1,q.2.2,q.2.1,f.2.2,f.2.1⟩
def zmS (p:PZ):List UInt8:=
 (if p.hasA then 47::47::((if p.hasU then p.user++[64] else [])++(p.host++(if p.hasP then 58::p.port else []))) else [])++p.path
def zaT (p:PZ):List UInt8:=
 (if p.hasS then p.scheme++[58] else [])++(zmS p++((if p.hasQ then 63::p.query else [])++(if p.hasF then 35::p.frag else [])))
theorem zcB (b:UInt8) (s:List UInt8):s=(cutA b s).1++(if (cutA b s).2.1 then b::(cutA b s).2.2 else [])∧(∀c∈(cutA b s).1,(c==b)=false)∧((cutA b s).2.1=false→(cutA b s).2.2=[]):=by
 have h1:=zbI (· ==b) s
 have h2:=zbP (· ==b) s
 have h3:=zdE (· ==b) s
 unfold cutA
 split
 ·rename_i e
  rw [e,List.append_nil] at h1
  refine ⟨by simp,?_,fun _=>rfl⟩
  rw [←h1] at h2
  exact h2
 ·rename_i c r e
  rw [e] at h1 h3
  rcases h3 with h3|⟨d,t,h4,h5⟩
  ·cases h3
  ·cases h4
   have:c=b:=by simpa using h5
   subst this
   exact ⟨h1,h2,fun h=>by cases h⟩
theorem zfP {b:UInt8} {a:List UInt8} (ha: ∀c∈a,(c==b)=false):cutA b a=(a,false,[]):=by
 unfold cutA
 rw [zmA (· ==b) ha]
theorem zeT (s:List UInt8):s=(if (zaB s).1 then (zaB s).2.1++[58] else [])++(zaB s).2.2∧((zaB s).1=false→(zaB s).2.1=[]):=by
 have h1:=zbI zbD s
 unfold zaB
 split
 ·rename_i r e
  rw [e] at h1
  refine ⟨?_,fun h=>by cases h⟩
  show s=((zaG zbD s).1++[58])++r
  rw [List.append_assoc]
  exact h1
 ·exact ⟨rfl,fun _=>rfl⟩
theorem zlA (a:List UInt8):a=(zbQ a).1++(if (zbQ a).2.1 then 58::(zbQ a).2.2 else []):=by
 have h1:=zbI (fun c=>c==58||c==93) a.reverse
 unfold zbQ
 split
 ·rename_i r e
  rw [e] at h1
  generalize (zaG (fun c=>c==58||c==93) a.reverse).1=t at*
  have h2:=congrArg List.reverse h1
  rw [List.reverse_reverse] at h2
  show a=r.reverse++58::t.reverse
  rw [h2]
  simp
 ·simp
theorem zrW (a:List UInt8):a=(if (zcK a).1 then (zcK a).2.1++[64] else [])++((zcK a).2.2.1++(if (zcK a).2.2.2.1 then 58::(zcK a).2.2.2.2 else [])):=by
 obtain ⟨h1,_,h3⟩:=zcB 64 a
 unfold zcK
 generalize cutA 64 a=x at*
 obtain ⟨u,b,r⟩:=x
 cases b with
 |true=>
  show a=(u++[64])++_
  have h2:=zlA r
  rw [List.append_assoc]
  show a=u++(64::_)
  have h1:a=u++64::r:=h1
  rw [h1]
  congr 2
 |false=>exact zlA a
theorem zhJ (s:List UInt8):s=(if (zbR s).2.1 then 47::47::((if (zbR s).2.2.1 then (zbR s).2.2.2.1++[64] else [])++((zbR s).2.2.2.2.1++(if (zbR s).2.2.2.2.2.1 then 58::(zbR s).2.2.2.2.2.2 else []))) else [])++(zbR s).1:=by
 unfold zbR
 split
 ·rename_i r
  have h1:=zbI (· ==47) r
  have h2:=zrW (zaG (· ==47) r).1
  show 47::47::r=(47::47::_)++_
  rw [List.cons_append,List.cons_append,←h2,←h1]
 ·rfl
theorem zgV (s:List UInt8):zaT (zaN s)=s:=by
 obtain ⟨h1,_⟩:=zeT s
 obtain ⟨h2,_⟩:=zcB 35 (zaB s).2.2
 obtain ⟨h3,_⟩:=zcB 63 (cutA 35 (zaB s).2.2).1
 have h4:=zhJ (cutA 63 (cutA 35 (zaB s).2.2).1).1
 unfold zaT zmS zaN
 simp only
 rw [←h4]
 conv=>rhs;rw [h1,h2,h3]
 simp only [List.append_assoc]
theorem zfM {s pre rest:List UInt8} (h:(zaB s).2.2=pre++rest) (_hr:rest=[]∨ ∃c r,rest=c::r∧zbD c=true∧c≠58):
  zaB ((if (zaB s).1 then (zaB s).2.1++[58] else [])++pre)=((zaB s).1,(zaB s).2.1,pre):=by
 have h1:=zbI zbD s
 have h2:=zbP zbD s
 have h3:=zdE zbD s
 unfold zaB at h ⊢
 split at h
 ·rename_i r e
  rw [e] at h1
  have e2:zaG zbD (((zaG zbD s).1++[58])++pre)=((zaG zbD s).1,58::pre):=by
   rw [List.append_assoc]
   exact zcU zbD h2 (.inr ⟨58,pre,rfl,by decide⟩)
  simp only [if_true]
  rw [e2]
  rfl
 ·rename_i hne
  have h:s=pre++rest:=h
  have key: ∀r,(zaG zbD pre).2≠58::r:=by
   intro r e
   have p1:=zbI zbD pre
   have p2:=zbP zbD pre
   rw [e] at p1
   have:zaG zbD s=((zaG zbD pre).1,58::(r++rest)):=by
    rw [h]
    conv=>lhs;rw [p1]
    rw [List.append_assoc]
    exact zcU zbD p2 (.inr ⟨58,r++rest,rfl,by decide⟩)
   exact hne _ (by rw [this])
  simp only [Bool.false_eq_true,if_false,List.nil_append]
def zbH (p:PZ):PZ:={p with frag:=[],hasF:=false}
def zbJ (p:PZ):PZ:={zbH p with query:=[],hasQ:=false}
theorem zhB {b:UInt8} {s:List UInt8} (hb:zbD b=true) (h58:b≠58): ∃rest,s=(cutA b s).1++rest∧(rest=[]∨ ∃c r,rest=c::r∧zbD c=true∧c≠58):=by
 obtain ⟨h1,_,_⟩:=zcB b s
 refine ⟨_,h1,?_⟩
 cases (cutA b s).2.1 with
 |false=>exact .inl rfl
 |true=>exact .inr ⟨b,_,rfl,hb,h58⟩
theorem zjR (s:List UInt8):zaT (zbH (zaN s))=(if (zaB s).1 then (zaB s).2.1++[58] else [])++(cutA 35 (zaB s).2.2).1:=by
 obtain ⟨h3,_⟩:=zcB 63 (cutA 35 (zaB s).2.2).1
 have h4:=zhJ (cutA 63 (cutA 35 (zaB s).2.2).1).1
 unfold zaT zmS zbH zaN
 simp only
 rw [←h4]
 conv=>rhs;rw [h3]
 simp
theorem zjE (s:List UInt8):zaT (zbJ (zaN s))=(if (zaB s).1 then (zaB s).2.1++[58] else [])++(cutA 63 (cutA 35 (zaB s).2.2).1).1:=by
 have h4:=zhJ (cutA 63 (cutA 35 (zaB s).2.2).1).1
 unfold zaT zmS zbJ zbH zaN
 simp only
 rw [←h4]
 simp
theorem zhR (s:List UInt8):zaN (zaT (zbH (zaN s)))=zbH (zaN s):=by
 rw [zjR]
 obtain ⟨rest,h1,h2⟩:=zhB (b:=35) (s:=(zaB s).2.2) (by decide) (by decide)
 have e:=zfM h1 h2
 have n:=(zcB 35 (zaB s).2.2).2.1
 have e2:=zfP n
 unfold zaN zbH
 simp only [e,e2]
theorem zgX (s:List UInt8):zaN (zaT (zbJ (zaN s)))=zbJ (zaN s):=by
 rw [zjE]
 obtain ⟨rest,h1,h2⟩:=zhB (b:=35) (s:=(zaB s).2.2) (by decide) (by decide)
 obtain ⟨rest2,h3,h4⟩:=zhB (b:=63) (s:=(cutA 35 (zaB s).2.2).1) (by decide) (by decide)
 have h5:(zaB s).2.2=(cutA 63 (cutA 35 (zaB s).2.2).1).1++(rest2++rest):=by rw [←List.append_assoc,←h3];exact h1
 have h6:(rest2++rest)=[]∨ ∃c r,(rest2++rest)=c::r∧zbD c=true∧c≠58:=by
  rcases h4 with rfl|⟨c,r,rfl,hc⟩
  ·exact h2
  ·exact .inr ⟨c,r++rest,rfl,hc⟩
 have e:=zfM h5 h6
 have n1:=(zcB 35 (zaB s).2.2).2.1
 have n2:=(zcB 63 (cutA 35 (zaB s).2.2).1).2.1
 have n3: ∀c∈(cutA 63 (cutA 35 (zaB s).2.2).1).1,(c==35)=false:=fun c hc=>n1 c (by rw [h3];exact List.mem_append.2 (.inl hc))
 have e2:=zfP n3
 have e3:=zfP n2
 unfold zaN zbJ zbH
 simp only [e,e2,e3]
/-! ### what may stand where -/
def zdM (c:UInt8):Bool:=(65≤c.toNat&&c.toNat≤90)||(97≤c.toNat&&c.toNat≤122)
def zbO (c:UInt8):Bool:=48≤c.toNat&&c.toNat≤57
def hexA (c:UInt8):Bool:=zbO c||(65≤c.toNat&&c.toNat≤70)||(97≤c.toNat&&c.toNat≤102)
def zeF (c:UInt8):Bool:=zdM c||zbO c||[45,46,95,126].contains c||[33,36,38,39,40,41,42,43,44,59,61].contains c
def isA (of:List UInt8):List UInt8→Bool
 |[]=>true
 |[c]=>zeF c||of.contains c
 |[c,d]=>(zeF c||of.contains c)&&(zeF d||of.contains d)
 |c::d::e::l=>if c==37&&hexA d&&hexA e then isA of l else (zeF c||of.contains c)&&isA of (d::e::l)
def zbT (s:List UInt8):Bool:=
 match s with
 |[]=>false
 |c::l=>zdM c&&l.all fun d=>zdM d||zbO d||[43,45,46].contains d
def zdG (s:List UInt8):Bool:=
 match s with
 |[]=>false
 |c::l=>(c==118||c==86)&&(match zaG (· ==46) l with
  |(d,_::r)=> !d.isEmpty&& !r.isEmpty&&d.all hexA&&isA [58] r&& !r.contains 37
  |_=>false)
def zdN (six:List UInt8→Bool) (s:List UInt8):Bool:=
 match s with
 |91::l=>l.getLast? ==some 93&&(six l.dropLast||zdG l.dropLast)
 |s=>isA [] s
def zsX (s:List UInt8) (hasS hasA:Bool):Bool:=
 isA [58,64,47] s&&(if hasA then s.isEmpty||s.head? ==some 47 else (s.take 2 !=[47,47])&&(hasS||(zaG (fun c=>c==58||c==47) s).2.head? !=some 58))
def zdK (six:List UInt8→Bool) (p:PZ):Bool:=
 (!p.hasA||(isA [58] p.user&&zdN six p.host&&p.port.all zbO))&&zsX p.path p.hasS p.hasA&&isA [58,64,47,63] p.query&&isA [58,64,47,63] p.frag
def zbE (six:List UInt8→Bool) (s:List UInt8):PZ×Int:=
 if 4096<s.length then (zaJ,3)
 else if (zaN s).hasS&& !zbT (zaN s).scheme then (zaJ,5)
 else if zdK six (zaN s) then (zaN s,0) else (zaJ,11)
def zeI (six:List UInt8→Bool) (p:PZ):Bool:=(zbE six (zaT p)).2==0&&p==(zbE six (zaT p)).1
theorem ziB {six:List UInt8→Bool} {s:List UInt8} (h:(zbE six s).2=0):s.length≤4096∧((zaN s).hasS&& !zbT (zaN s).scheme)=false∧zdK six (zaN s)=true∧zbE six s=(zaN s,0):=by
 unfold zbE at h ⊢
 split at h
 ·cases h
 ·rename_i h1
  split at h
  ·cases h
  ·rename_i h2
   split at h
   ·rename_i h3
    rw [if_neg h1,if_neg h2,if_pos h3]
    exact ⟨by omega,by simpa using h2,h3,rfl⟩
   ·cases h
theorem zhU {six:List UInt8→Bool} {s:List UInt8} {p:PZ} (hp:zaN s=p) (h1:s.length≤4096) (h2:(p.hasS&& !zbT p.scheme)=false) (h3:zdK six p=true):zbE six s=(p,0):=by
 subst hp
 unfold zbE
 rw [if_neg (by omega),if_neg (by rw [h2];exact Bool.false_ne_true),if_pos h3]
theorem zeC {six:List UInt8→Bool} {p:PZ} (h:zdK six p=true):zdK six (zbH p)=true:=by
 unfold zdK zbH at*
 simp only [Bool.and_eq_true] at h ⊢
 exact ⟨h.1,rfl⟩
theorem zgH {six:List UInt8→Bool} {p:PZ} (h:zdK six p=true):zdK six (zbJ p)=true:=by
 have h:=zeC h
 unfold zbJ
 unfold zdK at*
 simp only [Bool.and_eq_true] at h ⊢
 exact ⟨⟨h.1.1,rfl⟩,h.2⟩
theorem znR {six:List UInt8→Bool} {s:List UInt8} {p:PZ} (h:zbE six s=(p,0)):zaT p=s∧zeI six p=true∧zeI six (zbH p)=true∧zeI six (zbJ p)=true:=by
 obtain ⟨h1,h2,h3,h4⟩:=ziB (six:=six) (s:=s) (by rw [h])
 rw [h4] at h
 have hp:zaN s=p:=congrArg Prod.fst h
 subst hp
 have ht:=zgV s
 have l1:(zaT (zbH (zaN s))).length≤4096:=by
  have e:=congrArg List.length (zgV s)
  have:(zaT (zbH (zaN s))).length≤(zaT (zaN s)).length:=by
   unfold zaT zbH zmS
   simp only [List.length_append]
   simp only [Bool.false_eq_true,if_false,List.length_nil]
   omega
  omega
 have l2:(zaT (zbJ (zaN s))).length≤4096:=by
  have:(zaT (zbJ (zaN s))).length≤(zaT (zbH (zaN s))).length:=by
   unfold zaT zbJ zbH zmS
   simp only [List.length_append]
   simp only [Bool.false_eq_true,if_false,List.length_nil]
   omega
  omega
 refine ⟨ht,?_,?_,?_⟩
 ·unfold zeI
  rw [ht,h4]
  simp
 ·unfold zeI
  rw [zhU (six:=six) (zhR s) l1 h2 (zeC h3)]
  simp
 ·unfold zeI
  rw [zhU (six:=six) (zgX s) l2 h2 (zgH h3)]
  simp
end
end Go.Proofs.YtppgdppmheiocaaGreatDoor
