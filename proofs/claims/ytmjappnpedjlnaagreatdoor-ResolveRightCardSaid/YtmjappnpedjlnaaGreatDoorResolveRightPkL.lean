/-
  What the law ResolveRight leans on, and its walk (12 of 42).
-/
import Derived.Below
namespace Go.Proofs.YtmjappnpedjlnaaGreatDoor
set_option maxRecDepth 100000
set_option maxHeartbeats 16000000
section
open Go.RowKit
structure PZ where
 scheme:List UInt8
 hasS:Bool
 user:List UInt8
 hasU:Bool
 host:List UInt8
 hasA:Bool
 port:List UInt8
 hasP:Bool
 path:List UInt8
 query:List UInt8
 hasQ:Bool
 frag:List UInt8
 hasF:Bool
 deriving DecidableEq
def zaM:PZ:=⟨[],false,[],false,[],false,[],false,[],[],false,[],false⟩
def zaH (q:UInt8→Bool):List UInt8→List UInt8×List UInt8
 |[]=>([],[])
 |c::l=>if q c then ([],c::l) else (c::(zaH q l).1,(zaH q l).2)
theorem zbO (q:UInt8→Bool) (l:List UInt8):l=(zaH q l).1++(zaH q l).2:=by
 induction l with
 |nil=>rfl
 |cons c l ih=>unfold zaH;split;rfl;rw [List.cons_append,←ih]
theorem zbP (q:UInt8→Bool) (l:List UInt8): ∀c∈(zaH q l).1,q c=false:=by
 induction l with
 |nil=>exact fun _ h=>(by cases h)
 |cons c l ih=>
  unfold zaH
  split
  ·exact fun _ h=>(by cases h)
  ·rename_i hc
   intro d hd
   rcases List.mem_cons.1 hd with rfl|hd
   ·simpa using hc
   ·exact ih d hd
theorem zdA (q:UInt8→Bool) (l:List UInt8):(zaH q l).2=[]∨ ∃c r,(zaH q l).2=c::r∧q c=true:=by
 induction l with
 |nil=>exact .inl rfl
 |cons c l ih=>
  unfold zaH
  split
  ·rename_i hc;exact .inr ⟨c,l,rfl,hc⟩
  ·exact ih
theorem zbS (q:UInt8→Bool): ∀{a b:List UInt8},(∀c∈a,q c=false)→(b=[]∨ ∃c r,b=c::r∧q c=true)→zaH q (a++b)=(a,b)
 |[],b,_,hb=>by
  rcases hb with rfl|⟨c,r,rfl,hc⟩
  ·rfl
  ·show (if q c=true then _ else _)=_
   rw [if_pos hc]
 |c::a,b,ha,hb=>by
  have h:=ha c (by simp)
  show (if q c=true then _ else (c::(zaH q (a++b)).1,(zaH q (a++b)).2))=_
  rw [if_neg (by rw [h];exact Bool.false_ne_true),zbS q (fun d hd=>ha d (by simp [hd])) hb]
theorem zoP (q:UInt8→Bool) {a:List UInt8} (ha: ∀c∈a,q c=false):zaH q a=(a,[]):=by
 have:=zbS q (b:=[]) ha (.inl rfl)
 simpa using this
def zbF (c:UInt8):Bool:=c==58||c==47||c==63||c==35
def zaB (s:List UInt8):Bool×List UInt8×List UInt8:=
 match (zaH zbF s).2 with
 |58::r=>(true,(zaH zbF s).1,r)
 |_=>(false,[],s)
def cutA (b:UInt8) (s:List UInt8):List UInt8×Bool×List UInt8:=
 match (zaH (· ==b) s).2 with
 |[]=>(s,false,[])
 |_::r=>((zaH (· ==b) s).1,true,r)
def zcD (a:List UInt8):List UInt8×Bool×List UInt8:=
 match (zaH (fun c=>c==58||c==93) a.reverse).2 with
 |58::r=>(r.reverse,true,(zaH (fun c=>c==58||c==93) a.reverse).1.reverse)
 |_=>(a,false,[])
def zcM (a:List UInt8):Bool×List UInt8×List UInt8×Bool×List UInt8:=
 match cutA 64 a with
 |(u,true,r)=>(true,u,(zcD r).1,(zcD r).2.1,(zcD r).2.2)
 |(_,false,_)=>(false,[],(zcD a).1,(zcD a).2.1,(zcD a).2.2)
def zbR (s:List UInt8):List UInt8×Bool×(Bool×List UInt8×List UInt8×Bool×List UInt8):=
 match s with
 |47::47::r=>((zaH (· ==47) r).2,true,zcM (zaH (· ==47) r).1)
 |s=>(s,false,(false,[],[],false,[]))
def zaP (s:List UInt8):PZ:=
 let x:=zaB s
 let f:=cutA 35 x.2.2
 let q:=cutA 63 f.1
 let h:=zbR q.1
 ⟨x.2.1,x.1,h.2.2.2.1,h.2.2.1,h.2.2.2.2.1,h.2.1,h.2.2.2.2.2.2,h.2.2.2.2.2.1,h.1,q.2.2,q.2.1,f.2.2,f.2.1⟩
def zhO (p:PZ):List UInt8:=
 (if p.hasA then 47::47::((if p.hasU then p.user++[64] else [])++(p.host++(if p.hasP then 58::p.port else []))) else [])++p.path
def zaN (p:PZ):List UInt8:=
 (if p.hasS then p.scheme++[58] else [])++(zhO p++((if p.hasQ then 63::p.query else [])++(if p.hasF then 35::p.frag else [])))
theorem zcA (b:UInt8) (s:List UInt8):s=(cutA b s).1++(if (cutA b s).2.1 then b::(cutA b s).2.2 else [])∧(∀c∈(cutA b s).1,(c==b)=false)∧((cutA b s).2.1=false→(cutA b s).2.2=[]):=by
 have h1:=zbO (· ==b) s
 have h2:=zbP (· ==b) s
 have h3:=zdA (· ==b) s
 unfold cutA
 split
 ·rename_i e
  rw [e,List.append_nil] at h1
  refine ⟨by simp,?_,fun _=>rfl⟩
  rw [←h1] at h2
  exact h2
 ·rename_i c r e
  rw [e] at h1 h3
  rcases h3 with h3|⟨d,t,h4,h5⟩
  ·cases h3
  ·cases h4
   have:c=b:=by simpa using h5
   subst this
   exact ⟨h1,h2,fun h=>by cases h⟩
theorem zmQ {b:UInt8} {a:List UInt8} (ha: ∀c∈a,(c==b)=false) (r:List UInt8):cutA b (a++b::r)=(a,true,r):=by
 unfold cutA
 rw [zbS (· ==b) ha (.inr ⟨b,r,rfl,by simp⟩)]
theorem zeB {b:UInt8} {a:List UInt8} (ha: ∀c∈a,(c==b)=false):cutA b a=(a,false,[]):=by
 unfold cutA
 rw [zoP (· ==b) ha]
theorem zfV (s:List UInt8):s=(if (zaB s).1 then (zaB s).2.1++[58] else [])++(zaB s).2.2∧((zaB s).1=false→(zaB s).2.1=[]):=by
 have h1:=zbO zbF s
 unfold zaB
 split
 ·rename_i r e
  rw [e] at h1
  refine ⟨?_,fun h=>by cases h⟩
  show s=((zaH zbF s).1++[58])++r
  rw [List.append_assoc]
  exact h1
 ·exact ⟨rfl,fun _=>rfl⟩
theorem znW (a:List UInt8):a=(zcD a).1++(if (zcD a).2.1 then 58::(zcD a).2.2 else []):=by
 have h1:=zbO (fun c=>c==58||c==93) a.reverse
 unfold zcD
 split
 ·rename_i r e
  rw [e] at h1
  generalize (zaH (fun c=>c==58||c==93) a.reverse).1=t at*
  have h2:=congrArg List.reverse h1
  rw [List.reverse_reverse] at h2
  show a=r.reverse++58::t.reverse
  rw [h2]
  simp
 ·simp
theorem ziY (a:List UInt8):a=(if (zcM a).1 then (zcM a).2.1++[64] else [])++((zcM a).2.2.1++(if (zcM a).2.2.2.1 then 58::(zcM a).2.2.2.2 else [])):=by
 obtain ⟨h1,_,h3⟩:=zcA 64 a
 unfold zcM
 generalize cutA 64 a=x at*
 obtain ⟨u,b,r⟩:=x
 cases b with
 |true=>
  show a=(u++[64])++_
  have h2:=znW r
  rw [List.append_assoc]
  show a=u++(64::_)
  have h1:a=u++64::r:=h1
  rw [h1]
  congr 2
 |false=>exact znW a
theorem zgC (s:List UInt8):s=(if (zbR s).2.1 then 47::47::((if (zbR s).2.2.1 then (zbR s).2.2.2.1++[64] else [])++((zbR s).2.2.2.2.1++(if (zbR s).2.2.2.2.2.1 then 58::(zbR s).2.2.2.2.2.2 else []))) else [])++(zbR s).1:=by
 unfold zbR
 split
 ·rename_i r
  have h1:=zbO (· ==47) r
  have h2:=ziY (zaH (· ==47) r).1
  show 47::47::r=(47::47::_)++_
  rw [List.cons_append,List.cons_append,←h2,←h1]
 ·rfl
theorem zeJ (s:List UInt8):zaN (zaP s)=s:=by
 obtain ⟨h1,_⟩:=zfV s
 obtain ⟨h2,_⟩:=zcA 35 (zaB s).2.2
 obtain ⟨h3,_⟩:=zcA 63 (cutA 35 (zaB s).2.2).1
 have h4:=zgC (cutA 63 (cutA 35 (zaB s).2.2).1).1
 unfold zaN zhO zaP
 simp only
 rw [←h4]
 conv=>rhs;rw [h1,h2,h3]
 simp only [List.append_assoc]
theorem zhE {s pre rest:List UInt8} (h:(zaB s).2.2=pre++rest) (_hr:rest=[]∨ ∃c r,rest=c::r∧zbF c=true∧c≠58):
  zaB ((if (zaB s).1 then (zaB s).2.1++[58] else [])++pre)=((zaB s).1,(zaB s).2.1,pre):=by
 have h1:=zbO zbF s
 have h2:=zbP zbF s
 have h3:=zdA zbF s
 unfold zaB at h ⊢
 split at h
 ·rename_i r e
  rw [e] at h1
  have e2:zaH zbF (((zaH zbF s).1++[58])++pre)=((zaH zbF s).1,58::pre):=by
   rw [List.append_assoc]
   exact zbS zbF h2 (.inr ⟨58,pre,rfl,by decide⟩)
  simp only [if_true]
  rw [e2]
  rfl
 ·rename_i hne
  have h:s=pre++rest:=h
  have key: ∀r,(zaH zbF pre).2≠58::r:=by
   intro r e
   have p1:=zbO zbF pre
   have p2:=zbP zbF pre
   rw [e] at p1
   have:zaH zbF s=((zaH zbF pre).1,58::(r++rest)):=by
    rw [h]
    conv=>lhs;rw [p1]
    rw [List.append_assoc]
    exact zbS zbF p2 (.inr ⟨58,r++rest,rfl,by decide⟩)
   exact hne _ (by rw [this])
  simp only [Bool.false_eq_true,if_false,List.nil_append]
def zaR (p:PZ):PZ:={p with frag:=[],hasF:=false}
def zcU (p:PZ):PZ:={zaR p with query:=[],hasQ:=false}
theorem ziT {b:UInt8} {s:List UInt8} (hb:zbF b=true) (h58:b≠58): ∃rest,s=(cutA b s).1++rest∧(rest=[]∨ ∃c r,rest=c::r∧zbF c=true∧c≠58):=by
 obtain ⟨h1,_,_⟩:=zcA b s
 refine ⟨_,h1,?_⟩
 cases (cutA b s).2.1 with
 |false=>exact .inl rfl
 |true=>exact .inr ⟨b,_,rfl,hb,h58⟩
theorem zmB (s:List UInt8):zaN (zaR (zaP s))=(if (zaB s).1 then (zaB s).2.1++[58] else [])++(cutA 35 (zaB s).2.2).1:=by
 obtain ⟨h3,_⟩:=zcA 63 (cutA 35 (zaB s).2.2).1
 have h4:=zgC (cutA 63 (cutA 35 (zaB s).2.2).1).1
 unfold zaN zhO zaR zaP
 simp only
 rw [←h4]
 conv=>rhs;rw [h3]
 simp
theorem zlF (s:List UInt8):zaN (zcU (zaP s))=(if (zaB s).1 then (zaB s).2.1++[58] else [])++(cutA 63 (cutA 35 (zaB s).2.2).1).1:=by
 have h4:=zgC (cutA 63 (cutA 35 (zaB s).2.2).1).1
 unfold zaN zhO zcU zaR zaP
 simp only
 rw [←h4]
 simp
theorem zjG (s:List UInt8):zaP (zaN (zaR (zaP s)))=zaR (zaP s):=by
 rw [zmB]
 obtain ⟨rest,h1,h2⟩:=ziT (b:=35) (s:=(zaB s).2.2) (by decide) (by decide)
 have e:=zhE h1 h2
 have n:=(zcA 35 (zaB s).2.2).2.1
 have e2:=zeB n
 unfold zaP zaR
 simp only [e,e2]
theorem ziN (s:List UInt8):zaP (zaN (zcU (zaP s)))=zcU (zaP s):=by
 rw [zlF]
 obtain ⟨rest,h1,h2⟩:=ziT (b:=35) (s:=(zaB s).2.2) (by decide) (by decide)
 obtain ⟨rest2,h3,h4⟩:=ziT (b:=63) (s:=(cutA 35 (zaB s).2.2).1) (by decide) (by decide)
 have h5:(zaB s).2.2=(cutA 63 (cutA 35 (zaB s).2.2).1).1++(rest2++rest):=by rw [←List.append_assoc,←h3];exact h1
 have h6:(rest2++rest)=[]∨ ∃c r,(rest2++rest)=c::r∧zbF c=true∧c≠58:=by
  rcases h4 with rfl|⟨c,r,rfl,hc⟩
  ·exact h2
  ·exact .inr ⟨c,r++rest,rfl,hc⟩
 have e:=zhE h5 h6
 have n1:=(zcA 35 (zaB s).2.2).2.1
 have n2:=(zcA 63 (cutA 35 (zaB s).2.2).1).2.1
 have n3: ∀c∈(cutA 63 (cutA 35 (zaB s).2.2).1).1,(c==35)=false:=fun c hc=>n1 c (by rw [h3];exact List.mem_append.2 (.inl hc))
 have e2:=zeB n3
 have e3:=zeB n2
 unfold zaP zcU zaR
 simp only [e,e2,e3]
/-! ### what may stand where -/
def zdZ (c:UInt8):Bool:=(65≤c.toNat&&c.toNat≤90)||(97≤c.toNat&&c.toNat≤122)
def zbT (c:UInt8):Bool:=48≤c.toNat&&c.toNat≤57
def hexA (c:UInt8):Bool:=zbT c||(65≤c.toNat&&c.toNat≤70)||(97≤c.toNat&&c.toNat≤102)
def zeN (c:UInt8):Bool:=zdZ c||zbT c||[45,46,95,126].contains c||[33,36,38,39,40,41,42,43,44,59,61].contains c
def isA (of:List UInt8):List UInt8→Bool
 |[]=>true
 |[c]=>zeN c||of.contains c
 |[c,d]=>(zeN c||of.contains c)&&(zeN d||of.contains d)
 |c::d::e::l=>if c==37&&hexA d&&hexA e then isA of l else (zeN c||of.contains c)&&isA of (d::e::l)
def zbY (s:List UInt8):Bool:=
 match s with
 |[]=>false
 |c::l=>zdZ c&&l.all fun d=>zdZ d||zbT d||[43,45,46].contains d
def zeA (s:List UInt8):Bool:=
 match s with
 |[]=>false
 |c::l=>(c==118||c==86)&&(match zaH (· ==46) l with
  |(d,_::r)=> !d.isEmpty&& !r.isEmpty&&d.all hexA&&isA [58] r&& !r.contains 37
  |_=>false)
def zdK (six:List UInt8→Bool) (s:List UInt8):Bool:=
 match s with
 |91::l=>l.getLast? ==some 93&&(six l.dropLast||zeA l.dropLast)
 |s=>isA [] s
def zjY (s:List UInt8) (hasS hasA:Bool):Bool:=
 isA [58,64,47] s&&(if hasA then s.isEmpty||s.head? ==some 47 else (s.take 2 !=[47,47])&&(hasS||(zaH (fun c=>c==58||c==47) s).2.head? !=some 58))
def zcC (six:List UInt8→Bool) (p:PZ):Bool:=
 (!p.hasA||(isA [58] p.user&&zdK six p.host&&p.port.all zbT))&&zjY p.path p.hasS p.hasA&&isA [58,64,47,63] p.query&&isA [58,64,47,63] p.frag
def zaO (six:List UInt8→Bool) (s:List UInt8):PZ×Int:=
 if 4096<s.length then (zaM,3)
 else if (zaP s).hasS&& !zbY (zaP s).scheme then (zaM,5)
 else if zcC six (zaP s) then (zaP s,0) else (zaM,11)
def zcZ (six:List UInt8→Bool) (p:PZ):Bool:=(zaO six (zaN p)).2==0&&p==(zaO six (zaN p)).1
theorem zfA {six:List UInt8→Bool} {s:List UInt8} (h:(zaO six s).2=0):s.length≤4096∧((zaP s).hasS&& !zbY (zaP s).scheme)=false∧zcC six (zaP s)=true∧zaO six s=(zaP s,0):=by
 unfold zaO at h ⊢
 split at h
 ·cases h
 ·rename_i h1
  split at h
  ·cases h
  ·rename_i h2
   split at h
   ·rename_i h3
    rw [if_neg h1,if_neg h2,if_pos h3]
    exact ⟨by omega,by simpa using h2,h3,rfl⟩
   ·cases h
theorem zhG {six:List UInt8→Bool} {s:List UInt8} {p:PZ} (hp:zaP s=p) (h1:s.length≤4096) (h2:(p.hasS&& !zbY p.scheme)=false) (h3:zcC six p=true):zaO six s=(p,0):=by
 subst hp
 unfold zaO
 rw [if_neg (by omega),if_neg (by rw [h2];exact Bool.false_ne_true),if_pos h3]
theorem zfE {six:List UInt8→Bool} {p:PZ} (h:zcC six p=true):zcC six (zaR p)=true:=by
 unfold zcC zaR at*
 simp only [Bool.and_eq_true] at h ⊢
 exact ⟨h.1,rfl⟩
theorem zhT {six:List UInt8→Bool} {p:PZ} (h:zcC six p=true):zcC six (zcU p)=true:=by
 have h:=zfE h
 unfold zcU
 unfold zcC at*
 simp only [Bool.and_eq_true] at h ⊢
 exact ⟨⟨h.1.1,rfl⟩,h.2⟩
theorem zrN {six:List UInt8→Bool} {s:List UInt8} {p:PZ} (h:zaO six s=(p,0)):zaN p=s∧zcZ six p=true∧zcZ six (zaR p)=true∧zcZ six (zcU p)=true:=by
 obtain ⟨h1,h2,h3,h4⟩:=zfA (six:=six) (s:=s) (by rw [h])
 rw [h4] at h
 have hp:zaP s=p:=congrArg Prod.fst h
 subst hp
 have ht:=zeJ s
 have l1:(zaN (zaR (zaP s))).length≤4096:=by
  have e:=congrArg List.length (zeJ s)
  have:(zaN (zaR (zaP s))).length≤(zaN (zaP s)).length:=by
   unfold zaN zaR zhO
   simp only [List.length_append]
   simp only [Bool.false_eq_true,if_false,List.length_nil]
   omega
  omega
 have l2:(zaN (zcU (zaP s))).length≤4096:=by
  have:(zaN (zcU (zaP s))).length≤(zaN (zaR (zaP s))).length:=by
   unfold zaN zcU zaR zhO
   simp only [List.length_append]
   simp only [Bool.false_eq_true,if_false,List.length_nil]
   omega
  omega
 refine ⟨ht,?_,?_,?_⟩
 ·unfold zcZ
  rw [ht,h4]
  simp
 ·unfold zcZ
  rw [zhG (six:=six) (zjG s) l1 h2 (zfE h3)]
  simp
 ·unfold zcZ
  rw [zhG (six:=six) (ziN s) l2 h2 (zhT h3)]
  simp
def segD:List UInt8→List UInt8
 |[]=>[]
 |c::l=>if c=47 then [] else c::segD l
theorem zoH (l:List UInt8):(segD l).length≤l.length:=by
 induction l with
 |nil=>exact Nat.le_refl _
 |cons c l ih=>unfold segD;split<;>simp<;>omega
def zeU (p:List UInt8) (out:List (List UInt8)):List UInt8×List (List UInt8):=
 match p with
 |[46]=>([],out)
 |[46,46]=>([],out)
 |46::46::47::r=>(r,out)
 |46::47::r=>(r,out)
 |[47,46]=>([47],out)
 |[47,46,46]=>([47],out.dropLast)
 |47::46::47::r=>(47::r,out)
 |47::46::46::47::r=>(47::r,out.dropLast)
 |c::l=>(l.drop (segD l).length,out++[c::segD l])
 |[]=>([],out)
theorem zoL (p:List UInt8) (out:List (List UInt8)) (h:p≠[]):(zeU p out).1.length<p.length:=by
 unfold zeU
 split<;>first|(exact absurd rfl h)|(simp;done)|(simp<;>omega)
def remD (p:List UInt8) (out:List (List UInt8)):List (List UInt8):=
 if _h:p=[] then out else remD (zeU p out).1 (zeU p out).2
termination_by p.length
decreasing_by exact zoL p out _h
def zbG (p:List UInt8):List UInt8:=(remD p []).flatten
theorem zeK (out:List (List UInt8)):remD [] out=out:=by rw [remD,dif_pos rfl]
theorem zbW {p:List UInt8} (out:List (List UInt8)) (h:p≠[]):remD p out=remD (zeU p out).1 (zeU p out).2:=by rw [remD,dif_neg h]
/-! ### by steps -/
def goD:List (List UInt8)→List (List UInt8)→List (List UInt8)
 |[],out=>out
 |[s],out=>if s=[46] then out++[[47]] else if s=[46,46] then out.dropLast++[[47]] else out++[47::s]
 |s::t::r,out=>if s=[46] then goD (t::r) out else if s=[46,46] then goD (t::r) out.dropLast else goD (t::r) (out++[47::s])
def zbE:List (List UInt8)→List UInt8
 |[]=>[]
 |s::r=>47::s++zbE r
def zgQ (s:List UInt8):Prop:= ∀c∈s,c≠47
theorem zhU: ∀{s:List UInt8} (r:List (List UInt8)),zgQ s→segD (s++zbE r)=s
 |[],[],_=>rfl
 |[],_::_,_=>by simp [zbE,segD]
 |c::s,r,h=>by
  have hc:c≠47:=h c (by simp)
  show (if c=47 then [] else c::segD (s++zbE r))=_
  rw [if_neg hc,zhU r fun d hd=>h d (by simp [hd])]
theorem zkG {s:List UInt8} (r:List (List UInt8)) (out:List (List UInt8)) (h:zgQ s) (h1:s≠[46]) (h2:s≠[46,46]):zeU (47::(s++zbE r)) out=(zbE r,out++[47::s]):=by
 have hs:=zhU r h
 have hd:(s++zbE r).drop (segD (s++zbE r)).length=zbE r:=by rw [hs];simp
 unfold zeU
 split<;>rename_i e
 all_goals first|(cases e;done)|skip
 ·-- /.
  simp only [List.cons.injEq,true_and] at e
  cases s with
  |nil=>cases r with
   |nil=>simp [zbE] at e
   |cons a r=>simp [zbE] at e
  |cons c s=>
   simp only [List.cons_append,List.cons.injEq] at e
   obtain ⟨rfl,e⟩:=e
   cases s with
   |nil=>exact absurd rfl h1
   |cons d s=>simp at e
 ·simp only [List.cons.injEq,true_and] at e
  cases s with
  |nil=>cases r with
   |nil=>simp [zbE] at e
   |cons a r=>simp [zbE] at e
  |cons c s=>
   simp only [List.cons_append,List.cons.injEq] at e
   obtain ⟨rfl,e⟩:=e
   cases s with
   |nil=>cases r with
    |nil=>simp [zbE] at e
    |cons a r=>simp [zbE] at e
   |cons d s=>
    simp only [List.cons_append,List.cons.injEq] at e
    obtain ⟨rfl,e⟩:=e
    cases s with
    |nil=>exact absurd rfl h2
    |cons d s=>simp at e
 ·simp only [List.cons.injEq,true_and] at e
  cases s with
  |nil=>cases r with
   |nil=>simp [zbE] at e
   |cons a r=>simp [zbE] at e
  |cons c s=>
   simp only [List.cons_append,List.cons.injEq] at e
   obtain ⟨rfl,e⟩:=e
   cases s with
   |nil=>exact absurd rfl h1
   |cons d s=>
    simp only [List.cons_append,List.cons.injEq] at e
    exact absurd e.1 (h d (by simp))
 ·simp only [List.cons.injEq,true_and] at e
  cases s with
  |nil=>cases r with
   |nil=>simp [zbE] at e
   |cons a r=>simp [zbE] at e
  |cons c s=>
   simp only [List.cons_append,List.cons.injEq] at e
   obtain ⟨rfl,e⟩:=e
   cases s with
   |nil=>cases r with
    |nil=>simp [zbE] at e
    |cons a r=>simp [zbE] at e
   |cons d s=>
    simp only [List.cons_append,List.cons.injEq] at e
    obtain ⟨rfl,e⟩:=e
    cases s with
    |nil=>exact absurd rfl h2
    |cons d s=>
     simp only [List.cons_append,List.cons.injEq] at e
     exact absurd e.1 (h d (by simp))
 ·simp only [List.cons.injEq] at e
  obtain ⟨rfl,rfl⟩:=e
  rw [hd,hs]
theorem zrY: ∀(r:List (List UInt8)) (out:List (List UInt8)),(∀s∈r,zgQ s)→remD (zbE r) out=goD r out
 |[],out,_=>by unfold zbE;rw [zeK];rfl
 |[s],out,h=>by
  have hs:zbE [s]=47::s:=by simp [zbE]
  have hpush: ∀(o:List (List UInt8)),remD [47] o=o++[[47]]:=fun o=>by
   rw [zbW o (by simp)]
   show remD [] (o++[[47]])=_
   exact zeK _
  by_cases h1:s=[46]
  ·subst h1
   rw [hs,zbW out (by simp)]
   show remD [47] out=_
   rw [hpush];rfl
  ·by_cases h2:s=[46,46]
   ·subst h2
    rw [hs,zbW out (by simp)]
    show remD [47] out.dropLast=_
    rw [hpush];rfl
   ·have e:=zkG (s:=s) [] out (h s (by simp)) h1 h2
    rw [hs,show (47::s:List UInt8)=47::(s++zbE []) by simp [zbE],zbW out (by simp),e]
    show remD [] _=_
    rw [zeK]
    unfold goD
    rw [if_neg h1,if_neg h2]
 |s::t::r,out,h=>by
  have ih:=fun o=>zrY (t::r) o fun x hx=>h x (by simp at hx ⊢;exact .inr hx)
  have hs:zbE (s::t::r)=47::(s++zbE (t::r)):=rfl
  have ht:zbE (t::r)=47::(t++zbE r):=rfl
  by_cases h1:s=[46]
  ·subst h1
   rw [hs,zbW out (by simp),ht]
   show remD (47::(t++zbE r)) out=_
   rw [←ht,ih];rfl
  ·by_cases h2:s=[46,46]
   ·subst h2
    rw [hs,zbW out (by simp),ht]
    show remD (47::(t++zbE r)) out.dropLast=_
    rw [←ht,ih];rfl
   ·rw [hs,zbW out (by simp),zkG (t::r) out (h s (by simp)) h1 h2,ih]
    show _=goD (s::t::r) out
    rw [goD,if_neg h1,if_neg h2]
def cutD:List UInt8→List UInt8×List (List UInt8)
 |[]=>([],[])
 |c::l=>if c=47 then ([],(cutD l).1::(cutD l).2) else (c::(cutD l).1,(cutD l).2)
theorem zrF (p:List UInt8):p=(cutD p).1++zbE (cutD p).2∧zgQ (cutD p).1∧ ∀s∈(cutD p).2,zgQ s:=by
 induction p with
 |nil=>exact ⟨rfl,fun _ h=>(by cases h),fun _ h=>(by cases h)⟩
 |cons c l ih=>
  obtain ⟨h1,h2,h3⟩:=ih
  unfold cutD
  by_cases hc:c=47
  ·rw [if_pos hc]
   refine ⟨?_,fun _ h=>(by cases h),fun s h=> ?_⟩
   ·subst hc
    show 47::l=47::(cutD l).1++zbE (cutD l).2
    rw [List.cons_append,←h1]
   ·rcases List.mem_cons.1 h with rfl|h
    ·exact h2
    ·exact h3 s h
  ·rw [if_neg hc]
   refine ⟨?_,fun d h=> ?_,h3⟩
   ·show c::l=c::(cutD l).1++zbE (cutD l).2
    rw [List.cons_append,←h1]
   ·rcases List.mem_cons.1 h with rfl|h
    ·exact hc
    ·exact h2 d h
theorem zmW: ∀(q:List (List UInt8)),(q.map (47:: ·)).flatten=zbE q
 |[]=>rfl
 |s::q=>by
  show (47::s)++(q.map (47:: ·)).flatten=47::s++zbE q
  rw [zmW q]
theorem zkA (out:List (List UInt8)):out.dropLast.flatten.length≤out.flatten.length:=by
 rcases List.eq_nil_or_concat out with rfl|⟨q,x,rfl⟩
 ·exact Nat.le_refl _
 ·rw [List.concat_eq_append];simp
theorem zuW (p:List UInt8) (out:List (List UInt8)):(zeU p out).1.length+(zeU p out).2.flatten.length≤p.length+out.flatten.length:=by
 have hd:=zkA out
 unfold zeU
 split
 all_goals first
  |(rename_i c l _ _ _ _ _ _ _ _
    have:=zoH l
    simp only [List.length_drop,List.flatten_append,List.length_append,List.flatten_cons,List.flatten_nil,List.length_cons,List.length_nil]
    omega)
  |(simp only [List.length_cons,List.length_nil];omega)
theorem zsC (p:List UInt8) (out:List (List UInt8)):(remD p out).flatten.length≤p.length+out.flatten.length:=by
 by_cases h:p=[]
 ·subst h;rw [zeK];simp
 ·rw [zbW out h]
  exact Nat.le_trans (zsC _ _) (zuW p out)
termination_by p.length
decreasing_by exact zoL p out h
theorem zdJ (p:List UInt8):(zbG p).length≤p.length:=by
 have:=zsC p []
 simpa [zbG] using this
theorem zwN: ∀(s:List UInt8) (r out:List (List UInt8)),goD (s::r) out≠[]
 |s,[],out=>by unfold goD;split<;>(try split)<;>simp
 |s,t::r,out=>by unfold goD;split;exact zwN t r out;split;exact zwN t r _;exact zwN t r _
theorem zgD: ∀{r:List (List UInt8)} {out:List (List UInt8)},(∀x∈out,x.head? =some 47)→ ∀x∈goD r out,x.head? =some 47
 |[],_,h=>h
 |[s],out,h=>by
  have hd: ∀x∈out.dropLast,x.head? =some 47:=fun x hx=>h x (List.dropLast_subset _ hx)
  have hp: ∀(o:List (List UInt8)) (y:List UInt8),(∀x∈o,x.head? =some 47)→ ∀x∈o++[47::y],x.head? =some 47:=fun o y ho x hx=>by
   rcases List.mem_append.1 hx with hx|hx
   ·exact ho x hx
   ·simp at hx;subst hx;rfl
  unfold goD
  split
  ·exact hp out [] h
  ·split
   ·exact hp _ [] hd
   ·exact hp out s h
 |s::t::r,out,h=>by
  unfold goD
  split
  ·exact zgD h
  ·split
   ·exact zgD fun x hx=>h x (List.dropLast_subset _ hx)
   ·exact zgD fun x hx=>by
     rcases List.mem_append.1 hx with hx|hx
     ·exact h x hx
     ·simp at hx;subst hx;rfl
theorem zjW (l:List UInt8): ∃m,zbG (47::l)=47::m:=by
 obtain ⟨h1,h2,h3⟩:=zrF l
 have hj:(47::l:List UInt8)=zbE ((cutD l).1::(cutD l).2):=by show 47::l=47::(cutD l).1++zbE (cutD l).2;rw [List.cons_append,←h1]
 have hpl: ∀s∈(cutD l).1::(cutD l).2,zgQ s:=fun s hs=>by
  rcases List.mem_cons.1 hs with rfl|hs
  ·exact h2
  ·exact h3 s hs
 unfold zbG
 rw [hj,zrY _ [] hpl]
 have hne:=zwN (cutD l).1 (cutD l).2 []
 have hsl:=zgD (r:=(cutD l).1::(cutD l).2) (out:=[]) fun _ h=>by cases h
 generalize goD ((cutD l).1::(cutD l).2) []=o at*
 cases o with
 |nil=>exact absurd rfl hne
 |cons x o=>
  have hx:=hsl x (by simp)
  cases x with
  |nil=>cases hx
  |cons c x=>
   simp at hx
   subst hx
   exact ⟨x++o.flatten,by simp⟩
theorem zwP (s t:List UInt8) (r out:List (List UInt8)):goD (s::t::r) out=if s=[46] then goD (t::r) out else if s=[46,46] then goD (t::r) out.dropLast else goD (t::r) (out++[47::s]):=by rw [goD]
end
end Go.Proofs.YtmjappnpedjlnaaGreatDoor
