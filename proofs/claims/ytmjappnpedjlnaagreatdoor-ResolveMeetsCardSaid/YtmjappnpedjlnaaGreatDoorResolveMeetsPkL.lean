/-
  What the law ResolveMeets leans on, and its walk (12 of 46).
-/
import Derived.Below
namespace Go.Proofs.YtmjappnpedjlnaaGreatDoor
set_option maxRecDepth 100000
set_option maxHeartbeats 16000000
section
open Go.RowKit
structure PZ where
 scheme:List UInt8
 hasS:Bool
 user:List UInt8
 hasU:Bool
 host:List UInt8
 hasA:Bool
 port:List UInt8
 hasP:Bool
 path:List UInt8
 query:List UInt8
 hasQ:Bool
 frag:List UInt8
 hasF:Bool
 deriving DecidableEq
def zaS:PZ:=⟨[],false,[],false,[],false,[],false,[],[],false,[],false⟩
def zaO (q:UInt8→Bool):List UInt8→List UInt8×List UInt8
 |[]=>([],[])
 |c::l=>if q c then ([],c::l) else (c::(zaO q l).1,(zaO q l).2)
theorem zcR (q:UInt8→Bool) (l:List UInt8):l=(zaO q l).1++(zaO q l).2:=by
 induction l with
 |nil=>rfl
 |cons c l ih=>unfold zaO;split;rfl;rw [List.cons_append,←ih]
theorem zdW (q:UInt8→Bool) (l:List UInt8): ∀c∈(zaO q l).1,q c=false:=by
 induction l with
 |nil=>exact fun _ h=>(by cases h)
 |cons c l ih=>
  unfold zaO
  split
  ·exact fun _ h=>(by cases h)
  ·rename_i hc
   intro d hd
   rcases List.mem_cons.1 hd with rfl|hd
   ·simpa using hc
   ·exact ih d hd
theorem zhG (q:UInt8→Bool) (l:List UInt8):(zaO q l).2=[]∨ ∃c r,(zaO q l).2=c::r∧q c=true:=by
 induction l with
 |nil=>exact .inl rfl
 |cons c l ih=>
  unfold zaO
  split
  ·rename_i hc;exact .inr ⟨c,l,rfl,hc⟩
  ·exact ih
theorem zeA (q:UInt8→Bool): ∀{a b:List UInt8},(∀c∈a,q c=false)→(b=[]∨ ∃c r,b=c::r∧q c=true)→zaO q (a++b)=(a,b)
 |[],b,_,hb=>by
  rcases hb with rfl|⟨c,r,rfl,hc⟩
  ·rfl
  ·show (if q c=true then _ else _)=_
   rw [if_pos hc]
 |c::a,b,ha,hb=>by
  have h:=ha c (by simp)
  show (if q c=true then _ else (c::(zaO q (a++b)).1,(zaO q (a++b)).2))=_
  rw [if_neg (by rw [h];exact Bool.false_ne_true),zeA q (fun d hd=>ha d (by simp [hd])) hb]
theorem zpL (q:UInt8→Bool) {a:List UInt8} (ha: ∀c∈a,q c=false):zaO q a=(a,[]):=by
 have:=zeA q (b:=[]) ha (.inl rfl)
 simpa using this
def zfO (c:UInt8):Bool:=c==58||c==47||c==63||c==35
def zaK (s:List UInt8):Bool×List UInt8×List UInt8:=
 match (zaO zfO s).2 with
 |58::r=>(true,(zaO zfO s).1,r)
 |_=>(false,[],s)
def cutA (b:UInt8) (s:List UInt8):List UInt8×Bool×List UInt8:=
 match (zaO (· ==b) s).2 with
 |[]=>(s,false,[])
 |_::r=>((zaO (· ==b) s).1,true,r)
def zcM (a:List UInt8):List UInt8×Bool×List UInt8:=
 match (zaO (fun c=>c==58||c==93) a.reverse).2 with
 |58::r=>(r.reverse,true,(zaO (fun c=>c==58||c==93) a.reverse).1.reverse)
 |_=>(a,false,[])
def zdV (a:List UInt8):Bool×List UInt8×List UInt8×Bool×List UInt8:=
 match cutA 64 a with
 |(u,true,r)=>(true,u,(zcM r).1,(zcM r).2.1,(zcM r).2.2)
 |(_,false,_)=>(false,[],(zcM a).1,(zcM a).2.1,(zcM a).2.2)
def zdA (s:List UInt8):List UInt8×Bool×(Bool×List UInt8×List UInt8×Bool×List UInt8):=
 match s with
 |47::47::r=>((zaO (· ==47) r).2,true,zdV (zaO (· ==47) r).1)
 |s=>(s,false,(false,[],[],false,[]))
def zbM (s:List UInt8):PZ:=
 let x:=zaK s
 let f:=cutA 35 x.2.2
 let q:=cutA 63 f.1
 let h:=zdA q.1
 ⟨x.2.1,x.1,h.2.2.2.1,h.2.2.1,h.2.2.2.2.1,h.2.1,h.2.2.2.2.2.2,h.2.2.2.2.2.1,h.1,q.2.2,q.2.1,f.2.2,f.2.1⟩
def zwQ (p:PZ):List UInt8:=
 (if p.hasA then 47::47::((if p.hasU then p.user++[64] else [])++(p.host++(if p.hasP then 58::p.port else []))) else [])++p.path
def zbJ (p:PZ):List UInt8:=
 (if p.hasS then p.scheme++[58] else [])++(zwQ p++((if p.hasQ then 63::p.query else [])++(if p.hasF then 35::p.frag else [])))
theorem zhA (b:UInt8) (s:List UInt8):s=(cutA b s).1++(if (cutA b s).2.1 then b::(cutA b s).2.2 else [])∧(∀c∈(cutA b s).1,(c==b)=false)∧((cutA b s).2.1=false→(cutA b s).2.2=[]):=by
 have h1:=zcR (· ==b) s
 have h2:=zdW (· ==b) s
 have h3:=zhG (· ==b) s
 unfold cutA
 split
 ·rename_i e
  rw [e,List.append_nil] at h1
  refine ⟨by simp,?_,fun _=>rfl⟩
  rw [←h1] at h2
  exact h2
 ·rename_i c r e
  rw [e] at h1 h3
  rcases h3 with h3|⟨d,t,h4,h5⟩
  ·cases h3
  ·cases h4
   have:c=b:=by simpa using h5
   subst this
   exact ⟨h1,h2,fun h=>by cases h⟩
theorem zsE {b:UInt8} {a:List UInt8} (ha: ∀c∈a,(c==b)=false) (r:List UInt8):cutA b (a++b::r)=(a,true,r):=by
 unfold cutA
 rw [zeA (· ==b) ha (.inr ⟨b,r,rfl,by simp⟩)]
theorem ziG {b:UInt8} {a:List UInt8} (ha: ∀c∈a,(c==b)=false):cutA b a=(a,false,[]):=by
 unfold cutA
 rw [zpL (· ==b) ha]
theorem zlJ (s:List UInt8):s=(if (zaK s).1 then (zaK s).2.1++[58] else [])++(zaK s).2.2∧((zaK s).1=false→(zaK s).2.1=[]):=by
 have h1:=zcR zfO s
 unfold zaK
 split
 ·rename_i r e
  rw [e] at h1
  refine ⟨?_,fun h=>by cases h⟩
  show s=((zaO zfO s).1++[58])++r
  rw [List.append_assoc]
  exact h1
 ·exact ⟨rfl,fun _=>rfl⟩
theorem z0Q (a:List UInt8):a=(zcM a).1++(if (zcM a).2.1 then 58::(zcM a).2.2 else []):=by
 have h1:=zcR (fun c=>c==58||c==93) a.reverse
 unfold zcM
 split
 ·rename_i r e
  rw [e] at h1
  generalize (zaO (fun c=>c==58||c==93) a.reverse).1=t at*
  have h2:=congrArg List.reverse h1
  rw [List.reverse_reverse] at h2
  show a=r.reverse++58::t.reverse
  rw [h2]
  simp
 ·simp
theorem zrT (a:List UInt8):a=(if (zdV a).1 then (zdV a).2.1++[64] else [])++((zdV a).2.2.1++(if (zdV a).2.2.2.1 then 58::(zdV a).2.2.2.2 else [])):=by
 obtain ⟨h1,_,h3⟩:=zhA 64 a
 unfold zdV
 generalize cutA 64 a=x at*
 obtain ⟨u,b,r⟩:=x
 cases b with
 |true=>
  show a=(u++[64])++_
  have h2:=z0Q r
  rw [List.append_assoc]
  show a=u++(64::_)
  have h1:a=u++64::r:=h1
  rw [h1]
  congr 2
 |false=>exact z0Q a
theorem z1T (s:List UInt8):s=(if (zdA s).2.1 then 47::47::((if (zdA s).2.2.1 then (zdA s).2.2.2.1++[64] else [])++((zdA s).2.2.2.2.1++(if (zdA s).2.2.2.2.2.1 then 58::(zdA s).2.2.2.2.2.2 else []))) else [])++(zdA s).1:=by
 unfold zdA
 split
 ·rename_i r
  have h1:=zcR (· ==47) r
  have h2:=zrT (zaO (· ==47) r).1
  show 47::47::r=(47::47::_)++_
  rw [List.cons_append,List.cons_append,←h2,←h1]
 ·rfl
theorem zqP (s:List UInt8):zbJ (zbM s)=s:=by
 obtain ⟨h1,_⟩:=zlJ s
 obtain ⟨h2,_⟩:=zhA 35 (zaK s).2.2
 obtain ⟨h3,_⟩:=zhA 63 (cutA 35 (zaK s).2.2).1
 have h4:=z1T (cutA 63 (cutA 35 (zaK s).2.2).1).1
 unfold zbJ zwQ zbM
 simp only
 rw [←h4]
 conv=>rhs;rw [h1,h2,h3]
 simp only [List.append_assoc]
def ykG (p:PZ):PZ:={p with frag:=[],hasF:=false}
/-! ### what may stand where -/
def zhS (c:UInt8):Bool:=(65≤c.toNat&&c.toNat≤90)||(97≤c.toNat&&c.toNat≤122)
def zdL (c:UInt8):Bool:=48≤c.toNat&&c.toNat≤57
def hexA (c:UInt8):Bool:=zdL c||(65≤c.toNat&&c.toNat≤70)||(97≤c.toNat&&c.toNat≤102)
def zhN (c:UInt8):Bool:=zhS c||zdL c||[45,46,95,126].contains c||[33,36,38,39,40,41,42,43,44,59,61].contains c
def isA (of:List UInt8):List UInt8→Bool
 |[]=>true
 |[c]=>zhN c||of.contains c
 |[c,d]=>(zhN c||of.contains c)&&(zhN d||of.contains d)
 |c::d::e::l=>if c==37&&hexA d&&hexA e then isA of l else (zhN c||of.contains c)&&isA of (d::e::l)
def zdR (s:List UInt8):Bool:=
 match s with
 |[]=>false
 |c::l=>zhS c&&l.all fun d=>zhS d||zdL d||[43,45,46].contains d
def ziA (s:List UInt8):Bool:=
 match s with
 |[]=>false
 |c::l=>(c==118||c==86)&&(match zaO (· ==46) l with
  |(d,_::r)=> !d.isEmpty&& !r.isEmpty&&d.all hexA&&isA [58] r&& !r.contains 37
  |_=>false)
def zgP (six:List UInt8→Bool) (s:List UInt8):Bool:=
 match s with
 |91::l=>l.getLast? ==some 93&&(six l.dropLast||ziA l.dropLast)
 |s=>isA [] s
def zpH (s:List UInt8) (hasS hasA:Bool):Bool:=
 isA [58,64,47] s&&(if hasA then s.isEmpty||s.head? ==some 47 else (s.take 2 !=[47,47])&&(hasS||(zaO (fun c=>c==58||c==47) s).2.head? !=some 58))
def zgJ (six:List UInt8→Bool) (p:PZ):Bool:=
 (!p.hasA||(isA [58] p.user&&zgP six p.host&&p.port.all zdL))&&zpH p.path p.hasS p.hasA&&isA [58,64,47,63] p.query&&isA [58,64,47,63] p.frag
def zaW (six:List UInt8→Bool) (s:List UInt8):PZ×Int:=
 if 4096<s.length then (zaS,3)
 else if (zbM s).hasS&& !zdR (zbM s).scheme then (zaS,5)
 else if zgJ six (zbM s) then (zbM s,0) else (zaS,11)
def zlU (six:List UInt8→Bool) (p:PZ):Bool:=(zaW six (zbJ p)).2==0&&p==(zaW six (zbJ p)).1
theorem ziF {six:List UInt8→Bool} {s:List UInt8} (h:(zaW six s).2=0):s.length≤4096∧((zbM s).hasS&& !zdR (zbM s).scheme)=false∧zgJ six (zbM s)=true∧zaW six s=(zbM s,0):=by
 unfold zaW at h ⊢
 split at h
 ·cases h
 ·rename_i h1
  split at h
  ·cases h
  ·rename_i h2
   split at h
   ·rename_i h3
    rw [if_neg h1,if_neg h2,if_pos h3]
    exact ⟨by omega,by simpa using h2,h3,rfl⟩
   ·cases h
theorem ztT {six:List UInt8→Bool} {s:List UInt8} {p:PZ} (hp:zbM s=p) (h1:s.length≤4096) (h2:(p.hasS&& !zdR p.scheme)=false) (h3:zgJ six p=true):zaW six s=(p,0):=by
 subst hp
 unfold zaW
 rw [if_neg (by omega),if_neg (by rw [h2];exact Bool.false_ne_true),if_pos h3]
def segD:List UInt8→List UInt8
 |[]=>[]
 |c::l=>if c=47 then [] else c::segD l
theorem z2I (l:List UInt8):(segD l).length≤l.length:=by
 induction l with
 |nil=>exact Nat.le_refl _
 |cons c l ih=>unfold segD;split<;>simp<;>omega
def zjS (p:List UInt8) (out:List (List UInt8)):List UInt8×List (List UInt8):=
 match p with
 |[46]=>([],out)
 |[46,46]=>([],out)
 |46::46::47::r=>(r,out)
 |46::47::r=>(r,out)
 |[47,46]=>([47],out)
 |[47,46,46]=>([47],out.dropLast)
 |47::46::47::r=>(47::r,out)
 |47::46::46::47::r=>(47::r,out.dropLast)
 |c::l=>(l.drop (segD l).length,out++[c::segD l])
 |[]=>([],out)
theorem z1A (p:List UInt8) (out:List (List UInt8)) (h:p≠[]):(zjS p out).1.length<p.length:=by
 unfold zjS
 split<;>first|(exact absurd rfl h)|(simp;done)|(simp<;>omega)
def remD (p:List UInt8) (out:List (List UInt8)):List (List UInt8):=
 if _h:p=[] then out else remD (zjS p out).1 (zjS p out).2
termination_by p.length
decreasing_by exact z1A p out _h
def zbQ (p:List UInt8):List UInt8:=(remD p []).flatten
theorem ziL (out:List (List UInt8)):remD [] out=out:=by rw [remD,dif_pos rfl]
theorem zdQ {p:List UInt8} (out:List (List UInt8)) (h:p≠[]):remD p out=remD (zjS p out).1 (zjS p out).2:=by rw [remD,dif_neg h]
/-! ### by steps -/
def goD:List (List UInt8)→List (List UInt8)→List (List UInt8)
 |[],out=>out
 |[s],out=>if s=[46] then out++[[47]] else if s=[46,46] then out.dropLast++[[47]] else out++[47::s]
 |s::t::r,out=>if s=[46] then goD (t::r) out else if s=[46,46] then goD (t::r) out.dropLast else goD (t::r) (out++[47::s])
def zbL:List (List UInt8)→List UInt8
 |[]=>[]
 |s::r=>47::s++zbL r
def zgS (s:List UInt8):Prop:= ∀c∈s,c≠47
theorem zpZ: ∀{s:List UInt8} (r:List (List UInt8)),zgS s→segD (s++zbL r)=s
 |[],[],_=>rfl
 |[],_::_,_=>by simp [zbL,segD]
 |c::s,r,h=>by
  have hc:c≠47:=h c (by simp)
  show (if c=47 then [] else c::segD (s++zbL r))=_
  rw [if_neg hc,zpZ r fun d hd=>h d (by simp [hd])]
theorem zvF {s:List UInt8} (r:List (List UInt8)) (out:List (List UInt8)) (h:zgS s) (h1:s≠[46]) (h2:s≠[46,46]):zjS (47::(s++zbL r)) out=(zbL r,out++[47::s]):=by
 have hs:=zpZ r h
 have hd:(s++zbL r).drop (segD (s++zbL r)).length=zbL r:=by rw [hs];simp
 unfold zjS
 split<;>rename_i e
 all_goals first|(cases e;done)|skip
 ·-- /.
  simp only [List.cons.injEq,true_and] at e
  cases s with
  |nil=>cases r with
   |nil=>simp [zbL] at e
   |cons a r=>simp [zbL] at e
  |cons c s=>
   simp only [List.cons_append,List.cons.injEq] at e
   obtain ⟨rfl,e⟩:=e
   cases s with
   |nil=>exact absurd rfl h1
   |cons d s=>simp at e
 ·simp only [List.cons.injEq,true_and] at e
  cases s with
  |nil=>cases r with
   |nil=>simp [zbL] at e
   |cons a r=>simp [zbL] at e
  |cons c s=>
   simp only [List.cons_append,List.cons.injEq] at e
   obtain ⟨rfl,e⟩:=e
   cases s with
   |nil=>cases r with
    |nil=>simp [zbL] at e
    |cons a r=>simp [zbL] at e
   |cons d s=>
    simp only [List.cons_append,List.cons.injEq] at e
    obtain ⟨rfl,e⟩:=e
    cases s with
    |nil=>exact absurd rfl h2
    |cons d s=>simp at e
 ·simp only [List.cons.injEq,true_and] at e
  cases s with
  |nil=>cases r with
   |nil=>simp [zbL] at e
   |cons a r=>simp [zbL] at e
  |cons c s=>
   simp only [List.cons_append,List.cons.injEq] at e
   obtain ⟨rfl,e⟩:=e
   cases s with
   |nil=>exact absurd rfl h1
   |cons d s=>
    simp only [List.cons_append,List.cons.injEq] at e
    exact absurd e.1 (h d (by simp))
 ·simp only [List.cons.injEq,true_and] at e
  cases s with
  |nil=>cases r with
   |nil=>simp [zbL] at e
   |cons a r=>simp [zbL] at e
  |cons c s=>
   simp only [List.cons_append,List.cons.injEq] at e
   obtain ⟨rfl,e⟩:=e
   cases s with
   |nil=>cases r with
    |nil=>simp [zbL] at e
    |cons a r=>simp [zbL] at e
   |cons d s=>
    simp only [List.cons_append,List.cons.injEq] at e
    obtain ⟨rfl,e⟩:=e
    cases s with
    |nil=>exact absurd rfl h2
    |cons d s=>
     simp only [List.cons_append,List.cons.injEq] at e
     exact absurd e.1 (h d (by simp))
 ·simp only [List.cons.injEq] at e
  obtain ⟨rfl,rfl⟩:=e
  rw [hd,hs]
theorem z1N: ∀(r:List (List UInt8)) (out:List (List UInt8)),(∀s∈r,zgS s)→remD (zbL r) out=goD r out
 |[],out,_=>by unfold zbL;rw [ziL];rfl
 |[s],out,h=>by
  have hs:zbL [s]=47::s:=by simp [zbL]
  have hpush: ∀(o:List (List UInt8)),remD [47] o=o++[[47]]:=fun o=>by
   rw [zdQ o (by simp)]
   show remD [] (o++[[47]])=_
   exact ziL _
  by_cases h1:s=[46]
  ·subst h1
   rw [hs,zdQ out (by simp)]
   show remD [47] out=_
   rw [hpush];rfl
  ·by_cases h2:s=[46,46]
   ·subst h2
    rw [hs,zdQ out (by simp)]
    show remD [47] out.dropLast=_
    rw [hpush];rfl
   ·have e:=zvF (s:=s) [] out (h s (by simp)) h1 h2
    rw [hs,show (47::s:List UInt8)=47::(s++zbL []) by simp [zbL],zdQ out (by simp),e]
    show remD [] _=_
    rw [ziL]
    unfold goD
    rw [if_neg h1,if_neg h2]
 |s::t::r,out,h=>by
  have ih:=fun o=>z1N (t::r) o fun x hx=>h x (by simp at hx ⊢;exact .inr hx)
  have hs:zbL (s::t::r)=47::(s++zbL (t::r)):=rfl
  have ht:zbL (t::r)=47::(t++zbL r):=rfl
  by_cases h1:s=[46]
  ·subst h1
   rw [hs,zdQ out (by simp),ht]
   show remD (47::(t++zbL r)) out=_
   rw [←ht,ih];rfl
  ·by_cases h2:s=[46,46]
   ·subst h2
    rw [hs,zdQ out (by simp),ht]
    show remD (47::(t++zbL r)) out.dropLast=_
    rw [←ht,ih];rfl
   ·rw [hs,zdQ out (by simp),zvF (t::r) out (h s (by simp)) h1 h2,ih]
    show _=goD (s::t::r) out
    rw [goD,if_neg h1,if_neg h2]
def cutD:List UInt8→List UInt8×List (List UInt8)
 |[]=>([],[])
 |c::l=>if c=47 then ([],(cutD l).1::(cutD l).2) else (c::(cutD l).1,(cutD l).2)
theorem zrR (p:List UInt8):p=(cutD p).1++zbL (cutD p).2∧zgS (cutD p).1∧ ∀s∈(cutD p).2,zgS s:=by
 induction p with
 |nil=>exact ⟨rfl,fun _ h=>(by cases h),fun _ h=>(by cases h)⟩
 |cons c l ih=>
  obtain ⟨h1,h2,h3⟩:=ih
  unfold cutD
  by_cases hc:c=47
  ·rw [if_pos hc]
   refine ⟨?_,fun _ h=>(by cases h),fun s h=> ?_⟩
   ·subst hc
    show 47::l=47::(cutD l).1++zbL (cutD l).2
    rw [List.cons_append,←h1]
   ·rcases List.mem_cons.1 h with rfl|h
    ·exact h2
    ·exact h3 s h
  ·rw [if_neg hc]
   refine ⟨?_,fun d h=> ?_,h3⟩
   ·show c::l=c::(cutD l).1++zbL (cutD l).2
    rw [List.cons_append,←h1]
   ·rcases List.mem_cons.1 h with rfl|h
    ·exact hc
    ·exact h2 d h
def ycK (s:List UInt8):Prop:=zgS s∧s≠[46]∧s≠[46,46]
theorem zsG: ∀(q:List (List UInt8)),(q.map (47:: ·)).flatten=zbL q
 |[]=>rfl
 |s::q=>by
  show (47::s)++(q.map (47:: ·)).flatten=47::s++zbL q
  rw [zsG q]
theorem zwD (out:List (List UInt8)):out.dropLast.flatten.length≤out.flatten.length:=by
 rcases List.eq_nil_or_concat out with rfl|⟨q,x,rfl⟩
 ·exact Nat.le_refl _
 ·rw [List.concat_eq_append];simp
theorem yiP (p:List UInt8) (out:List (List UInt8)):(zjS p out).1.length+(zjS p out).2.flatten.length≤p.length+out.flatten.length:=by
 have hd:=zwD out
 unfold zjS
 split
 all_goals first
  |(rename_i c l _ _ _ _ _ _ _ _
    have:=z2I l
    simp only [List.length_drop,List.flatten_append,List.length_append,List.flatten_cons,List.flatten_nil,List.length_cons,List.length_nil]
    omega)
  |(simp only [List.length_cons,List.length_nil];omega)
theorem yfD (p:List UInt8) (out:List (List UInt8)):(remD p out).flatten.length≤p.length+out.flatten.length:=by
 by_cases h:p=[]
 ·subst h;rw [ziL];simp
 ·rw [zdQ out h]
  exact Nat.le_trans (yfD _ _) (yiP p out)
termination_by p.length
decreasing_by exact z1A p out h
theorem zgH (p:List UInt8):(zbQ p).length≤p.length:=by
 have:=yfD p []
 simpa [zbQ] using this
theorem yhM: ∀(s:List UInt8) (r out:List (List UInt8)),goD (s::r) out≠[]
 |s,[],out=>by unfold goD;split<;>(try split)<;>simp
 |s,t::r,out=>by unfold goD;split;exact yhM t r out;split;exact yhM t r _;exact yhM t r _
theorem zmA: ∀{r:List (List UInt8)} {out:List (List UInt8)},(∀x∈out,x.head? =some 47)→ ∀x∈goD r out,x.head? =some 47
 |[],_,h=>h
 |[s],out,h=>by
  have hd: ∀x∈out.dropLast,x.head? =some 47:=fun x hx=>h x (List.dropLast_subset _ hx)
  have hp: ∀(o:List (List UInt8)) (y:List UInt8),(∀x∈o,x.head? =some 47)→ ∀x∈o++[47::y],x.head? =some 47:=fun o y ho x hx=>by
   rcases List.mem_append.1 hx with hx|hx
   ·exact ho x hx
   ·simp at hx;subst hx;rfl
  unfold goD
  split
  ·exact hp out [] h
  ·split
   ·exact hp _ [] hd
   ·exact hp out s h
 |s::t::r,out,h=>by
  unfold goD
  split
  ·exact zmA h
  ·split
   ·exact zmA fun x hx=>h x (List.dropLast_subset _ hx)
   ·exact zmA fun x hx=>by
     rcases List.mem_append.1 hx with hx|hx
     ·exact h x hx
     ·simp at hx;subst hx;rfl
theorem zuB (l:List UInt8): ∃m,zbQ (47::l)=47::m:=by
 obtain ⟨h1,h2,h3⟩:=zrR l
 have hj:(47::l:List UInt8)=zbL ((cutD l).1::(cutD l).2):=by show 47::l=47::(cutD l).1++zbL (cutD l).2;rw [List.cons_append,←h1]
 have hpl: ∀s∈(cutD l).1::(cutD l).2,zgS s:=fun s hs=>by
  rcases List.mem_cons.1 hs with rfl|hs
  ·exact h2
  ·exact h3 s hs
 unfold zbQ
 rw [hj,z1N _ [] hpl]
 have hne:=yhM (cutD l).1 (cutD l).2 []
 have hsl:=zmA (r:=(cutD l).1::(cutD l).2) (out:=[]) fun _ h=>by cases h
 generalize goD ((cutD l).1::(cutD l).2) []=o at*
 cases o with
 |nil=>exact absurd rfl hne
 |cons x o=>
  have hx:=hsl x (by simp)
  cases x with
  |nil=>cases hx
  |cons c x=>
   simp at hx
   subst hx
   exact ⟨x++o.flatten,by simp⟩
theorem zrN (s t:List UInt8) (r out:List (List UInt8)):goD (s::t::r) out=if s=[46] then goD (t::r) out else if s=[46,46] then goD (t::r) out.dropLast else goD (t::r) (out++[47::s]):=by rw [goD]
end
end Go.Proofs.YtmjappnpedjlnaaGreatDoor
