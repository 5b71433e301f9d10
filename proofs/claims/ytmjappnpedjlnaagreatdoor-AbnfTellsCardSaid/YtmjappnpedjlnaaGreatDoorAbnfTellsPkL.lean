/-
  What the law AbnfTells leans on, and its walk (12 of 27).
-/
import Derived.Below
namespace Go.Proofs.YtmjappnpedjlnaaGreatDoor
set_option maxRecDepth 100000
set_option maxHeartbeats 16000000
section
open Go.RowKit
structure PZ where
 scheme:List UInt8
 hasS:Bool
 user:List UInt8
 hasU:Bool
 host:List UInt8
 hasA:Bool
 port:List UInt8
 hasP:Bool
 path:List UInt8
 query:List UInt8
 hasQ:Bool
 frag:List UInt8
 hasF:Bool
 deriving DecidableEq
def zaI:PZ:=⟨[],false,[],false,[],false,[],false,[],[],false,[],false⟩
def zaG (q:UInt8→Bool):List UInt8→List UInt8×List UInt8
 |[]=>([],[])
 |c::l=>if q c then ([],c::l) else (c::(zaG q l).1,(zaG q l).2)
theorem zcT (q:UInt8→Bool) (l:List UInt8):l=(zaG q l).1++(zaG q l).2:=by
 induction l with
 |nil=>rfl
 |cons c l ih=>unfold zaG;split;rfl;rw [List.cons_append,←ih]
theorem zeC (q:UInt8→Bool) (l:List UInt8): ∀c∈(zaG q l).1,q c=false:=by
 induction l with
 |nil=>exact fun _ h=>(by cases h)
 |cons c l ih=>
  unfold zaG
  split
  ·exact fun _ h=>(by cases h)
  ·rename_i hc
   intro d hd
   rcases List.mem_cons.1 hd with rfl|hd
   ·simpa using hc
   ·exact ih d hd
theorem zfB (q:UInt8→Bool) (l:List UInt8):(zaG q l).2=[]∨ ∃c r,(zaG q l).2=c::r∧q c=true:=by
 induction l with
 |nil=>exact .inl rfl
 |cons c l ih=>
  unfold zaG
  split
  ·rename_i hc;exact .inr ⟨c,l,rfl,hc⟩
  ·exact ih
theorem ziU (q:UInt8→Bool): ∀{a b:List UInt8},(∀c∈a,q c=false)→(b=[]∨ ∃c r,b=c::r∧q c=true)→zaG q (a++b)=(a,b)
 |[],b,_,hb=>by
  rcases hb with rfl|⟨c,r,rfl,hc⟩
  ·rfl
  ·show (if q c=true then _ else _)=_
   rw [if_pos hc]
 |c::a,b,ha,hb=>by
  have h:=ha c (by simp)
  show (if q c=true then _ else (c::(zaG q (a++b)).1,(zaG q (a++b)).2))=_
  rw [if_neg (by rw [h];exact Bool.false_ne_true),ziU q (fun d hd=>ha d (by simp [hd])) hb]
def zeY (c:UInt8):Bool:=c==58||c==47||c==63||c==35
def zaJ (s:List UInt8):Bool×List UInt8×List UInt8:=
 match (zaG zeY s).2 with
 |58::r=>(true,(zaG zeY s).1,r)
 |_=>(false,[],s)
def cutA (b:UInt8) (s:List UInt8):List UInt8×Bool×List UInt8:=
 match (zaG (· ==b) s).2 with
 |[]=>(s,false,[])
 |_::r=>((zaG (· ==b) s).1,true,r)
def zcS (a:List UInt8):List UInt8×Bool×List UInt8:=
 match (zaG (fun c=>c==58||c==93) a.reverse).2 with
 |58::r=>(r.reverse,true,(zaG (fun c=>c==58||c==93) a.reverse).1.reverse)
 |_=>(a,false,[])
def zeA (a:List UInt8):Bool×List UInt8×List UInt8×Bool×List UInt8:=
 match cutA 64 a with
 |(u,true,r)=>(true,u,(zcS r).1,(zcS r).2.1,(zcS r).2.2)
 |(_,false,_)=>(false,[],(zcS a).1,(zcS a).2.1,(zcS a).2.2)
def zcY (s:List UInt8):List UInt8×Bool×(Bool×List UInt8×List UInt8×Bool×List UInt8):=
 match s with
 |47::47::r=>((zaG (· ==47) r).2,true,zeA (zaG (· ==47) r).1)
 |s=>(s,false,(false,[],[],false,[]))
def zbG (s:List UInt8):PZ:=
 let x:=zaJ s
 let f:=cutA 35 x.2.2
 let q:=cutA 63 f.1
 let h:=zcY q.1
 ⟨x.2.1,x.1,h.2.2.2.1,h.2.2.1,h.2.2.2.2.1,h.2.1,h.2.2.2.2.2.2,h.2.2.2.2.2.1,h.1,q.2.2,q.2.1,f.2.2,f.2.1⟩
def hierT (p:PZ):List UInt8:=
 (if p.hasA then 47::47::((if p.hasU then p.user++[64] else [])++(p.host++(if p.hasP then 58::p.port else []))) else [])++p.path
def zbL (p:PZ):List UInt8:=
 (if p.hasS then p.scheme++[58] else [])++(hierT p++((if p.hasQ then 63::p.query else [])++(if p.hasF then 35::p.frag else [])))
theorem zjF (b:UInt8) (s:List UInt8):s=(cutA b s).1++(if (cutA b s).2.1 then b::(cutA b s).2.2 else [])∧(∀c∈(cutA b s).1,(c==b)=false)∧((cutA b s).2.1=false→(cutA b s).2.2=[]):=by
 have h1:=zcT (· ==b) s
 have h2:=zeC (· ==b) s
 have h3:=zfB (· ==b) s
 unfold cutA
 split
 ·rename_i e
  rw [e,List.append_nil] at h1
  refine ⟨by simp,?_,fun _=>rfl⟩
  rw [←h1] at h2
  exact h2
 ·rename_i c r e
  rw [e] at h1 h3
  rcases h3 with h3|⟨d,t,h4,h5⟩
  ·cases h3
  ·cases h4
   have:c=b:=by simpa using h5
   subst this
   exact ⟨h1,h2,fun h=>by cases h⟩
theorem ziR (s:List UInt8):s=(if (zaJ s).1 then (zaJ s).2.1++[58] else [])++(zaJ s).2.2∧((zaJ s).1=false→(zaJ s).2.1=[]):=by
 have h1:=zcT zeY s
 unfold zaJ
 split
 ·rename_i r e
  rw [e] at h1
  refine ⟨?_,fun h=>by cases h⟩
  show s=((zaG zeY s).1++[58])++r
  rw [List.append_assoc]
  exact h1
 ·exact ⟨rfl,fun _=>rfl⟩
/-! ### what may stand where -/
def zcW (c:UInt8):Bool:=(65≤c.toNat&&c.toNat≤90)||(97≤c.toNat&&c.toNat≤122)
def zbC (c:UInt8):Bool:=48≤c.toNat&&c.toNat≤57
def hexA (c:UInt8):Bool:=zbC c||(65≤c.toNat&&c.toNat≤70)||(97≤c.toNat&&c.toNat≤102)
def zeX (c:UInt8):Bool:=zcW c||zbC c||[45,46,95,126].contains c||[33,36,38,39,40,41,42,43,44,59,61].contains c
def isA (of:List UInt8):List UInt8→Bool
 |[]=>true
 |[c]=>zeX c||of.contains c
 |[c,d]=>(zeX c||of.contains c)&&(zeX d||of.contains d)
 |c::d::e::l=>if c==37&&hexA d&&hexA e then isA of l else (zeX c||of.contains c)&&isA of (d::e::l)
def zbF (s:List UInt8):Bool:=
 match s with
 |[]=>false
 |c::l=>zcW c&&l.all fun d=>zcW d||zbC d||[43,45,46].contains d
def zcM (s:List UInt8):Bool:=
 match s with
 |[]=>false
 |c::l=>(c==118||c==86)&&(match zaG (· ==46) l with
  |(d,_::r)=> !d.isEmpty&& !r.isEmpty&&d.all hexA&&isA [58] r&& !r.contains 37
  |_=>false)
def zbR (six:List UInt8→Bool) (s:List UInt8):Bool:=
 match s with
 |91::l=>l.getLast? ==some 93&&(six l.dropLast||zcM l.dropLast)
 |s=>isA [] s
def zgI (s:List UInt8) (hasS hasA:Bool):Bool:=
 isA [58,64,47] s&&(if hasA then s.isEmpty||s.head? ==some 47 else (s.take 2 !=[47,47])&&(hasS||(zaG (fun c=>c==58||c==47) s).2.head? !=some 58))
def zlL (six:List UInt8→Bool) (p:PZ):Bool:=
 (!p.hasA||(isA [58] p.user&&zbR six p.host&&p.port.all zbC))&&zgI p.path p.hasS p.hasA&&isA [58,64,47,63] p.query&&isA [58,64,47,63] p.frag
def zbK (six:List UInt8→Bool) (s:List UInt8):PZ×Int:=
 if 4096<s.length then (zaI,3)
 else if (zbG s).hasS&& !zbF (zbG s).scheme then (zaI,5)
 else if zlL six (zbG s) then (zbG s,0) else (zaI,11)
def zeK (six:List UInt8→Bool) (p:PZ):Bool:=(zbK six (zbL p)).2==0&&p==(zbK six (zbL p)).1
end
end Go.Proofs.YtmjappnpedjlnaaGreatDoor
