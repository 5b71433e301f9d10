/-
  What the law AbnfMeets leans on, and its walk (12 of 35).
-/
import Derived.Below
namespace Go.Proofs.YtppgdppmheiocaaGreatDoor
set_option maxRecDepth 100000
set_option maxHeartbeats 16000000
section
open Go.RowKit
structure PZ where
 scheme:List UInt8
 hasS:Bool
 user:List UInt8
 hasU:Bool
 host:List UInt8
 hasA:Bool
 port:List UInt8
 hasP:Bool
 path:List UInt8
 query:List UInt8
 hasQ:Bool
 frag:List UInt8
 hasF:Bool
 deriving DecidableEq
def zaX:PZ:=⟨[],false,[],false,[],false,[],false,[],[],false,[],false⟩
def zaN (q:UInt8→Bool):List UInt8→List UInt8×List UInt8
 |[]=>([],[])
 |c::l=>if q c then ([],c::l) else (c::(zaN q l).1,(zaN q l).2)
theorem zeU (q:UInt8→Bool) (l:List UInt8):l=(zaN q l).1++(zaN q l).2:=by
 induction l with
 |nil=>rfl
 |cons c l ih=>unfold zaN;split;rfl;rw [List.cons_append,←ih]
theorem zfK (q:UInt8→Bool) (l:List UInt8): ∀c∈(zaN q l).1,q c=false:=by
 induction l with
 |nil=>exact fun _ h=>(by cases h)
 |cons c l ih=>
  unfold zaN
  split
  ·exact fun _ h=>(by cases h)
  ·rename_i hc
   intro d hd
   rcases List.mem_cons.1 hd with rfl|hd
   ·simpa using hc
   ·exact ih d hd
theorem zhS (q:UInt8→Bool) (l:List UInt8):(zaN q l).2=[]∨ ∃c r,(zaN q l).2=c::r∧q c=true:=by
 induction l with
 |nil=>exact .inl rfl
 |cons c l ih=>
  unfold zaN
  split
  ·rename_i hc;exact .inr ⟨c,l,rfl,hc⟩
  ·exact ih
theorem zdP (q:UInt8→Bool): ∀{a b:List UInt8},(∀c∈a,q c=false)→(b=[]∨ ∃c r,b=c::r∧q c=true)→zaN q (a++b)=(a,b)
 |[],b,_,hb=>by
  rcases hb with rfl|⟨c,r,rfl,hc⟩
  ·rfl
  ·show (if q c=true then _ else _)=_
   rw [if_pos hc]
 |c::a,b,ha,hb=>by
  have h:=ha c (by simp)
  show (if q c=true then _ else (c::(zaN q (a++b)).1,(zaN q (a++b)).2))=_
  rw [if_neg (by rw [h];exact Bool.false_ne_true),zdP q (fun d hd=>ha d (by simp [hd])) hb]
theorem zzK (q:UInt8→Bool) {a:List UInt8} (ha: ∀c∈a,q c=false):zaN q a=(a,[]):=by
 have:=zdP q (b:=[]) ha (.inl rfl)
 simpa using this
def zfU (c:UInt8):Bool:=c==58||c==47||c==63||c==35
def zaK (s:List UInt8):Bool×List UInt8×List UInt8:=
 match (zaN zfU s).2 with
 |58::r=>(true,(zaN zfU s).1,r)
 |_=>(false,[],s)
def cutA (b:UInt8) (s:List UInt8):List UInt8×Bool×List UInt8:=
 match (zaN (· ==b) s).2 with
 |[]=>(s,false,[])
 |_::r=>((zaN (· ==b) s).1,true,r)
def zdU (a:List UInt8):List UInt8×Bool×List UInt8:=
 match (zaN (fun c=>c==58||c==93) a.reverse).2 with
 |58::r=>(r.reverse,true,(zaN (fun c=>c==58||c==93) a.reverse).1.reverse)
 |_=>(a,false,[])
def zeC (a:List UInt8):Bool×List UInt8×List UInt8×Bool×List UInt8:=
 match cutA 64 a with
 |(u,true,r)=>(true,u,(zdU r).1,(zdU r).2.1,(zdU r).2.2)
 |(_,false,_)=>(false,[],(zdU a).1,(zdU a).2.1,(zdU a).2.2)
def zeX (s:List UInt8):List UInt8×Bool×(Bool×List UInt8×List UInt8×Bool×List UInt8):=
 match s with
 |47::47::r=>((zaN (· ==47) r).2,true,zeC (zaN (· ==47) r).1)
 |s=>(s,false,(false,[],[],false,[]))
def zbF (s:List UInt8):PZ:=
 let x:=zaK s
 let f:=cutA 35 x.2.2
 let q:=cutA 63 f.1
 let h:=zeX q.1
 ⟨x.2.1,x.1,h.2.2.2.1,h.2.2.1,h.2.2.2.2.1,h.2.1,h.2.2.2.2.2.2,h.2.2.2.2.2.1,h.1,q.2.2,q.2.1,f.2.2,f.2.1⟩
theorem zoQ (b:UInt8) (s:List UInt8):s=(cutA b s).1++(if (cutA b s).2.1 then b::(cutA b s).2.2 else [])∧(∀c∈(cutA b s).1,(c==b)=false)∧((cutA b s).2.1=false→(cutA b s).2.2=[]):=by
 have h1:=zeU (· ==b) s
 have h2:=zfK (· ==b) s
 have h3:=zhS (· ==b) s
 unfold cutA
 split
 ·rename_i e
  rw [e,List.append_nil] at h1
  refine ⟨by simp,?_,fun _=>rfl⟩
  rw [←h1] at h2
  exact h2
 ·rename_i c r e
  rw [e] at h1 h3
  rcases h3 with h3|⟨d,t,h4,h5⟩
  ·cases h3
  ·cases h4
   have:c=b:=by simpa using h5
   subst this
   exact ⟨h1,h2,fun h=>by cases h⟩
theorem zoN {b:UInt8} {a:List UInt8} (ha: ∀c∈a,(c==b)=false) (r:List UInt8):cutA b (a++b::r)=(a,true,r):=by
 unfold cutA
 rw [zdP (· ==b) ha (.inr ⟨b,r,rfl,by simp⟩)]
theorem zkV {b:UInt8} {a:List UInt8} (ha: ∀c∈a,(c==b)=false):cutA b a=(a,false,[]):=by
 unfold cutA
 rw [zzK (· ==b) ha]
theorem znR (s:List UInt8):s=(if (zaK s).1 then (zaK s).2.1++[58] else [])++(zaK s).2.2∧((zaK s).1=false→(zaK s).2.1=[]):=by
 have h1:=zeU zfU s
 unfold zaK
 split
 ·rename_i r e
  rw [e] at h1
  refine ⟨?_,fun h=>by cases h⟩
  show s=((zaN zfU s).1++[58])++r
  rw [List.append_assoc]
  exact h1
 ·exact ⟨rfl,fun _=>rfl⟩
/-! ### what may stand where -/
def zgC (c:UInt8):Bool:=(65≤c.toNat&&c.toNat≤90)||(97≤c.toNat&&c.toNat≤122)
def zcT (c:UInt8):Bool:=48≤c.toNat&&c.toNat≤57
def hexA (c:UInt8):Bool:=zcT c||(65≤c.toNat&&c.toNat≤70)||(97≤c.toNat&&c.toNat≤102)
def ziC (c:UInt8):Bool:=zgC c||zcT c||[45,46,95,126].contains c||[33,36,38,39,40,41,42,43,44,59,61].contains c
def isA (of:List UInt8):List UInt8→Bool
 |[]=>true
 |[c]=>ziC c||of.contains c
 |[c,d]=>(ziC c||of.contains c)&&(ziC d||of.contains d)
 |c::d::e::l=>if c==37&&hexA d&&hexA e then isA of l else (ziC c||of.contains c)&&isA of (d::e::l)
def zdI (s:List UInt8):Bool:=
 match s with
 |[]=>false
 |c::l=>zgC c&&l.all fun d=>zgC d||zcT d||[43,45,46].contains d
def zgM (s:List UInt8):Bool:=
 match s with
 |[]=>false
 |c::l=>(c==118||c==86)&&(match zaN (· ==46) l with
  |(d,_::r)=> !d.isEmpty&& !r.isEmpty&&d.all hexA&&isA [58] r&& !r.contains 37
  |_=>false)
def zgJ (six:List UInt8→Bool) (s:List UInt8):Bool:=
 match s with
 |91::l=>l.getLast? ==some 93&&(six l.dropLast||zgM l.dropLast)
 |s=>isA [] s
def ydC (s:List UInt8) (hasS hasA:Bool):Bool:=
 isA [58,64,47] s&&(if hasA then s.isEmpty||s.head? ==some 47 else (s.take 2 !=[47,47])&&(hasS||(zaN (fun c=>c==58||c==47) s).2.head? !=some 58))
def zvQ (six:List UInt8→Bool) (p:PZ):Bool:=
 (!p.hasA||(isA [58] p.user&&zgJ six p.host&&p.port.all zcT))&&ydC p.path p.hasS p.hasA&&isA [58,64,47,63] p.query&&isA [58,64,47,63] p.frag
def zeS (six:List UInt8→Bool) (s:List UInt8):PZ×Int:=
 if 4096<s.length then (zaX,3)
 else if (zbF s).hasS&& !zdI (zbF s).scheme then (zaX,5)
 else if zvQ six (zbF s) then (zbF s,0) else (zaX,11)
theorem z1L {six:List UInt8→Bool} {s:List UInt8} (h:(zeS six s).2=0):s.length≤4096∧((zbF s).hasS&& !zdI (zbF s).scheme)=false∧zvQ six (zbF s)=true∧zeS six s=(zbF s,0):=by
 unfold zeS at h ⊢
 split at h
 ·cases h
 ·rename_i h1
  split at h
  ·cases h
  ·rename_i h2
   split at h
   ·rename_i h3
    rw [if_neg h1,if_neg h2,if_pos h3]
    exact ⟨by omega,by simpa using h2,h3,rfl⟩
   ·cases h
end
end Go.Proofs.YtppgdppmheiocaaGreatDoor
