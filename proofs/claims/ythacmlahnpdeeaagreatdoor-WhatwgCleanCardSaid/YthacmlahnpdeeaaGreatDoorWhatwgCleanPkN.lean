/-
  What the law WhatwgClean leans on, and its walk (14 of 31).
-/
import Derived.Test.YthacmlahnpdeeaaGreatDoorWhatwgCleanPkG
import Derived.Test.YthacmlahnpdeeaaGreatDoorWhatwgCleanPkJ
import Derived.Test.YthacmlahnpdeeaaGreatDoorWhatwgCleanPkM
import Derived.Test.YthacmlahnpdeeaaGreatDoorWhatwgCleanPkB
namespace Go.Proofs.YthacmlahnpdeeaaGreatDoor
set_option maxRecDepth 100000
set_option maxHeartbeats 16000000
section
open Go.RowKit
/-- a URL -/
structure UZ where
 scheme:List UInt8
 user:List UInt8
 pass:List UInt8
 host:HZ
 port:Int
 path:List (List UInt8)
 query:List UInt8
 hasQ:Bool
 frag:List UInt8
 hasF:Bool
def zdZ:List UInt8:=[104,116,116,112]
def zdY:List UInt8:=[104,116,116,112,115]
def ownZ (s:List UInt8):Int:=if s=zdZ then 80 else if s=zdY then 443 else 0
def ygH (s of:List UInt8):Bool:=s.all fun c=> !hasB of c
def zjB (u:UZ):List UInt8:=if u.port= -1 then zfG u.host else zfG u.host++[58]++Lib.itoa u.port
def zgJ:List (List UInt8)→List UInt8
 |[]=>[]
 |s::r=>47::s++zgJ r
def askU (u:UZ):List UInt8:=zgJ u.path++(if u.hasQ=true then 63::u.query else [])
def whoU (u:UZ):List UInt8:=u.user++(if u.pass=[] then [] else 58::u.pass)++(if u.user=[]∧u.pass=[] then [] else [64])
def headU (u:UZ):List UInt8:=u.scheme++[58,47,47]
def zhY (u:UZ):List UInt8:=headU u++whoU u++zjB u++askU u
def znM (u:UZ):List UInt8:=zhY u++(if u.hasF=true then 35::u.frag else [])
theorem ycC {b:UInt8}: ∀{l:List UInt8},b∉l→Lib.index l [b]= -1
 |[],_=>rfl
 |c::l,h=>by
  have hc: ¬b=c:=fun e=>h (e▸List.mem_cons_self ..)
  have ih:=ycC (l:=l) (fun g=>h (List.mem_cons_of_mem _ g))
  unfold Lib.index
  rw [ih]
  simp [List.isPrefixOf,hc]
theorem ycM {b:UInt8}: ∀{a:List UInt8} (d:List UInt8),b∉a→Lib.index (a++b::d) [b]=a.length
 |[],d,_=>by
  show Lib.index (b::d) [b]=_
  unfold Lib.index;simp [List.isPrefixOf]
 |c::a,d,h=>by
  have hc: ¬b=c:=fun e=>h (e▸List.mem_cons_self ..)
  have ih:=ycM (a:=a) d (fun g=>h (List.mem_cons_of_mem _ g))
  show Lib.index (c::(a++b::d)) [b]=_
  unfold Lib.index
  rw [ih]
  have h1:(([b]:List UInt8).isPrefixOf (c::(a++b::d)))=false:=by simp [List.isPrefixOf,hc]
  have h2:((a.length:Int)== -1)=false:=by rw [beq_eq_false_iff_ne];omega
  rw [h1,h2]
  simp
theorem yfJ {b:UInt8} {l:List UInt8} (h:b∉l):Lib.cut l [b]=(l,[],false):=by
 unfold Lib.cut;rw [ycC h];rfl
theorem ygW {b:UInt8} {a:List UInt8} (d:List UInt8) (h:b∉a):Lib.cut (a++b::d) [b]=(a,d,true):=by
 unfold Lib.cut;rw [ycM d h,if_pos (by omega)]
 simp
theorem z3D (l:List (List UInt8)) (s:List UInt8):zgJ (l++[s])=zgJ l++(47::s):=by
 induction l with
 |nil=>simp [zgJ]
 |cons a r ih=>simp [zgJ,ih]
/-- a URL that may be:its facts -/
structure zjE (u:UZ):Prop where
 sch:u.scheme=zdZ∨u.scheme=zdY
 host:u.host.Ok
 port: -1≤u.port∧u.port≤65535∧u.port≠ownZ u.scheme
 some:u.path≠[]
 segs:u.path.all (fun s=>ygH s [47,63,35,92])=true
 qry:ygH u.query [35]=true
 noQ:u.hasQ=false→u.query=[]
 noF:u.hasF=false→u.frag=[]
end

section
open Go.RowKit
def encW (s:Int) (l:List UInt8):List UInt8:=encB s (scal ⟨l.toArray⟩)
def zdL (c:UInt8):Bool:=c==47||c==92
def schC (c:UInt8):Bool:=zdH c.toNat||zbV c.toNat||c==43||c==45||c==46
/-- a text's scheme,and the rest -/
def schW (l:List UInt8):Option (List UInt8×List UInt8):=
 if (match l with|[]=>false|c::_=>zdH c.toNat)=true∧l[l.findIdx fun c=> !schC c]? =some 58 then
  some (zbF (l.take (l.findIdx fun c=> !schC c)),l.drop ((l.findIdx fun c=> !schC c)+1)) else none
def zeA (l:List UInt8):List UInt8:=l.dropWhile zdL
/-- how many points a text is of -/
def ptsN:List UInt8→Option Nat
 |[]=>some 0
 |[c]=>if c=46 then some 1 else none
 |[c,d]=>if c=46∧d=46 then some 2 else none
 |c::d::e::r=>if c=46 then (ptsN (d::e::r)).map (· +1) else if c=37∧d=50∧(e=101∨e=69) then (ptsN r).map (· +1) else none
def ptsW (l:List UInt8):Nat:=match ptsN l with
 |some n=>if n>2 then 0 else n
 |none=>0
/-- a part of a path is read;'last':it is the last one -/
def zhB (last:Bool) (out:List (List UInt8)) (q:List UInt8):List (List UInt8):=
 if ptsW q=0 then out++[q] else if last=true then (if ptsW q=2 then out.dropLast else out)++[[]] else if ptsW q=2 then out.dropLast else out
def goW:List (List UInt8)→List (List UInt8)→List (List UInt8)
 |out,[]=>out
 |out,p::r=>goW (zhB r.isEmpty out (encW 4 p)) r
def zmP (from_:List (List UInt8)) (l:List UInt8):List (List UInt8):=goW from_ (splitB (hasB [47,92]) l)
/-- the query and the fragment -/
def qryW (u:UZ) (l:List UInt8):UZ:=if l.head? =some 63 then {u with query:=encW 3 ((l.take (l.findIdx (· ==35))).drop 1),hasQ:=true} else u
def frgW (u:UZ) (l:List UInt8):UZ:=if l.findIdx (· ==35)<l.length then {u with frag:=encW 1 (l.drop (l.findIdx (· ==35)+1)),hasF:=true} else u
def zlF (u:UZ) (l:List UInt8):UZ:=frgW (qryW u l) l
def zeM (u:UZ) (from_:List (List UInt8)) (l:List UInt8):UZ:=
 zlF {u with path:=zmP from_ (l.take (l.findIdx (hasB [63,35])))} (l.drop (l.findIdx (hasB [63,35])))
/-- the host and the port of a text;'ins':behind a [-/
def hpW:Bool→List UInt8→List UInt8×List UInt8
 |_,[]=>([],[])
 |ins,c::r=>
  if c=58∧ins=false then ([],r)
  else (c::(hpW (if c=91 then true else if c=93 then false else ins) r).1,(hpW (if c=91 then true else if c=93 then false else ins) r).2)
def zpP:Int→List UInt8→Option Int
 |n,[]=>some n
 |n,c::r=>if zbV c.toNat=true then zpP (if n≤65535 then 10*n+(c.toNat:Int) - 48 else n) r else none
def zlY (l:List UInt8):Int:=if l=[] then -1 else match zpP 0 l with
 |none=> -2
 |some n=>if n>65535 then -2 else n
def zdM:UZ:=⟨[],[],[],.none,0,[],[],false,[],false⟩
/-- the place of the last @ -/
def atW (l:List UInt8):Option Nat:=if l.reverse.findIdx (· ==64)<l.length then some (l.length - 1 - l.reverse.findIdx (· ==64)) else none
def zqB (l:List UInt8):List UInt8:=match atW l with
 |none=>[]
 |some k=>encW 5 ((l.take k).take ((l.take k).findIdx (· ==58)))
def zpQ (l:List UInt8):List UInt8:=match atW l with
 |none=>[]
 |some k=>if (l.take k).findIdx (· ==58)<(l.take k).length then encW 5 ((l.take k).drop ((l.take k).findIdx (· ==58)+1)) else []
def zdO (l:List UInt8):List UInt8:=match atW l with
 |none=>l
 |some k=>l.drop (k+1)
def offW (l:List UInt8):List UInt8:=match l with
 |[]=>[]
 |c::r=>if zdL c=true then r else c::r
/-- an authority,and what stands behind it -/
def zfH (name l:List UInt8):UZ×Int:=
 let a:=l.take (l.findIdx (hasB [47,92,63,35]))
 let rest:=l.drop (l.findIdx (hasB [47,92,63,35]))
 let hp:=hpW false (zdO a)
 if hp.1=[] then (zdM,6)
 else if (zcR hp.1).2≠0 then (zdM,(zcR hp.1).2)
 else if zlY hp.2= -2 then (zdM,8)
 else (zeM {zdM with scheme:=name,user:=zqB a,pass:=zpQ a,host:=(zcR hp.1).1,port:=if zlY hp.2=ownZ name then -1 else zlY hp.2} [] (offW rest),0)
def zhQ (l:List UInt8):Bool:=match l with
 |[]=>false
 |c::_=>zdL c
/-- from a base -/
def relW (b:UZ) (l:List UInt8):UZ×Int:=
 if zhQ l=true∧zhQ (l.drop 1)=true then zfH b.scheme (zeA l)
 else
  let u:UZ:={zdM with scheme:=b.scheme,user:=b.user,pass:=b.pass,host:=b.host,port:=b.port}
  if zhQ l=true then (zeM u [] (l.drop 1),0)
  else if l=[]∨l.head? =some 35 then (zlF {u with path:=b.path,query:=b.query,hasQ:=b.hasQ} l,0)
  else if l.head? =some 63 then (zlF {u with path:=b.path} l,0)
  else (zeM u b.path.dropLast l,0)
/-- cleaned,and read -/
def zjR (s:List UInt8) (b:Option UZ):UZ×Int:=
 match schW s,b with
 |none,none=>(zdM,5)
 |none,some b=>relW b s
 |some (n,r),none=>if n=zdZ∨n=zdY then zfH n (zeA r) else (zdM,5)
 |some (n,r),some b=>if n=zdZ∨n=zdY then (if b.scheme≠n∨r.take 2=[47,47] then zfH n (zeA r) else relW b r) else (zdM,5)
def zbT (t:List UInt8) (b:Option UZ):UZ×Int:=if 4096<t.length then (zdM,3) else zjR (zcZ (zcK t)) b
def zfU:UZ×Int→List (List UInt8)→UZ×Int
 |c,[]=>c
 |c,t::r=>if c.2=0 then zfU (zbT t (some c.1)) r else c
theorem z1W (u:UZ) (l:List UInt8):(frgW u l).scheme=u.scheme∧(frgW u l).user=u.user∧(frgW u l).pass=u.pass∧(frgW u l).host=u.host∧(frgW u l).port=u.port∧(frgW u l).path=u.path∧(frgW u l).query=u.query∧(frgW u l).hasQ=u.hasQ:=by
 unfold frgW;split<;>exact ⟨rfl,rfl,rfl,rfl,rfl,rfl,rfl,rfl⟩
theorem z2G (u:UZ) (l:List UInt8):(qryW u l).scheme=u.scheme∧(qryW u l).user=u.user∧(qryW u l).pass=u.pass∧(qryW u l).host=u.host∧(qryW u l).port=u.port∧(qryW u l).path=u.path∧(qryW u l).frag=u.frag∧(qryW u l).hasF=u.hasF:=by
 unfold qryW;split<;>exact ⟨rfl,rfl,rfl,rfl,rfl,rfl,rfl,rfl⟩
end

section
open Go.RowKit
section
variable {σ:Type}
/-- how many bytes are taken -/
def zcM (st:σ→UInt8→Option σ):σ→List UInt8→Nat
 |_,[]=>0
 |s,c::l=>match st s c with
  |none=>0
  |some t=>zcM st t l+1
/-- a closure's steps,at runes and at bytes -/
structure zyF (sr:σ→Nat→Bool×σ) (st:σ→UInt8→Option σ):Prop where
 low: ∀s c,c.toNat<128→st s c=if (sr s c.toNat).1=true then none else some (sr s c.toNat).2
 high:((∀s r,128≤r→(sr s r).1=true)∧ ∀s c,128≤c.toNat→st s c=none)∨((∀s r,128≤r→sr s r=(false,s))∧ ∀s c,128≤c.toNat→st s c=some s)
theorem ztH (st:σ→UInt8→Option σ): ∀(l:List UInt8) (s:σ),zcM st s l≤l.length
 |[],_=>Nat.le_refl _
 |c::l,s=>by
  unfold zcM
  split
  ·omega
  ·have:=ztH st l;simp only [List.length_cons];rename_i t _;have:=this t;omega
theorem ziE {st:σ→UInt8→Option σ} {s:σ} {c:UInt8} {l:List UInt8} (h:st s c=none):zcM st s (c::l)=0:=by unfold zcM;rw [h]
theorem zdU {st:σ→UInt8→Option σ} {s t:σ} {c:UInt8} {l:List UInt8} (h:st s c=some t):zcM st s (c::l)=zcM st t l+1:=by conv=>lhs;unfold zcM;rw [h]
theorem zwQ {st:σ→UInt8→Option σ} {s:σ}: ∀(k:Nat) (l:List UInt8),(∀j,j<k→ ∃c,l[j]? =some c∧st s c=some s)→zcM st s l=k+zcM st s (l.drop k)
 |0,l,_=>by simp
 |k+1,[],h=>by obtain ⟨c,e,_⟩:=h 0 (by omega);simp at e
 |k+1,c::l,h=>by
  obtain ⟨d,e,hd⟩:=h 0 (by omega)
  simp at e;subst e
  rw [zdU hd,zwQ k l (fun j hj=>by have:=h (j+1) (by omega);simpa using this),List.drop_succ_cons]
  omega
theorem ylY {s:ByteArray} {i:Nat} (h:i<s.size) (hc:128≤zbE s i): ∃c,s.data.toList[i]? =some c∧128≤c.toNat:=⟨s[i],zeT s i h,by rw [←zmZ s i h];exact hc⟩
theorem zuP (s:ByteArray) (p:Nat) (h:p<s.size) (hc:128≤s[p].toNat): ∀j,j<(Utf8.decode s p).2→ ∃c,s.data.toList[p+j]? =some c∧128≤c.toNat:=by
 have h0:=zmZ s p h
 intro j hj
 rw [zcQ] at hj
 have key: ∀n,j<n→(∀i,i<n→p+i<s.size∧128≤zbE s (p+i))→ ∃c,s.data.toList[p+j]? =some c∧128≤c.toNat:=fun n hn H=>ylY (H j hn).1 (H j hn).2
 have k1: ∀i,i<1→p+i<s.size∧128≤zbE s (p+i):=fun i hi=>by
  obtain rfl:i=0:=by omega
  exact ⟨h,by rw [Nat.add_zero];omega⟩
 split at hj
 ·omega
 ·split at hj
  ·rename_i a
   split at hj
   ·refine key 2 hj (fun i hi=> ?_)
    match i,hi with
    |0,_=>exact k1 0 (by omega)
    |1,_=>exact ⟨a.2.1,by omega⟩
   ·exact key 1 hj k1
  ·split at hj
   ·rename_i a
    split at hj
    ·refine key 3 hj (fun i hi=> ?_)
     match i,hi with
     |0,_=>exact k1 0 (by omega)
     |1,_=>exact ⟨a.1.2.1,by omega⟩
     |2,_=>exact ⟨a.2.1,by omega⟩
    ·exact key 1 hj k1
   ·split at hj
    ·rename_i a
     split at hj
     ·refine key 4 hj (fun i hi=> ?_)
      match i,hi with
      |0,_=>exact k1 0 (by omega)
      |1,_=>exact ⟨a.1.1.2.1,by omega⟩
      |2,_=>exact ⟨a.1.2.1,by omega⟩
      |3,_=>exact ⟨a.2.1,by omega⟩
     ·exact key 1 hj k1
    ·exact key 1 hj k1
theorem ydF {sr:σ→Nat→Bool×σ} {st:σ→UInt8→Option σ} (H:zyF sr st) (s:ByteArray) (p:Nat) (h:p<s.size) (x:σ) (hr:(sr x (Utf8.decode s p).1).1=true):zcM st x (s.data.toList.drop p)=0:=by
 rw [zeO s p h]
 apply ziE
 by_cases hc:s[p].toNat<128
 ·rw [decode_ascii s p h hc] at hr
  rw [H.low x _ hc,if_pos hr]
 ·have hd:=(decode_high s p h (by omega)).1
  rcases H.high with ⟨_,k⟩|⟨k,_⟩
  ·exact k x _ (by omega)
  ·rw [k x _ hd] at hr;cases hr
theorem ykX {sr:σ→Nat→Bool×σ} {st:σ→UInt8→Option σ} (H:zyF sr st) (s:ByteArray) (p:Nat) (h:p<s.size) (x:σ) (hr:(sr x (Utf8.decode s p).1).1=false):
  zcM st x (s.data.toList.drop p)=(Utf8.decode s p).2+zcM st (sr x (Utf8.decode s p).1).2 (s.data.toList.drop (p+(Utf8.decode s p).2)):=by
 by_cases hc:s[p].toNat<128
 ·rw [decode_ascii s p h hc] at hr ⊢
  rw [zeO s p h,zdU (by rw [H.low x _ hc,if_neg (by rw [hr];decide)])]
  exact Nat.add_comm _ _
 ·have hd:=(decode_high s p h (by omega)).1
  rcases H.high with ⟨k,_⟩|⟨k,kb⟩
  ·rw [k x _ hd] at hr;cases hr
  ·rw [k x _ hd]
   have:=zwQ (st:=st) (s:=x) (Utf8.decode s p).2 (s.data.toList.drop p) (fun j hj=>by
    obtain ⟨c,e,he⟩:=zuP s p h (by omega) j hj
    exact ⟨c,by rw [List.getElem?_drop];exact e,kb x c he⟩)
   rw [this,List.drop_drop]
end
/-- a part that ends at one of some bytes,each below 128 -/
theorem zkV (q:UInt8→Bool): ∀l:List UInt8,zcM (fun (_:Unit) c=>if q c=true then none else some ()) () l=l.findIdx q
 |[]=>rfl
 |c::l=>by
  cases h:q c with
  |true=>rw [ziE (by rw [if_pos h]),List.findIdx_cons,h];rfl
  |false=>rw [zdU (t:=()) (by rw [if_neg (by rw [h];decide)]),zkV q l,List.findIdx_cons,h];rfl
theorem zrL (q:UInt8→Bool): ∀l:List UInt8,l.drop (l.findIdx fun c=> !q c)=l.dropWhile q
 |[]=>rfl
 |c::l=>by
  rw [List.findIdx_cons,List.dropWhile_cons]
  cases h:q c with
  |true=>simpa using zrL q l
  |false=>simp
theorem z7A (l:List UInt8):l.drop (zcM (fun (_:Unit) c=>if (!zdL c)=true then none else some ()) () l)=zeA l:=by
 rw [zkV (fun c=> !zdL c)];exact zrL zdL l
/-- a scheme's step:'w':within -/
def schS (w:Bool) (c:UInt8):Option Bool:=if zdH c.toNat||(w&&(zbV c.toNat||(c==43||c==45||c==46))) then some true else none
theorem zvN: ∀l:List UInt8,zcM schS true l=l.findIdx fun c=> !schC c
 |[]=>rfl
 |c::l=>by
  have e:schS true c=if schC c=true then some true else none:=by unfold schS schC;simp only [Bool.true_and,Bool.or_assoc]
  cases h:schC c with
  |true=>rw [zdU (t:=true) (by rw [e,if_pos h]),zvN l,List.findIdx_cons,h];rfl
  |false=>rw [ziE (by rw [e,if_neg (by rw [h];decide)]),List.findIdx_cons,h];rfl
/-- how long a text's scheme is,if it has one -/
def schN (l:List UInt8):Nat:=zcM schS false l
theorem zuD (l:List UInt8):schW l=if schN l≠0∧l[schN l]? =some 58 then some (zbF (l.take (schN l)),l.drop (schN l+1)) else none:=by
 unfold schN
 match l with
 |[]=>simp [schW,zcM]
 |c::l=>
  cases h:zdH c.toNat with
  |true=>
   have e1:schS false c=some true:=by unfold schS;rw [h];rfl
   have e2:schC c=true:=by unfold schC;rw [h];rfl
   have e3:(c::l).findIdx (fun c=> !schC c)=zcM schS false (c::l):=by rw [zdU e1,zvN,List.findIdx_cons,e2];rfl
   unfold schW
   rw [e3]
   have e4:zcM schS false (c::l)≠0:=by rw [zdU e1];omega
   simp only [h,true_and,ne_eq,e4,not_false_eq_true]
  |false=>
   have e1:schS false c=none:=by unfold schS;rw [h];rfl
   unfold schW
   rw [ziE e1]
   simp [h]
/-- a host's step:'i':between brackets -/
def zhT (i:Bool) (c:UInt8):Option Bool:=if c=91 then some true else if c=93 then some false else if c=58∧i=false then none else some i
theorem ziA (ins:Bool) (c:UInt8) (r:List UInt8):hpW ins (c::r)=if c=58∧ins=false then ([],r) else (c::(hpW (if c=91 then true else if c=93 then false else ins) r).1,(hpW (if c=91 then true else if c=93 then false else ins) r).2):=by conv=>lhs;unfold hpW
theorem zgT: ∀(l:List UInt8) (i:Bool),l.take (zcM zhT i l)=(hpW i l).1∧(l.drop (zcM zhT i l)).drop 1=(hpW i l).2∧(zcM zhT i l<l.length→l[zcM zhT i l]? =some 58)
 |[],i=>by simp [zcM,hpW]
 |c::l,i=>by
  by_cases h91:c=91
  ·have ih:=zgT l true
   have e:zhT i c=some true:=if_pos h91
   rw [zdU e,ziA,if_neg (by rw [h91];exact fun g=>absurd g.1 (by decide)),if_pos h91]
   simpa using ih
  ·by_cases h93:c=93
   ·have ih:=zgT l false
    have e:zhT i c=some false:=(if_neg h91).trans (if_pos h93)
    rw [zdU e,ziA,if_neg (by rw [h93];exact fun g=>absurd g.1 (by decide)),if_neg h91,if_pos h93]
    simpa using ih
   ·by_cases h58:c=58∧i=false
    ·have e:zhT i c=none:=(if_neg h91).trans ((if_neg h93).trans (if_pos h58))
     rw [ziE e,ziA,if_pos h58]
     simp [h58.1]
    ·have ih:=zgT l i
     have e:zhT i c=some i:=(if_neg h91).trans ((if_neg h93).trans (if_neg h58))
     rw [zdU e,ziA,if_neg h58,if_neg h91,if_neg h93]
     simpa using ih
end

section
open Go.RowKit
theorem u8_nat (c:UInt8):UInt8.ofNat c.toNat=c:=by simp
/-- not a slash -/
def zqS (_:Unit) (r:Nat):Bool×Unit:=(!(decide (r=47)||decide (r=92)),())
def z9T (_:Unit) (c:UInt8):Option Unit:=if (!zdL c)=true then none else some ()
theorem zrD (c:UInt8):zdL c=(decide (c.toNat=47)||decide (c.toNat=92)):=by
 unfold zdL
 rw [Bool.eq_iff_iff]
 simp only [Bool.or_eq_true,beq_iff_eq,decide_eq_true_eq,←UInt8.toNat_inj]
 exact Iff.rfl
theorem ycS:zyF zqS z9T where
 low _ c _:=by unfold z9T zqS;rw [zrD]
 high:= .inl ⟨fun _ r h=>by unfold zqS;simp;omega,fun _ c h=>by
  unfold z9T
  rw [if_pos]
  rw [zrD,decide_eq_false (by omega),decide_eq_false (by omega)];rfl⟩
/-- one of some signs -/
def ycX (of_:List UInt8) (_:Unit) (r:Nat):Bool×Unit:=(decide (r<128)&&hasB of_ (UInt8.ofNat r),())
def ygX (of_:List UInt8) (_:Unit) (c:UInt8):Option Unit:=if hasB of_ c=true then none else some ()
theorem yiH {of_:List UInt8} (h: ∀c∈of_,c.toNat<128):zyF (ycX of_) (ygX of_) where
 low _ c hc:=by unfold ygX ycX;rw [decide_eq_true hc,u8_nat];rfl
 high:= .inr ⟨fun _ r hr=>by unfold ycX;rw [decide_eq_false (by omega)];rfl,fun _ c hc=>by
  unfold ygX
  rw [if_neg]
  intro g
  have:c∈of_:=by simpa [hasB] using g
  have:=h c this
  omega⟩
theorem yeO (of_:List UInt8) (l:List UInt8):zcM (ygX of_) () l=l.findIdx (hasB of_):=zkV (hasB of_) l
/-- a scheme's -/
def zwL (w:Bool) (r:Nat):Bool×Bool:=(!(zdH r||(w&&(zbV r||(decide (r=43)||decide (r=45)||decide (r=46))))),true)
theorem yfV:zyF zwL schS where
 low w c _:=by
  have e:(c==43||c==45||c==46)=(decide (c.toNat=43)||decide (c.toNat=45)||decide (c.toNat=46)):=by
   rw [Bool.eq_iff_iff]
   simp only [Bool.or_eq_true,beq_iff_eq,decide_eq_true_eq,←UInt8.toNat_inj]
   exact Iff.rfl
  unfold schS zwL
  rw [e]
  cases (zdH ↑c.toNat||w&&(zbV ↑c.toNat||(decide (c.toNat=43)||decide (c.toNat=45)||decide (c.toNat=46))))<;>rfl
 high:=by
  have key: ∀(w:Bool) (r:Nat),128≤r→(zdH r||(w&&(zbV r||(decide (r=43)||decide (r=45)||decide (r=46)))))=false:=fun w r h=>by
   rw [show zdH (r:Int)=false from decide_eq_false (by omega),show zbV (r:Int)=false from decide_eq_false (by omega),decide_eq_false (by omega),decide_eq_false (by omega),decide_eq_false (by omega)]
   cases w<;>rfl
  refine .inl ⟨fun w r h=>by unfold zwL;rw [key w r h];rfl,fun w c h=> ?_⟩
  have e:(c==43||c==45||c==46)=(decide (c.toNat=43)||decide (c.toNat=45)||decide (c.toNat=46)):=by
   rw [Bool.eq_iff_iff]
   simp only [Bool.or_eq_true,beq_iff_eq,decide_eq_true_eq,←UInt8.toNat_inj]
   exact Iff.rfl
  unfold schS
  rw [e,key w _ h]
  rfl
/-- a host's -/
def inH (i:Bool) (r:Nat):Bool:=if r=91 then true else if r=93 then false else i
def zqU (i:Bool) (r:Nat):Bool×Bool:=(decide (r=58)&& !inH i r,inH i r)
theorem ydP:zyF zqU zhT where
 low i c _:=by
  have e1:c=91↔c.toNat=91:=by rw [←UInt8.toNat_inj];exact Iff.rfl
  have e2:c=93↔c.toNat=93:=by rw [←UInt8.toNat_inj];exact Iff.rfl
  have e3:c=58↔c.toNat=58:=by rw [←UInt8.toNat_inj];exact Iff.rfl
  unfold zhT zqU inH
  by_cases h1:c.toNat=91
  ·simp [e1,h1]
  ·by_cases h2:c.toNat=93
   ·simp [e1,e2,h2]
   ·simp only [e1,e2,e3,h1,h2,if_false]
    cases i<;>by_cases h3:c.toNat=58<;>simp [h3]
 high:= .inr ⟨fun i r h=>by unfold zqU inH;rw [decide_eq_false (by omega),if_neg (by omega),if_neg (by omega)];rfl,fun i c h=>by
  have e: ∀d:UInt8,d.toNat<128→c≠d:=fun d hd g=>by rw [g] at h;omega
  unfold zhT
  rw [if_neg (e 91 (by decide)),if_neg (e 93 (by decide)),if_neg (fun g=>e 58 (by decide) g.1)]⟩
end

section
open Go.RowKit
theorem yjU (b:Nat) (hb:b<128) (s:ByteArray) (h: ∀k (h:k<s.size),s[k].toNat≠b): ∀r∈scal s,r≠(b:Int):=by
 have key: ∀f p,∀r∈zlB s f p,r≠(b:Int):=by
  intro f
  induction f with
  |zero=>intro p x hx;simp [zlB] at hx
  |succ f ih=>
   intro p x hx
   by_cases hp:p<s.size
   ·rw [zgO s f p hp] at hx
    rcases List.mem_cons.1 hx with rfl|hx
    ·by_cases ha:(s[p]'hp).toNat<128
     ·rw [decode_ascii s p hp ha]
      have:=h p hp
      simp only
      omega
     ·have:=(decode_high s p hp (by omega)).1
      omega
    ·exact ih _ x hx
   ·rw [ziG s _ p hp] at hx;simp at hx
 exact key _ _
theorem ygF {p:List UInt8} {c:UInt8} (hc:c.toNat<128) (h:c∉p): ∀r∈scal ⟨p.toArray⟩,r≠(c.toNat:Int):=by
 refine yjU c.toNat hc _ (fun k hk e=>h ?_)
 have e2:(ByteArray.mk p.toArray)[k]=p[k]'(by simpa [ByteArray.size] using hk):=rfl
 rw [e2] at e
 rw [←UInt8.toNat_inj.1 e]
 exact List.getElem_mem _
theorem yfX (st:Int) (h0:0≤st) (h1:st≤5) (l:List Int): ∀b∈encB st l,b=37∨(∃n,n<16∧b=hexN n)∨(b.toNat:Int)∈l:=by
 intro b hb
 obtain ⟨r,hr,hb⟩:=List.mem_flatMap.1 hb
 cases hin:inB st r with
 |true=>
  have e:encP st r=pctL (Lib.encodeRune r):=by unfold encP;rw [hin];rfl
  rw [e] at hb
  obtain ⟨c,_,hb⟩:=List.mem_flatMap.1 hb
  have hc:=c.toNat_lt
  simp only [pctB,List.mem_cons,List.not_mem_nil,or_false] at hb
  rcases hb with rfl|rfl|rfl
  ·exact .inl rfl
  ·exact .inr (.inl ⟨_,by omega,rfl⟩)
  ·exact .inr (.inl ⟨_,by omega,rfl⟩)
 |false=>
  have e:encP st r=Lib.encodeRune r:=by unfold encP;rw [hin];rfl
  have ha:=zuL h0 h1 hin
  rw [e,zgA (by omega) (by omega)] at hb
  simp only [List.mem_cons,List.not_mem_nil,or_false] at hb
  subst hb
  rw [z5L r (by omega) (by omega),Int.toNat_of_nonneg (by omega)]
  exact .inr (.inr hr)
theorem ybF: ∀n:Fin 16,hexN n.val≠47∧hexN n.val≠92:=by decide+kernel
theorem ybE {st:Int} (h0:0≤st) (h1:st≤5) {p:List UInt8} {c:UInt8} (hc:c=47∨c=92) (h:c∉p):c∉encW st p:=by
 intro g
 rcases yfX st h0 h1 _ c g with e|⟨n,hn,e⟩|e
 ·rcases hc with rfl|rfl<;>cases e
 ·have:=ybF ⟨n,hn⟩
  rcases hc with rfl|rfl
  ·exact this.1 e.symm
  ·exact this.2 e.symm
 ·exact ygF (by rcases hc with rfl|rfl<;>decide) h _ e rfl
/-- a sign of a set isn't in what is encoded by it -/
theorem ztB {st:Int} (h0:0≤st) (h1:st≤5) {p:List UInt8} {c:UInt8} (hc:inB st (c.toNat:Int)=true):c∉encW st p:=fun g=>by
 have:=(zwZ st h0 h1 _ c g).2
 rw [hc] at this;cases this
theorem z7N (p:UInt8→Bool) (l:List UInt8):(∀x∈(spl p l).1,∀c∈x,p c=false)∧ ∀c∈(spl p l).2,p c=false:=by
 have key: ∀(l:List UInt8) (st:List (List UInt8)×List UInt8),(∀x∈st.1,∀c∈x,p c=false)→(∀c∈st.2,p c=false)→(∀x∈(l.foldl (zaR p) st).1,∀c∈x,p c=false)∧ ∀c∈(l.foldl (zaR p) st).2,p c=false:=by
  intro l
  induction l with
  |nil=>intro st h1 h2;exact ⟨h1,h2⟩
  |cons c l ih=>
   intro st h1 h2
   rw [List.foldl_cons]
   refine ih _ ?_ ?_
   ·intro x hx
    unfold zaR at hx
    split at hx
    ·rcases List.mem_append.1 hx with hx|hx
     ·exact h1 x hx
     ·rw [List.mem_singleton] at hx;rw [hx];exact h2
    ·exact h1 x hx
   ·intro d hd
    unfold zaR at hd
    split at hd
    ·cases hd
    ·rename_i hp
     rcases List.mem_append.1 hd with hd|hd
     ·exact h2 d hd
     ·rw [List.mem_singleton] at hd;rw [hd];simpa using hp
 exact key l ([],[]) (by intro x hx;cases hx) (by intro c hc;cases hc)
theorem z7O {p:UInt8→Bool} {l x:List UInt8} (h:x∈splitB p l): ∀c∈x,p c=false:=by
 unfold splitB at h
 rcases List.mem_append.1 h with h|h
 ·exact (z7N p l).1 x h
 ·rw [List.mem_singleton] at h;rw [h];exact (z7N p l).2
theorem zqG (p:UInt8→Bool) (l:List UInt8):splitB p l≠[]:=by simp [splitB]
/-! a path that is read -/
def segB (s:List UInt8):Bool:=ygH s [47,63,35,92]
theorem yiJ {p:List UInt8} (h: ∀c∈p,hasB [47,92] c=false):segB (encW 4 p)=true:=by
 refine List.all_eq_true.2 fun c hc=> ?_
 have n1:c≠47:=fun e=>by
  subst e
  exact ybE (by decide) (by decide) (.inl rfl) (fun g=>by have:=h _ g;revert this;decide) hc
 have n2:c≠92:=fun e=>by
  subst e
  exact ybE (by decide) (by decide) (.inr rfl) (fun g=>by have:=h _ g;revert this;decide) hc
 have n3:c≠63:=fun e=>by subst e;exact ztB (by decide) (by decide) (by decide) hc
 have n4:c≠35:=fun e=>by subst e;exact ztB (by decide) (by decide) (by decide) hc
 simp [hasB,Ne.symm n1,Ne.symm n2,Ne.symm n3,Ne.symm n4]
theorem ybS {b:Bool} {out:List (List UInt8)} {q:List UInt8} (ho:out.all segB=true) (hq:segB q=true):(zhB b out q).all segB=true:=by
 have hd:out.dropLast.all segB=true:=List.all_eq_true.2 fun x hx=>List.all_eq_true.1 ho x ((List.dropLast_sublist out).subset hx)
 unfold zhB
 split
 ·rw [List.all_append,ho];simp [hq]
 ·split
  ·rw [List.all_append]
   split
   ·rw [hd];rfl
   ·rw [ho];rfl
  ·split
   ·exact hd
   ·exact ho
theorem ydN: ∀(ps out:List (List UInt8)),out.all segB=true→(∀p∈ps,segB (encW 4 p)=true)→(goW out ps).all segB=true
 |[],_,ho,_=>ho
 |p::r,_,ho,hp=>ydN r _ (ybS ho (hp p (List.mem_cons_self ..))) (fun x hx=>hp x (List.mem_cons_of_mem _ hx))
theorem z1M: ∀(ps out:List (List UInt8)),ps≠[]→goW out ps≠[]
 |[],_,h=>absurd rfl h
 |[p],out,_=>by
  show zhB true out _≠[]
  unfold zhB
  split
  ·simp
  ·rw [if_pos rfl];simp
 |p::q::r,out,_=>z1M (q::r) _ (by simp)
theorem yfT {from_:List (List UInt8)} (hf:from_.all segB=true) (l:List UInt8):(zmP from_ l).all segB=true∧zmP from_ l≠[]:=
 ⟨ydN _ _ hf (fun _ hp=>yiJ (z7O hp)),z1M _ _ (zqG _ _)⟩
/-! a port that is read -/
theorem z0Y: ∀(l:List UInt8) (n m:Int),0≤n→zpP n l=some m→0≤m
 |[],n,m,h,e=>by rw [show zpP n []=some n from rfl] at e;rw [←Option.some.inj e];exact h
 |c::r,n,m,h,e=>by
  unfold zpP at e
  split at e
  ·rename_i hd
   have hd:=of_decide_eq_true hd
   exact z0Y r _ m (by split<;>omega) e
  ·cases e
theorem yhK (l:List UInt8) (h:zlY l≠ -2): -1≤zlY l∧zlY l≤65535:=by
 unfold zlY at*
 split
 ·omega
 ·rename_i hl
  rw [if_neg hl] at h
  cases e:zpP 0 l with
  |none=>rw [e] at h;exact absurd rfl h
  |some n=>
   rw [e] at h
   have:=z0Y l 0 n (by omega) e
   simp only at h ⊢
   split
   ·rename_i g;rw [if_pos g] at h;exact absurd rfl h
   ·omega
end

section
open Go.RowKit
/-- a URL that may be,but for its path -/
structure z1U (u:UZ):Prop where
 sch:u.scheme=zdZ∨u.scheme=zdY
 host:u.host.Ok
 port: -1≤u.port∧u.port≤65535∧u.port≠ownZ u.scheme
 qry:ygH u.query [35]=true
 noQ:u.hasQ=false→u.query=[]
 noF:u.hasF=false→u.frag=[]
theorem z1U.url {u:UZ} (h:z1U u) {p:List (List UInt8)} (hp:p.all segB=true∧p≠[]):zjE {u with path:=p}:=
 ⟨h.sch,h.host,h.port,hp.2,hp.1,h.qry,h.noQ,h.noF⟩
theorem ykG {u:UZ} (h:zjE u) (l:List UInt8):zjE (qryW u l):=by
 unfold qryW
 split
 ·refine ⟨h.sch,h.host,h.port,h.some,h.segs,?_,fun e=>(by cases e),h.noF⟩
  refine List.all_eq_true.2 fun c hc=> ?_
  have n:c≠35:=fun e=>by subst e;exact ztB (by decide) (by decide) (by decide) hc
  simp [hasB,Ne.symm n]
 ·exact h
theorem yjY {u:UZ} (h:zjE u) (l:List UInt8):zjE (frgW u l):=by
 unfold frgW
 split
 ·exact ⟨h.sch,h.host,h.port,h.some,h.segs,h.qry,h.noQ,fun e=>by cases e⟩
 ·exact h
theorem zrW {u:UZ} (h:zjE u) (l:List UInt8):zjE (zlF u l):=yjY (ykG h l) l
theorem zpA {u:UZ} (h:z1U u) {f:List (List UInt8)} (hf:f.all segB=true) (l:List UInt8):zjE (zeM u f l):=
 zrW (h.url (yfT hf _)) _
theorem ykM {s:List UInt8} (h:s=zdZ∨s=zdY):ownZ s=80∨ownZ s=443:=by
 rcases h with rfl|rfl
 ·exact .inl rfl
 ·exact .inr rfl
theorem ylM {q n:Int} (hq: -1≤q∧q≤65535) (hn:n=80∨n=443): -1≤(if q=n then -1 else q)∧(if q=n then -1 else q)≤65535∧(if q=n then -1 else q)≠n:=by
 split
 ·omega
 ·rename_i g;exact ⟨hq.1,hq.2,g⟩
theorem ztJ {name:List UInt8} (hn:name=zdZ∨name=zdY) (l:List UInt8) (h:(zfH name l).2=0):zjE (zfH name l).1:=by
 unfold zfH at h ⊢
 simp only at h ⊢
 split at h
 ·cases h
 rename_i h1
 rw [if_neg h1]
 split at h
 ·rename_i g;exact absurd h g
 rename_i h2
 rw [if_neg h2]
 split at h
 ·cases h
 rename_i h3
 rw [if_neg h3]
 have hq:=yhK _ h3
 have ho:=ykM hn
 refine zpA ⟨hn,znA (Decidable.not_not.1 h2),?_,rfl,fun _=>rfl,fun _=>rfl⟩ rfl _
 exact ylM hq ho
theorem z8N {b:UZ} (hb:zjE b) (l:List UInt8) (h:(relW b l).2=0):zjE (relW b l).1:=by
 have hh:z1U {zdM with scheme:=b.scheme,user:=b.user,pass:=b.pass,host:=b.host,port:=b.port}:=⟨hb.sch,hb.host,hb.port,rfl,fun _=>rfl,fun _=>rfl⟩
 have hd:b.path.dropLast.all segB=true:=List.all_eq_true.2 fun x hx=>List.all_eq_true.1 hb.segs x ((List.dropLast_sublist _).subset hx)
 unfold relW at h ⊢
 simp only at h ⊢
 split
 ·rename_i g;rw [if_pos g] at h;exact ztJ hb.sch _ h
 split
 ·exact zpA hh rfl _
 split
 ·refine zrW ?_ _
  exact ⟨hb.sch,hb.host,hb.port,hb.some,hb.segs,hb.qry,hb.noQ,fun _=>rfl⟩
 split
 ·refine zrW ?_ _
  exact ⟨hb.sch,hb.host,hb.port,hb.some,hb.segs,rfl,fun _=>rfl,fun _=>rfl⟩
 ·exact zpA hh hd _
theorem yhD (s:List UInt8) (b:Option UZ) (hb: ∀u,b=some u→zjE u) (h:(zjR s b).2=0):zjE (zjR s b).1:=by
 unfold zjR at h ⊢
 split at h
 ·cases h
 ·exact z8N (hb _ rfl) _ h
 ·split at h
  ·rename_i g;rw [if_pos g];exact ztJ g _ h
  ·cases h
 ·split at h
  ·rename_i g
   rw [if_pos g]
   split at h
   ·rename_i g2;rw [if_pos g2];exact ztJ g _ h
   ·rename_i g2;rw [if_neg g2];exact z8N (hb _ rfl) _ h
  ·cases h
/-- what is read may be -/
theorem zuX (t:List UInt8) (b:Option UZ) (hb: ∀u,b=some u→zjE u) (h:(zbT t b).2=0):zjE (zbT t b).1:=by
 unfold zbT at h ⊢
 split at h
 ·cases h
 ·rename_i g;rw [if_neg g];exact yhD _ b hb h
end

section
open Go.RowKit
/-- signs of ASCII's that aren't in a set -/
def Out (st:Int) (l:List UInt8):Prop:= ∀b∈l,b.toNat<128∧inB st (b.toNat:Int)=false
theorem Out.enc {st:Int} (h0:0≤st) (h1:st≤5) (l:List UInt8):Out st (encW st l):=zwZ st h0 h1 _
theorem Out.same {st:Int} {l:List UInt8} (h:Out st l):encW st l=l:=by
 unfold encW
 rw [z4A l (fun b hb=>(h b hb).1)]
 exact yhH st l h
theorem Out.nil (st:Int):Out st []:=fun _ h=>by cases h
theorem Out.not {st:Int} {l:List UInt8} (h:Out st l) {c:UInt8} (hc:inB st (c.toNat:Int)=true):c∉l:=fun g=>by
 have:=(h c g).2;rw [hc] at this;cases this
end

section
open Go.RowKit
/-- signs that are seen -/
def Vis (l:List UInt8):Prop:= ∀c∈l,33≤c.toNat∧c.toNat≤126
theorem Vis.app {a b:List UInt8} (ha:Vis a) (hb:Vis b):Vis (a++b):=fun c hc=>by
 rcases List.mem_append.1 hc with hc|hc
 ·exact ha c hc
 ·exact hb c hc
theorem Vis.cons {c:UInt8} {l:List UInt8} (hc:33≤c.toNat∧c.toNat≤126) (h:Vis l):Vis (c::l):=fun x hx=>by
 rcases List.mem_cons.1 hx with rfl|hx
 ·exact hc
 ·exact h x hx
theorem Vis.nil:Vis []:=fun _ h=>by cases h
theorem z2V {p:UInt8→Bool} {a r:List UInt8} (ha: ∀c∈a,p c=false) (hr: ∀d r',r=d::r'→p d=true):(a++r).findIdx p=a.length:=by
 induction a with
 |nil=>
  cases r with
  |nil=>rfl
  |cons d r'=>rw [List.nil_append,List.findIdx_cons,hr d r' rfl];rfl
 |cons c a ih=>
  rw [List.cons_append,List.findIdx_cons,ha c (List.mem_cons_self ..),ih (fun x hx=>ha x (List.mem_cons_of_mem _ hx))]
  rfl
theorem yhO {l:List UInt8} (h:(64:UInt8)∉l):atW l=none:=by
 unfold atW
 have:l.reverse.findIdx (· ==64)=l.reverse.length:=by
  have:=z2V (p:=(· ==64)) (a:=l.reverse) (r:=[]) (fun c hc=>by simp only [beq_eq_false_iff_ne];exact fun e=>h (e▸List.mem_reverse.1 hc)) (fun d r' e=>by cases e)
  rwa [List.append_nil] at this
 rw [this,List.length_reverse,if_neg (by omega)]
theorem yeG {a d:List UInt8} (h:(64:UInt8)∉d):atW (a++64::d)=some a.length:=by
 unfold atW
 have:(a++64::d).reverse.findIdx (· ==64)=d.reverse.length:=by
  rw [List.reverse_append,List.reverse_cons,List.append_assoc]
  exact z2V (fun c hc=>by simp only [beq_eq_false_iff_ne];exact fun e=>h (e▸List.mem_reverse.1 hc)) (fun x r' e=>by rw [List.singleton_append] at e;rw [←(List.cons.inj e).1];rfl)
 rw [this,List.length_reverse,if_pos (by simp;omega)]
 congr 1
 simp
end

section
open Go.RowKit
theorem zwC {p:UInt8→Bool}: ∀{x:List UInt8} (m:List UInt8),(∀c∈x,p c=true)→(x++m).dropWhile p=m.dropWhile p
 |[],_,_=>rfl
 |c::x,m,h=>by
  rw [List.cons_append,List.dropWhile_cons,h c (List.mem_cons_self ..),if_pos rfl]
  exact zwC m (fun d hd=>h d (List.mem_cons_of_mem _ hd))
theorem yiO {p:UInt8→Bool}: ∀{l:List UInt8} (y:List UInt8),(∀c∈l,p c=true)∨(l++y).dropWhile p=l.dropWhile p++y
 |[],_=> .inl (fun _ h=>by cases h)
 |c::l,y=>by
  cases hc:p c with
  |false=>exact .inr (by rw [List.cons_append,List.dropWhile_cons,List.dropWhile_cons,hc];rfl)
  |true=>
   rcases yiO (l:=l) y with h|h
   ·refine .inl (fun d hd=> ?_)
    rcases List.mem_cons.1 hd with rfl|hd
    ·exact hc
    ·exact h d hd
   ·exact .inr (by rw [List.cons_append,List.dropWhile_cons,List.dropWhile_cons,hc,if_pos rfl,if_pos rfl,h])
theorem yiX {p:UInt8→Bool} {l:List UInt8} (h: ∀c∈l,p c=true):l.dropWhile p=[]:=by
 have:=zwC (p:=p) [] h
 rwa [List.append_nil] at this
theorem zkS {x l y:List UInt8} (hx: ∀c∈x,zbN c=true) (hy: ∀c∈y,zbN c=true):zcK (x++l++y)=zcK l:=by
 unfold zcK
 rw [List.append_assoc,zwC _ hx]
 rcases yiO (p:=zbN) (l:=l) y with h|h
 ·rw [zwC _ h,yiX hy,yiX h]
 ·rw [h,List.reverse_append,zwC _ (fun c hc=>hy c (List.mem_reverse.1 hc))]
theorem ziY (l:List UInt8):(zcK l).length≤(l.dropWhile zbN).length:=by
 unfold zcK
 rw [List.length_reverse]
 exact Nat.le_trans (List.dropWhile_sublist _).length_le (by rw [List.length_reverse];exact Nat.le_refl _)
theorem z8D {c:UInt8} {r:List UInt8} (h:zcK (c::r)=c::r):zbN c=false:=by
 cases e:zbN c with
 |false=>rfl
 |true=>
  have:=ziY (c::r)
  rw [h,List.dropWhile_cons,e,if_pos rfl] at this
  have h2:(r.dropWhile zbN).length≤r.length:=(List.dropWhile_sublist _).length_le
  simp at this;omega
theorem ycA {c:UInt8} {r:List UInt8} (h:zcK (r++[c])=r++[c]):zbN c=false:=by
 cases e:zbN c with
 |false=>rfl
 |true=>
  have h1:=zkS (x:=[]) (l:=r) (y:=[c]) (fun _ h=>by cases h) (fun d hd=>by rw [List.mem_singleton] at hd;rw [hd];exact e)
  rw [List.nil_append,h] at h1
  have h2:=ziY r
  rw [←h1] at h2
  have h3:(r.dropWhile zbN).length≤r.length:=(List.dropWhile_sublist _).length_le
  simp at h2;omega
theorem zsX {c d:UInt8} {r s l:List UInt8} (e1:l=c::r) (e2:l=s++[d]) (hc:zbN c=false) (hd:zbN d=false):zcK l=l:=by
 have h1:l.dropWhile zbN=l:=by rw [e1,List.dropWhile_cons,hc];rfl
 unfold zcK
 rw [h1]
 have h2:l.reverse.dropWhile zbN=l.reverse:=by rw [e2,List.reverse_append,List.reverse_singleton,List.singleton_append,List.dropWhile_cons,hd];rfl
 rw [h2,List.reverse_reverse]
theorem zlE (a b:List UInt8):zcZ (a++b)=zcZ a++zcZ b:=by unfold zcZ;rw [List.filter_append]
/-- blanks ahead and behind,tabs and ends of lines within -/
theorem z3X {x a k b y:List UInt8} (hx: ∀c∈x,zbN c=true) (hy: ∀c∈y,zbN c=true) (hk: ∀c∈k,zbN c=true) (hk2:zcZ k=[]) (ht:zcK (a++b)=a++b):
  zcZ (zcK (x++(a++k++b)++y))=zcZ (zcK (a++b)):=by
 rw [zkS hx hy,ht]
 have hm:zcZ (a++k++b)=zcZ (a++b):=by rw [zlE,zlE,hk2,List.append_nil,zlE]
 cases a with
 |nil=>
  have:=zkS (x:=k) (l:=b) (y:=[]) hk (fun _ h=>by cases h)
  rw [List.append_nil] at this
  rw [List.nil_append] at ht
  rw [List.nil_append,this,ht,List.nil_append]
 |cons c a=>
  rcases List.eq_nil_or_concat b with rfl|⟨s,d,rfl⟩
  ·have:=zkS (x:=[]) (l:=c::a) (y:=k) (fun _ h=>by cases h) hk
   rw [List.append_nil] at ht ⊢
   rw [List.nil_append] at this
   rw [this,ht,List.append_nil]
  ·rw [List.concat_eq_append] at ht hm ⊢
   rw [←hm]
   have h1:=z8D (c:=c) (r:=a++(s++[d])) ht
   have h2:=ycA (c:=d) (r:=c::a++s) (by rw [List.append_assoc];exact ht)
   rw [zsX (l:=c::a++k++(s++[d])) (c:=c) (d:=d) (r:=a++k++(s++[d])) (s:=c::a++k++s) (by simp) (by simp) h1 h2]
end

section
open Go.RowKit
theorem yfN {u:UZ} (h:u.pass≠[]):whoU u=u.user++[58]++u.pass++[64]:=by
 unfold whoU;rw [if_neg h,if_neg (fun g=>h g.2)];simp
theorem ygA {u:UZ} (h:u.pass=[]) (h2:u.user≠[]):whoU u=u.user++[64]:=by
 unfold whoU;rw [if_pos h,if_neg (fun g=>h2 g.1)];simp
theorem yhN {u:UZ} (h:u.pass=[]) (h2:u.user=[]):whoU u=[]:=by
 unfold whoU;rw [if_pos h,if_pos ⟨h2,h⟩,h2];rfl
end

end Go.Proofs.YthacmlahnpdeeaaGreatDoor
