/-
  What the law AbnfMeets leans on, and its walk (20 of 35).
-/
import Derived.Test.YtppgdppmheiocaaGreatDoorAbnfMeetsPkP
import Derived.Test.YtppgdppmheiocaaGreatDoorAbnfMeetsPkT
import Derived.Test.YtppgdppmheiocaaGreatDoorAbnfMeetsPkH
import Derived.Test.YtppgdppmheiocaaGreatDoorAbnfMeetsPkB
namespace Go.Proofs.YtppgdppmheiocaaGreatDoor
set_option maxRecDepth 100000
set_option maxHeartbeats 16000000
abbrev yhQ := @decide_eq_false
abbrev yhR := @List.mem_singleton
abbrev yhS := @List.mem_cons_self
section
open Go.RowKit
structure UZ where
 scheme:List UInt8
 user:List UInt8
 pass:List UInt8
 host:HZ
 port:Int
 path:List (List UInt8)
 query:List UInt8
 hasQ:Bool
 frag:List UInt8
 hasF:Bool
def ziW:List UInt8:=[104,116,116,112]
def zeG:List UInt8:=[104,116,116,112,115]
def ownZ (s:List UInt8):Int:=if s=ziW then 80 else if s=zeG then 443 else 0
def zxG (s of:List UInt8):Bool:=s.all fun c=> !hasB of c
def zbX (u:UZ):List UInt8:=if u.port= -1 then zcN u.host else zcN u.host++[58]++Lib.itoa u.port
def zbA:List (List UInt8)→List UInt8
 |[]=>[]
 |s::r=>47::s++zbA r
def askU (u:UZ):List UInt8:=zbA u.path++(if u.hasQ=true then 63::u.query else [])
def whoU (u:UZ):List UInt8:=u.user++(if u.pass=[] then [] else 58::u.pass)++(if u.user=[]∧u.pass=[] then [] else [64])
def z3A (u:UZ):List UInt8:=u.scheme++[58,47,47]
def zfF (u:UZ):List UInt8:=z3A u++whoU u++zbX u++askU u
def zcF (u:UZ):List UInt8:=zfF u++(if u.hasF=true then 35::u.frag else [])
theorem z5D {b:UInt8}: ∀{l:List UInt8},b∉l→Lib.index l [b]= -1
 |[],_=>rfl
 |c::l,h=>by
  have hc: ¬b=c:=fun e=>h (e▸yhS ..)
  have ih:=z5D (l:=l) (fun g=>h (List.mem_cons_of_mem _ g))
  unfold Lib.index
  rw [ih]
  simp [List.isPrefixOf,hc]
theorem z2G {b:UInt8}: ∀{a:List UInt8} (d:List UInt8),b∉a→Lib.index (a++b::d) [b]=a.length
 |[],d,_=>by
  show Lib.index (b::d) [b]=_
  unfold Lib.index;simp [List.isPrefixOf]
 |c::a,d,h=>by
  have hc: ¬b=c:=fun e=>h (e▸yhS ..)
  have ih:=z2G (a:=a) d (fun g=>h (List.mem_cons_of_mem _ g))
  show Lib.index (c::(a++b::d)) [b]=_
  unfold Lib.index
  rw [ih]
  have h1:(([b]:List UInt8).isPrefixOf (c::(a++b::d)))=false:=by simp [List.isPrefixOf,hc]
  have h2:((a.length:Int)== -1)=false:=by rw [beq_eq_false_iff_ne];omega
  rw [h1,h2]
  simp
theorem zwI {b:UInt8} {l:List UInt8} (h:b∉l):Lib.cut l [b]=(l,[],false):=by
 unfold Lib.cut;rw [z5D h];rfl
theorem zwQ {b:UInt8} {a:List UInt8} (d:List UInt8) (h:b∉a):Lib.cut (a++b::d) [b]=(a,d,true):=by
 unfold Lib.cut;rw [z2G d h,if_pos (by omega)]
 simp
theorem ycV: ∀d:Fin 10,48≤(UInt8.ofNat (48+d.val)).toNat∧(UInt8.ofNat (48+d.val)).toNat≤57:=by decide+kernel
theorem z9W (u:Nat): ∀c∈Lib.decDigits u,48≤c.toNat∧c.toNat≤57:=by
 induction u using Nat.strongRecOn with
 |ind u ih=>
  intro c hc
  rw [Lib.decDigits] at hc
  split at hc
  ·rename_i h
   rw [yhR] at hc;subst hc;exact ycV ⟨u,h⟩
  ·rcases List.mem_append.1 hc with hc|hc
   ·exact ih (u/10) (by omega) c hc
   ·rw [yhR] at hc;subst hc;exact ycV ⟨u % 10,Nat.mod_lt _ (by decide)⟩
theorem z4M {n:Int} (h:0≤n): ∀c∈Lib.itoa n,48≤c.toNat∧c.toNat≤57:=by
 unfold Lib.itoa
 rw [if_neg (by omega)]
 exact z9W _
theorem zyJ (l:List (List UInt8)) (s:List UInt8):zbA (l++[s])=zbA l++(47::s):=by
 induction l with
 |nil=>simp [zbA]
 |cons a r ih=>simp [zbA,ih]
theorem zvN {s of:List UInt8} {c:UInt8} (h:zxG s of=true) (hc:hasB of c=true):c∉s:=fun g=>by
 have:=List.all_eq_true.1 h c g
 rw [hc] at this;cases this
theorem zvD {l:List (List UInt8)} {of:List UInt8} {c:UInt8} (h:l.all (fun s=>zxG s of)=true) (hc:hasB of c=true) (h47:c≠47):c∉zbA l:=by
 induction l with
 |nil=>simp [zbA]
 |cons s r ih=>
  rw [List.all_cons,Bool.and_eq_true_iff] at h
  unfold zbA
  intro g
  rcases List.mem_append.1 g with g|g
  ·rcases List.mem_cons.1 g with g|g
   ·exact h47 g
   ·exact zvN h.1 hc g
  ·exact ih h.2 g
theorem ztK {l:List UInt8} {c:UInt8} (h: ∀x∈l,endC x=false) (hc:endC c=true):c∉l:=fun g=>by
 have:=h c g;rw [hc] at this;cases this
structure zfY (u:UZ):Prop where
 sch:u.scheme=ziW∨u.scheme=zeG
 host:u.host.Ok
 port: -1≤u.port∧u.port≤65535∧u.port≠ownZ u.scheme
 some:u.path≠[]
 segs:u.path.all (fun s=>zxG s [47,63,35,92])=true
 qry:zxG u.query [35]=true
 noQ:u.hasQ=false→u.query=[]
 noF:u.hasF=false→u.frag=[]
theorem zpS {u:UZ} (h:zfY u): ∀c∈zbX u,endC c=false:=by
 unfold zbX
 intro c hc
 split at hc
 ·exact znV h.host c hc
 ·rcases List.mem_append.1 hc with hc|hc
  ·rcases List.mem_append.1 hc with hc|hc
   ·exact znV h.host c hc
   ·simp at hc;subst hc;decide
  ·have:=z4M (by have:=h.port.1;omega) c hc
   exact (z0G (zoW (by unfold hexC;simp;omega))).1
def encW (s:Int) (l:List UInt8):List UInt8:=encB s (scal ⟨l.toArray⟩)
def zcI (c:UInt8):Bool:=c==47||c==92
def schC (c:UInt8):Bool:=zbR c.toNat||zaT c.toNat||c==43||c==45||c==46
def schW (l:List UInt8):Option (List UInt8×List UInt8):=
 if (match l with|[]=>false|c::_=>zbR c.toNat)=true∧l[l.findIdx fun c=> !schC c]? =some 58 then
  some (zaF (l.take (l.findIdx fun c=> !schC c)),l.drop ((l.findIdx fun c=> !schC c)+1)) else none
def zhR (l:List UInt8):List UInt8:=l.dropWhile zcI
def ptsN:List UInt8→Option Nat
 |[]=>some 0
 |[c]=>if c=46 then some 1 else none
 |[c,d]=>if c=46∧d=46 then some 2 else none
 |c::d::e::r=>if c=46 then (ptsN (d::e::r)).map (· +1) else if c=37∧d=50∧(e=101∨e=69) then (ptsN r).map (· +1) else none
def ptsW (l:List UInt8):Nat:=match ptsN l with
 |some n=>if n>2 then 0 else n
 |none=>0
def zeQ (last:Bool) (out:List (List UInt8)) (q:List UInt8):List (List UInt8):=
 if ptsW q=0 then out++[q] else if last=true then (if ptsW q=2 then out.dropLast else out)++[[]] else if ptsW q=2 then out.dropLast else out
def goW:List (List UInt8)→List (List UInt8)→List (List UInt8)
 |out,[]=>out
 |out,p::r=>goW (zeQ r.isEmpty out (encW 4 p)) r
def zmN (from_:List (List UInt8)) (l:List UInt8):List (List UInt8):=goW from_ (zbH (hasB [47,92]) l)
def qryW (u:UZ) (l:List UInt8):UZ:=if l.head? =some 63 then {u with query:=encW 3 ((l.take (l.findIdx (· ==35))).drop 1),hasQ:=true} else u
def frgW (u:UZ) (l:List UInt8):UZ:=if l.findIdx (· ==35)<l.length then {u with frag:=encW 1 (l.drop (l.findIdx (· ==35)+1)),hasF:=true} else u
def zjX (u:UZ) (l:List UInt8):UZ:=frgW (qryW u l) l
def zeA (u:UZ) (from_:List (List UInt8)) (l:List UInt8):UZ:=
 zjX {u with path:=zmN from_ (l.take (l.findIdx (hasB [63,35])))} (l.drop (l.findIdx (hasB [63,35])))
def hpW:Bool→List UInt8→List UInt8×List UInt8
 |_,[]=>([],[])
 |ins,c::r=>
  if c=58∧ins=false then ([],r)
  else (c::(hpW (if c=91 then true else if c=93 then false else ins) r).1,(hpW (if c=91 then true else if c=93 then false else ins) r).2)
def zmU:Int→List UInt8→Option Int
 |n,[]=>some n
 |n,c::r=>if zaT c.toNat=true then zmU (if n≤65535 then 10*n+(c.toNat:Int) - 48 else n) r else none
def zjV (l:List UInt8):Int:=if l=[] then -1 else match zmU 0 l with
 |none=> -2
 |some n=>if n>65535 then -2 else n
def zcG:UZ:=⟨[],[],[],.none,0,[],[],false,[],false⟩
def atW (l:List UInt8):Option Nat:=if l.reverse.findIdx (· ==64)<l.length then some (l.length - 1 - l.reverse.findIdx (· ==64)) else none
def zjN (l:List UInt8):List UInt8:=match atW l with
 |none=>[]
 |some k=>encW 5 ((l.take k).take ((l.take k).findIdx (· ==58)))
def ziX (l:List UInt8):List UInt8:=match atW l with
 |none=>[]
 |some k=>if (l.take k).findIdx (· ==58)<(l.take k).length then encW 5 ((l.take k).drop ((l.take k).findIdx (· ==58)+1)) else []
def zcP (l:List UInt8):List UInt8:=match atW l with
 |none=>l
 |some k=>l.drop (k+1)
def offW (l:List UInt8):List UInt8:=match l with
 |[]=>[]
 |c::r=>if zcI c=true then r else c::r
def zeB (name l:List UInt8):UZ×Int:=
 let a:=l.take (l.findIdx (hasB [47,92,63,35]))
 let rest:=l.drop (l.findIdx (hasB [47,92,63,35]))
 let hp:=hpW false (zcP a)
 if hp.1=[] then (zcG,6)
 else if (zdJ hp.1).2≠0 then (zcG,(zdJ hp.1).2)
 else if zjV hp.2= -2 then (zcG,8)
 else (zeA {zcG with scheme:=name,user:=zjN a,pass:=ziX a,host:=(zdJ hp.1).1,port:=if zjV hp.2=ownZ name then -1 else zjV hp.2} [] (offW rest),0)
def zfT (l:List UInt8):Bool:=match l with
 |[]=>false
 |c::_=>zcI c
def relW (b:UZ) (l:List UInt8):UZ×Int:=
 if zfT l=true∧zfT (l.drop 1)=true then zeB b.scheme (zhR l)
 else
  let u:UZ:={zcG with scheme:=b.scheme,user:=b.user,pass:=b.pass,host:=b.host,port:=b.port}
  if zfT l=true then (zeA u [] (l.drop 1),0)
  else if l=[]∨l.head? =some 35 then (zjX {u with path:=b.path,query:=b.query,hasQ:=b.hasQ} l,0)
  else if l.head? =some 63 then (zjX {u with path:=b.path} l,0)
  else (zeA u b.path.dropLast l,0)
def zmT (s:List UInt8) (b:Option UZ):UZ×Int:=
 match schW s,b with
 |none,none=>(zcG,5)
 |none,some b=>relW b s
 |some (n,r),none=>if n=ziW∨n=zeG then zeB n (zhR r) else (zcG,5)
 |some (n,r),some b=>if n=ziW∨n=zeG then (if b.scheme≠n∨r.take 2=[47,47] then zeB n (zhR r) else relW b r) else (zcG,5)
def zaZ (t:List UInt8) (b:Option UZ):UZ×Int:=if 4096<t.length then (zcG,3) else zmT (zgZ (zgP t)) b
theorem z8C (u:UZ) (l:List UInt8):(frgW u l).scheme=u.scheme∧(frgW u l).user=u.user∧(frgW u l).pass=u.pass∧(frgW u l).host=u.host∧(frgW u l).port=u.port∧(frgW u l).path=u.path∧(frgW u l).query=u.query∧(frgW u l).hasQ=u.hasQ:=by
 unfold frgW;split<;>exact ⟨rfl,rfl,rfl,rfl,rfl,rfl,rfl,rfl⟩
theorem ycL (u:UZ) (l:List UInt8):(qryW u l).scheme=u.scheme∧(qryW u l).user=u.user∧(qryW u l).pass=u.pass∧(qryW u l).host=u.host∧(qryW u l).port=u.port∧(qryW u l).path=u.path∧(qryW u l).frag=u.frag∧(qryW u l).hasF=u.hasF:=by
 unfold qryW;split<;>exact ⟨rfl,rfl,rfl,rfl,rfl,rfl,rfl,rfl⟩
section
variable {σ:Type}
def zbQ (st:σ→UInt8→Option σ):σ→List UInt8→Nat
 |_,[]=>0
 |s,c::l=>match st s c with
  |none=>0
  |some t=>zbQ st t l+1
structure ztD (sr:σ→Nat→Bool×σ) (st:σ→UInt8→Option σ):Prop where
 low: ∀s c,c.toNat<128→st s c=if (sr s c.toNat).1=true then none else some (sr s c.toNat).2
 high:((∀s r,128≤r→(sr s r).1=true)∧ ∀s c,128≤c.toNat→st s c=none)∨((∀s r,128≤r→sr s r=(false,s))∧ ∀s c,128≤c.toNat→st s c=some s)
theorem zsF (st:σ→UInt8→Option σ): ∀(l:List UInt8) (s:σ),zbQ st s l≤l.length
 |[],_=>Nat.le_refl _
 |c::l,s=>by
  unfold zbQ
  split
  ·omega
  ·have:=zsF st l;simp only [List.length_cons];rename_i t _;have:=this t;omega
theorem zgH {st:σ→UInt8→Option σ} {s:σ} {c:UInt8} {l:List UInt8} (h:st s c=none):zbQ st s (c::l)=0:=by unfold zbQ;rw [h]
theorem zcR {st:σ→UInt8→Option σ} {s t:σ} {c:UInt8} {l:List UInt8} (h:st s c=some t):zbQ st s (c::l)=zbQ st t l+1:=by conv=>lhs;unfold zbQ;rw [h]
theorem zrF {st:σ→UInt8→Option σ} {s:σ}: ∀(k:Nat) (l:List UInt8),(∀j,j<k→ ∃c,l[j]? =some c∧st s c=some s)→zbQ st s l=k+zbQ st s (l.drop k)
 |0,l,_=>by simp
 |k+1,[],h=>by obtain ⟨c,e,_⟩:=h 0 (by omega);simp at e
 |k+1,c::l,h=>by
  obtain ⟨d,e,hd⟩:=h 0 (by omega)
  simp at e;subst e
  rw [zcR hd,zrF k l (fun j hj=>by have:=h (j+1) (by omega);simpa using this),List.drop_succ_cons]
  omega
theorem yeE {s:ByteArray} {i:Nat} (h:i<s.size) (hc:128≤zaU s i): ∃c,s.data.toList[i]? =some c∧128≤c.toNat:=⟨s[i],zdG s i h,by rw [←zoR s i h];exact hc⟩
theorem zmA (s:ByteArray) (p:Nat) (h:p<s.size) (hc:128≤s[p].toNat): ∀j,j<(Utf8.decode s p).2→ ∃c,s.data.toList[p+j]? =some c∧128≤c.toNat:=by
 have h0:=zoR s p h
 intro j hj
 rw [ziT] at hj
 have key: ∀n,j<n→(∀i,i<n→p+i<s.size∧128≤zaU s (p+i))→ ∃c,s.data.toList[p+j]? =some c∧128≤c.toNat:=fun n hn H=>yeE (H j hn).1 (H j hn).2
 have k1: ∀i,i<1→p+i<s.size∧128≤zaU s (p+i):=fun i hi=>by
  obtain rfl:i=0:=by omega
  exact ⟨h,by rw [Nat.add_zero];omega⟩
 split at hj
 ·omega
 ·split at hj
  ·rename_i a
   split at hj
   ·refine key 2 hj (fun i hi=> ?_)
    match i,hi with
    |0,_=>exact k1 0 (by omega)
    |1,_=>exact ⟨a.2.1,by omega⟩
   ·exact key 1 hj k1
  ·split at hj
   ·rename_i a
    split at hj
    ·refine key 3 hj (fun i hi=> ?_)
     match i,hi with
     |0,_=>exact k1 0 (by omega)
     |1,_=>exact ⟨a.1.2.1,by omega⟩
     |2,_=>exact ⟨a.2.1,by omega⟩
    ·exact key 1 hj k1
   ·split at hj
    ·rename_i a
     split at hj
     ·refine key 4 hj (fun i hi=> ?_)
      match i,hi with
      |0,_=>exact k1 0 (by omega)
      |1,_=>exact ⟨a.1.1.2.1,by omega⟩
      |2,_=>exact ⟨a.1.2.1,by omega⟩
      |3,_=>exact ⟨a.2.1,by omega⟩
     ·exact key 1 hj k1
    ·exact key 1 hj k1
theorem z6U {sr:σ→Nat→Bool×σ} {st:σ→UInt8→Option σ} (H:ztD sr st) (s:ByteArray) (p:Nat) (h:p<s.size) (x:σ) (hr:(sr x (Utf8.decode s p).1).1=true):zbQ st x (s.data.toList.drop p)=0:=by
 rw [zbZ s p h]
 apply zgH
 by_cases hc:s[p].toNat<128
 ·rw [decode_ascii s p h hc] at hr
  rw [H.low x _ hc,if_pos hr]
 ·have hd:=(decode_high s p h (by omega)).1
  rcases H.high with ⟨_,k⟩|⟨k,_⟩
  ·exact k x _ (by omega)
  ·rw [k x _ hd] at hr;cases hr
theorem ydK {sr:σ→Nat→Bool×σ} {st:σ→UInt8→Option σ} (H:ztD sr st) (s:ByteArray) (p:Nat) (h:p<s.size) (x:σ) (hr:(sr x (Utf8.decode s p).1).1=false):
  zbQ st x (s.data.toList.drop p)=(Utf8.decode s p).2+zbQ st (sr x (Utf8.decode s p).1).2 (s.data.toList.drop (p+(Utf8.decode s p).2)):=by
 by_cases hc:s[p].toNat<128
 ·rw [decode_ascii s p h hc] at hr ⊢
  rw [zbZ s p h,zcR (by rw [H.low x _ hc,if_neg (by rw [hr];decide)])]
  exact Nat.add_comm _ _
 ·have hd:=(decode_high s p h (by omega)).1
  rcases H.high with ⟨k,_⟩|⟨k,kb⟩
  ·rw [k x _ hd] at hr;cases hr
  ·rw [k x _ hd]
   have:=zrF (st:=st) (s:=x) (Utf8.decode s p).2 (s.data.toList.drop p) (fun j hj=>by
    obtain ⟨c,e,he⟩:=zmA s p h (by omega) j hj
    exact ⟨c,by rw [List.getElem?_drop];exact e,kb x c he⟩)
   rw [this,List.drop_drop]
end
theorem ziQ (q:UInt8→Bool): ∀l:List UInt8,zbQ (fun (_:Unit) c=>if q c=true then none else some ()) () l=l.findIdx q
 |[]=>rfl
 |c::l=>by
  cases h:q c with
  |true=>rw [zgH (by rw [if_pos h]),List.findIdx_cons,h];rfl
  |false=>rw [zcR (t:=()) (by rw [if_neg (by rw [h];decide)]),ziQ q l,List.findIdx_cons,h];rfl
theorem znJ (q:UInt8→Bool): ∀l:List UInt8,l.drop (l.findIdx fun c=> !q c)=l.dropWhile q
 |[]=>rfl
 |c::l=>by
  rw [List.findIdx_cons,List.dropWhile_cons]
  cases h:q c with
  |true=>simpa using znJ q l
  |false=>simp
theorem z5J (l:List UInt8):l.drop (zbQ (fun (_:Unit) c=>if (!zcI c)=true then none else some ()) () l)=zhR l:=by
 rw [ziQ (fun c=> !zcI c)];exact znJ zcI l
def schS (w:Bool) (c:UInt8):Option Bool:=if zbR c.toNat||(w&&(zaT c.toNat||(c==43||c==45||c==46))) then some true else none
theorem zqE: ∀l:List UInt8,zbQ schS true l=l.findIdx fun c=> !schC c
 |[]=>rfl
 |c::l=>by
  have e:schS true c=if schC c=true then some true else none:=by unfold schS schC;simp only [Bool.true_and,Bool.or_assoc]
  cases h:schC c with
  |true=>rw [zcR (t:=true) (by rw [e,if_pos h]),zqE l,List.findIdx_cons,h];rfl
  |false=>rw [zgH (by rw [e,if_neg (by rw [h];decide)]),List.findIdx_cons,h];rfl
def schN (l:List UInt8):Nat:=zbQ schS false l
theorem zqJ (l:List UInt8):schW l=if schN l≠0∧l[schN l]? =some 58 then some (zaF (l.take (schN l)),l.drop (schN l+1)) else none:=by
 unfold schN
 match l with
 |[]=>simp [schW,zbQ]
 |c::l=>
  cases h:zbR c.toNat with
  |true=>
   have e1:schS false c=some true:=by unfold schS;rw [h];rfl
   have e2:schC c=true:=by unfold schC;rw [h];rfl
   have e3:(c::l).findIdx (fun c=> !schC c)=zbQ schS false (c::l):=by rw [zcR e1,zqE,List.findIdx_cons,e2];rfl
   unfold schW
   rw [e3]
   have e4:zbQ schS false (c::l)≠0:=by rw [zcR e1];omega
   simp only [h,true_and,ne_eq,e4,not_false_eq_true]
  |false=>
   have e1:schS false c=none:=by unfold schS;rw [h];rfl
   unfold schW
   rw [zgH e1]
   simp [h]
def zfV (i:Bool) (c:UInt8):Option Bool:=if c=91 then some true else if c=93 then some false else if c=58∧i=false then none else some i
theorem zgN (ins:Bool) (c:UInt8) (r:List UInt8):hpW ins (c::r)=if c=58∧ins=false then ([],r) else (c::(hpW (if c=91 then true else if c=93 then false else ins) r).1,(hpW (if c=91 then true else if c=93 then false else ins) r).2):=by conv=>lhs;unfold hpW
theorem zeY: ∀(l:List UInt8) (i:Bool),l.take (zbQ zfV i l)=(hpW i l).1∧(l.drop (zbQ zfV i l)).drop 1=(hpW i l).2∧(zbQ zfV i l<l.length→l[zbQ zfV i l]? =some 58)
 |[],i=>by simp [zbQ,hpW]
 |c::l,i=>by
  by_cases h91:c=91
  ·have ih:=zeY l true
   have e:zfV i c=some true:=if_pos h91
   rw [zcR e,zgN,if_neg (by rw [h91];exact fun g=>absurd g.1 (by decide)),if_pos h91]
   simpa using ih
  ·by_cases h93:c=93
   ·have ih:=zeY l false
    have e:zfV i c=some false:=(if_neg h91).trans (if_pos h93)
    rw [zcR e,zgN,if_neg (by rw [h93];exact fun g=>absurd g.1 (by decide)),if_neg h91,if_pos h93]
    simpa using ih
   ·by_cases h58:c=58∧i=false
    ·have e:zfV i c=none:=(if_neg h91).trans ((if_neg h93).trans (if_pos h58))
     rw [zgH e,zgN,if_pos h58]
     simp [h58.1]
    ·have ih:=zeY l i
     have e:zfV i c=some i:=(if_neg h91).trans ((if_neg h93).trans (if_neg h58))
     rw [zcR e,zgN,if_neg h58,if_neg h91,if_neg h93]
     simpa using ih
end
section
open Go.RowKit
theorem u8_nat (c:UInt8):UInt8.ofNat c.toNat=c:=by simp
def znE (_:Unit) (r:Nat):Bool×Unit:=(!(decide (r=47)||decide (r=92)),())
def z4G (_:Unit) (c:UInt8):Option Unit:=if (!zcI c)=true then none else some ()
theorem znG (c:UInt8):zcI c=(decide (c.toNat=47)||decide (c.toNat=92)):=by
 unfold zcI
 rw [Bool.eq_iff_iff]
 simp only [Bool.or_eq_true,beq_iff_eq,decide_eq_true_eq,←UInt8.toNat_inj]
 exact Iff.rfl
theorem z7D:ztD znE z4G where
 low _ c _:=by unfold z4G znE;rw [znG]
 high:= .inl ⟨fun _ r h=>by unfold znE;simp;omega,fun _ c h=>by
  unfold z4G
  rw [if_pos]
  rw [znG,yhQ (by omega),yhQ (by omega)];rfl⟩
def z0O (of_:List UInt8) (_:Unit) (r:Nat):Bool×Unit:=(decide (r<128)&&hasB of_ (UInt8.ofNat r),())
def yaW (of_:List UInt8) (_:Unit) (c:UInt8):Option Unit:=if hasB of_ c=true then none else some ()
theorem z8M {of_:List UInt8} (h: ∀c∈of_,c.toNat<128):ztD (z0O of_) (yaW of_) where
 low _ c hc:=by unfold yaW z0O;rw [decide_eq_true hc,u8_nat];rfl
 high:= .inr ⟨fun _ r hr=>by unfold z0O;rw [yhQ (by omega)];rfl,fun _ c hc=>by
  unfold yaW
  rw [if_neg]
  intro g
  have:c∈of_:=by simpa [hasB] using g
  have:=h c this
  omega⟩
theorem z9G (of_:List UInt8) (l:List UInt8):zbQ (yaW of_) () l=l.findIdx (hasB of_):=ziQ (hasB of_) l
def zrD (w:Bool) (r:Nat):Bool×Bool:=(!(zbR r||(w&&(zaT r||(decide (r=43)||decide (r=45)||decide (r=46))))),true)
theorem ycH:ztD zrD schS where
 low w c _:=by
  have e:(c==43||c==45||c==46)=(decide (c.toNat=43)||decide (c.toNat=45)||decide (c.toNat=46)):=by
   rw [Bool.eq_iff_iff]
   simp only [Bool.or_eq_true,beq_iff_eq,decide_eq_true_eq,←UInt8.toNat_inj]
   exact Iff.rfl
  unfold schS zrD
  rw [e]
  cases (zbR ↑c.toNat||w&&(zaT ↑c.toNat||(decide (c.toNat=43)||decide (c.toNat=45)||decide (c.toNat=46))))<;>rfl
 high:=by
  have key: ∀(w:Bool) (r:Nat),128≤r→(zbR r||(w&&(zaT r||(decide (r=43)||decide (r=45)||decide (r=46)))))=false:=fun w r h=>by
   rw [show zbR (r:Int)=false from yhQ (by omega),show zaT (r:Int)=false from yhQ (by omega),yhQ (by omega),yhQ (by omega),yhQ (by omega)]
   cases w<;>rfl
  refine .inl ⟨fun w r h=>by unfold zrD;rw [key w r h];rfl,fun w c h=> ?_⟩
  have e:(c==43||c==45||c==46)=(decide (c.toNat=43)||decide (c.toNat=45)||decide (c.toNat=46)):=by
   rw [Bool.eq_iff_iff]
   simp only [Bool.or_eq_true,beq_iff_eq,decide_eq_true_eq,←UInt8.toNat_inj]
   exact Iff.rfl
  unfold schS
  rw [e,key w _ h]
  rfl
def inH (i:Bool) (r:Nat):Bool:=if r=91 then true else if r=93 then false else i
def znL (i:Bool) (r:Nat):Bool×Bool:=(decide (r=58)&& !inH i r,inH i r)
theorem z7V:ztD znL zfV where
 low i c _:=by
  have e1:c=91↔c.toNat=91:=by rw [←UInt8.toNat_inj];exact Iff.rfl
  have e2:c=93↔c.toNat=93:=by rw [←UInt8.toNat_inj];exact Iff.rfl
  have e3:c=58↔c.toNat=58:=by rw [←UInt8.toNat_inj];exact Iff.rfl
  unfold zfV znL inH
  by_cases h1:c.toNat=91
  ·simp [e1,h1]
  ·by_cases h2:c.toNat=93
   ·simp [e1,e2,h2]
   ·simp only [e1,e2,e3,h1,h2,if_false]
    cases i<;>by_cases h3:c.toNat=58<;>simp [h3]
 high:= .inr ⟨fun i r h=>by unfold znL inH;rw [yhQ (by omega),if_neg (by omega),if_neg (by omega)];rfl,fun i c h=>by
  have e: ∀d:UInt8,d.toNat<128→c≠d:=fun d hd g=>by rw [g] at h;omega
  unfold zfV
  rw [if_neg (e 91 (by decide)),if_neg (e 93 (by decide)),if_neg (fun g=>e 58 (by decide) g.1)]⟩
theorem yfX (b:Nat) (hb:b<128) (s:ByteArray) (h: ∀k (h:k<s.size),s[k].toNat≠b): ∀r∈scal s,r≠(b:Int):=by
 have key: ∀f p,∀r∈zjW s f p,r≠(b:Int):=by
  intro f
  induction f with
  |zero=>intro p x hx;simp [zjW] at hx
  |succ f ih=>
   intro p x hx
   by_cases hp:p<s.size
   ·rw [zjA s f p hp] at hx
    rcases List.mem_cons.1 hx with rfl|hx
    ·by_cases ha:(s[p]'hp).toNat<128
     ·rw [decode_ascii s p hp ha]
      have:=h p hp
      simp only
      omega
     ·have:=(decode_high s p hp (by omega)).1
      omega
    ·exact ih _ x hx
   ·rw [zlW s _ p hp] at hx;simp at hx
 exact key _ _
theorem ybS {p:List UInt8} {c:UInt8} (hc:c.toNat<128) (h:c∉p): ∀r∈scal ⟨p.toArray⟩,r≠(c.toNat:Int):=by
 refine yfX c.toNat hc _ (fun k hk e=>h ?_)
 have e2:(ByteArray.mk p.toArray)[k]=p[k]'(by simpa [ByteArray.size] using hk):=rfl
 rw [e2] at e
 rw [←UInt8.toNat_inj.1 e]
 exact List.getElem_mem _
theorem ycQ (st:Int) (h0:0≤st) (h1:st≤5) (l:List Int): ∀b∈encB st l,b=37∨(∃n,n<16∧b=hexN n)∨(b.toNat:Int)∈l:=by
 intro b hb
 obtain ⟨r,hr,hb⟩:=List.mem_flatMap.1 hb
 cases hin:inB st r with
 |true=>
  have e:encP st r=pctL (Lib.encodeRune r):=by unfold encP;rw [hin];rfl
  rw [e] at hb
  obtain ⟨c,_,hb⟩:=List.mem_flatMap.1 hb
  have hc:=c.toNat_lt
  simp only [pctB,List.mem_cons,List.not_mem_nil,or_false] at hb
  rcases hb with rfl|rfl|rfl
  ·exact .inl rfl
  ·exact .inr (.inl ⟨_,by omega,rfl⟩)
  ·exact .inr (.inl ⟨_,by omega,rfl⟩)
 |false=>
  have e:encP st r=Lib.encodeRune r:=by unfold encP;rw [hin];rfl
  have ha:=zrM h0 h1 hin
  rw [e,zjR (by omega) (by omega)] at hb
  simp only [List.mem_cons,List.not_mem_nil,or_false] at hb
  subst hb
  rw [u8_of r (by omega) (by omega),Int.toNat_of_nonneg (by omega)]
  exact .inr (.inr hr)
theorem z4N: ∀n:Fin 16,hexN n.val≠47∧hexN n.val≠92:=by decide+kernel
theorem z4W {st:Int} (h0:0≤st) (h1:st≤5) {p:List UInt8} {c:UInt8} (hc:c=47∨c=92) (h:c∉p):c∉encW st p:=by
 intro g
 rcases ycQ st h0 h1 _ c g with e|⟨n,hn,e⟩|e
 ·rcases hc with rfl|rfl<;>cases e
 ·have:=z4N ⟨n,hn⟩
  rcases hc with rfl|rfl
  ·exact this.1 e.symm
  ·exact this.2 e.symm
 ·exact ybS (by rcases hc with rfl|rfl<;>decide) h _ e rfl
theorem zoT {st:Int} (h0:0≤st) (h1:st≤5) {p:List UInt8} {c:UInt8} (hc:inB st (c.toNat:Int)=true):c∉encW st p:=fun g=>by
 have:=(zrY st h0 h1 _ c g).2
 rw [hc] at this;cases this
theorem z1P (p:UInt8→Bool) (l:List UInt8):(∀x∈(spl p l).1,∀c∈x,p c=false)∧ ∀c∈(spl p l).2,p c=false:=by
 have key: ∀(l:List UInt8) (st:List (List UInt8)×List UInt8),(∀x∈st.1,∀c∈x,p c=false)→(∀c∈st.2,p c=false)→(∀x∈(l.foldl (zaV p) st).1,∀c∈x,p c=false)∧ ∀c∈(l.foldl (zaV p) st).2,p c=false:=by
  intro l
  induction l with
  |nil=>intro st h1 h2;exact ⟨h1,h2⟩
  |cons c l ih=>
   intro st h1 h2
   rw [List.foldl_cons]
   refine ih _ ?_ ?_
   ·intro x hx
    unfold zaV at hx
    split at hx
    ·rcases List.mem_append.1 hx with hx|hx
     ·exact h1 x hx
     ·rw [yhR] at hx;rw [hx];exact h2
    ·exact h1 x hx
   ·intro d hd
    unfold zaV at hd
    split at hd
    ·cases hd
    ·rename_i hp
     rcases List.mem_append.1 hd with hd|hd
     ·exact h2 d hd
     ·rw [yhR] at hd;rw [hd];simpa using hp
 exact key l ([],[]) (by intro x hx;cases hx) (by intro c hc;cases hc)
theorem z1T {p:UInt8→Bool} {l x:List UInt8} (h:x∈zbH p l): ∀c∈x,p c=false:=by
 unfold zbH at h
 rcases List.mem_append.1 h with h|h
 ·exact (z1P p l).1 x h
 ·rw [yhR] at h;rw [h];exact (z1P p l).2
theorem znA (p:UInt8→Bool) (l:List UInt8):zbH p l≠[]:=by simp [zbH]
/-! a path that is read -/
def segB (s:List UInt8):Bool:=zxG s [47,63,35,92]
theorem yaR {p:List UInt8} (h: ∀c∈p,hasB [47,92] c=false):segB (encW 4 p)=true:=by
 refine List.all_eq_true.2 fun c hc=> ?_
 have n1:c≠47:=fun e=>by
  subst e
  exact z4W (by decide) (by decide) (.inl rfl) (fun g=>by have:=h _ g;revert this;decide) hc
 have n2:c≠92:=fun e=>by
  subst e
  exact z4W (by decide) (by decide) (.inr rfl) (fun g=>by have:=h _ g;revert this;decide) hc
 have n3:c≠63:=fun e=>by subst e;exact zoT (by decide) (by decide) (by decide) hc
 have n4:c≠35:=fun e=>by subst e;exact zoT (by decide) (by decide) (by decide) hc
 simp [hasB,Ne.symm n1,Ne.symm n2,Ne.symm n3,Ne.symm n4]
theorem z2C {b:Bool} {out:List (List UInt8)} {q:List UInt8} (ho:out.all segB=true) (hq:segB q=true):(zeQ b out q).all segB=true:=by
 have hd:out.dropLast.all segB=true:=List.all_eq_true.2 fun x hx=>List.all_eq_true.1 ho x ((List.dropLast_sublist out).subset hx)
 unfold zeQ
 split
 ·rw [List.all_append,ho];simp [hq]
 ·split
  ·rw [List.all_append]
   split
   ·rw [hd];rfl
   ·rw [ho];rfl
  ·split
   ·exact hd
   ·exact ho
theorem z6D: ∀(ps out:List (List UInt8)),out.all segB=true→(∀p∈ps,segB (encW 4 p)=true)→(goW out ps).all segB=true
 |[],_,ho,_=>ho
 |p::r,_,ho,hp=>z6D r _ (z2C ho (hp p (yhS ..))) (fun x hx=>hp x (List.mem_cons_of_mem _ hx))
theorem zuP: ∀(ps out:List (List UInt8)),ps≠[]→goW out ps≠[]
 |[],_,h=>absurd rfl h
 |[p],out,_=>by
  show zeQ true out _≠[]
  unfold zeQ
  split
  ·simp
  ·rw [if_pos rfl];simp
 |p::q::r,out,_=>zuP (q::r) _ (by simp)
theorem ycP {from_:List (List UInt8)} (hf:from_.all segB=true) (l:List UInt8):(zmN from_ l).all segB=true∧zmN from_ l≠[]:=
 ⟨z6D _ _ hf (fun _ hp=>yaR (z1T hp)),zuP _ _ (znA _ _)⟩
/-! a port that is read -/
theorem zvP: ∀(l:List UInt8) (n m:Int),0≤n→zmU n l=some m→0≤m
 |[],n,m,h,e=>by rw [show zmU n []=some n from rfl] at e;rw [←Option.some.inj e];exact h
 |c::r,n,m,h,e=>by
  unfold zmU at e
  split at e
  ·rename_i hd
   have hd:=of_decide_eq_true hd
   exact zvP r _ m (by split<;>omega) e
  ·cases e
theorem yaO (l:List UInt8) (h:zjV l≠ -2): -1≤zjV l∧zjV l≤65535:=by
 unfold zjV at*
 split
 ·omega
 ·rename_i hl
  rw [if_neg hl] at h
  cases e:zmU 0 l with
  |none=>rw [e] at h;exact absurd rfl h
  |some n=>
   rw [e] at h
   have:=zvP l 0 n (by omega) e
   simp only at h ⊢
   split
   ·rename_i g;rw [if_pos g] at h;exact absurd rfl h
   ·omega
structure zuN (u:UZ):Prop where
 sch:u.scheme=ziW∨u.scheme=zeG
 host:u.host.Ok
 port: -1≤u.port∧u.port≤65535∧u.port≠ownZ u.scheme
 qry:zxG u.query [35]=true
 noQ:u.hasQ=false→u.query=[]
 noF:u.hasF=false→u.frag=[]
theorem zuN.url {u:UZ} (h:zuN u) {p:List (List UInt8)} (hp:p.all segB=true∧p≠[]):zfY {u with path:=p}:=
 ⟨h.sch,h.host,h.port,hp.2,hp.1,h.qry,h.noQ,h.noF⟩
theorem yfG {u:UZ} (h:zfY u) (l:List UInt8):zfY (qryW u l):=by
 unfold qryW
 split
 ·refine ⟨h.sch,h.host,h.port,h.some,h.segs,?_,fun e=>(by cases e),h.noF⟩
  refine List.all_eq_true.2 fun c hc=> ?_
  have n:c≠35:=fun e=>by subst e;exact zoT (by decide) (by decide) (by decide) hc
  simp [hasB,Ne.symm n]
 ·exact h
theorem ydO {u:UZ} (h:zfY u) (l:List UInt8):zfY (frgW u l):=by
 unfold frgW
 split
 ·exact ⟨h.sch,h.host,h.port,h.some,h.segs,h.qry,h.noQ,fun e=>by cases e⟩
 ·exact h
theorem zoY {u:UZ} (h:zfY u) (l:List UInt8):zfY (zjX u l):=ydO (yfG h l) l
theorem zlN {u:UZ} (h:zuN u) {f:List (List UInt8)} (hf:f.all segB=true) (l:List UInt8):zfY (zeA u f l):=
 zoY (h.url (ycP hf _)) _
theorem ygH {s:List UInt8} (h:s=ziW∨s=zeG):ownZ s=80∨ownZ s=443:=by
 rcases h with rfl|rfl
 ·exact .inl rfl
 ·exact .inr rfl
theorem ydQ {q n:Int} (hq: -1≤q∧q≤65535) (hn:n=80∨n=443): -1≤(if q=n then -1 else q)∧(if q=n then -1 else q)≤65535∧(if q=n then -1 else q)≠n:=by
 split
 ·omega
 ·rename_i g;exact ⟨hq.1,hq.2,g⟩
theorem zoI {name:List UInt8} (hn:name=ziW∨name=zeG) (l:List UInt8) (h:(zeB name l).2=0):zfY (zeB name l).1:=by
 unfold zeB at h ⊢
 simp only at h ⊢
 split at h
 ·cases h
 rename_i h1
 rw [if_neg h1]
 split at h
 ·rename_i g;exact absurd h g
 rename_i h2
 rw [if_neg h2]
 split at h
 ·cases h
 rename_i h3
 rw [if_neg h3]
 have hq:=yaO _ h3
 have ho:=ygH hn
 refine zlN ⟨hn,zkI (Decidable.not_not.1 h2),?_,rfl,fun _=>rfl,fun _=>rfl⟩ rfl _
 exact ydQ hq ho
theorem z5T {b:UZ} (hb:zfY b) (l:List UInt8) (h:(relW b l).2=0):zfY (relW b l).1:=by
 have hh:zuN {zcG with scheme:=b.scheme,user:=b.user,pass:=b.pass,host:=b.host,port:=b.port}:=⟨hb.sch,hb.host,hb.port,rfl,fun _=>rfl,fun _=>rfl⟩
 have hd:b.path.dropLast.all segB=true:=List.all_eq_true.2 fun x hx=>List.all_eq_true.1 hb.segs x ((List.dropLast_sublist _).subset hx)
 unfold relW at h ⊢
 simp only at h ⊢
 split
 ·rename_i g;rw [if_pos g] at h;exact zoI hb.sch _ h
 split
 ·exact zlN hh rfl _
 split
 ·refine zoY ?_ _
  exact ⟨hb.sch,hb.host,hb.port,hb.some,hb.segs,hb.qry,hb.noQ,fun _=>rfl⟩
 split
 ·refine zoY ?_ _
  exact ⟨hb.sch,hb.host,hb.port,hb.some,hb.segs,rfl,fun _=>rfl,fun _=>rfl⟩
 ·exact zlN hh hd _
theorem ycF (s:List UInt8) (b:Option UZ) (hb: ∀u,b=some u→zfY u) (h:(zmT s b).2=0):zfY (zmT s b).1:=by
 unfold zmT at h ⊢
 split at h
 ·cases h
 ·exact z5T (hb _ rfl) _ h
 ·split at h
  ·rename_i g;rw [if_pos g];exact zoI g _ h
  ·cases h
 ·split at h
  ·rename_i g
   rw [if_pos g]
   split at h
   ·rename_i g2;rw [if_pos g2];exact zoI g _ h
   ·rename_i g2;rw [if_neg g2];exact z5T (hb _ rfl) _ h
  ·cases h
theorem zkU (t:List UInt8) (b:Option UZ) (hb: ∀u,b=some u→zfY u) (h:(zaZ t b).2=0):zfY (zaZ t b).1:=by
 unfold zaZ at h ⊢
 split at h
 ·cases h
 ·rename_i g;rw [if_neg g];exact ycF _ b hb h
def Out (st:Int) (l:List UInt8):Prop:= ∀b∈l,b.toNat<128∧inB st (b.toNat:Int)=false
theorem Out.enc {st:Int} (h0:0≤st) (h1:st≤5) (l:List UInt8):Out st (encW st l):=zrY st h0 h1 _
theorem Out.nil (st:Int):Out st []:=fun _ h=>by cases h
theorem Out.not {st:Int} {l:List UInt8} (h:Out st l) {c:UInt8} (hc:inB st (c.toNat:Int)=true):c∉l:=fun g=>by
 have:=(h c g).2;rw [hc] at this;cases this
def zpG (s:List UInt8):Prop:=Out 4 s∧ptsW s=0
structure zhZ (u:UZ):Prop where
 user:Out 5 u.user
 pass:Out 5 u.pass
 path: ∀s∈u.path,zpG s
 qry:Out 3 u.query
 frag:Out 1 u.frag
theorem z5O {b:Bool} {out:List (List UInt8)} {q:List UInt8} (ho: ∀s∈out,zpG s) (hq:Out 4 q): ∀s∈zeQ b out q,zpG s:=by
 have hd: ∀s∈out.dropLast,zpG s:=fun s hs=>ho s ((List.dropLast_sublist out).subset hs)
 have h0:zpG []:=⟨Out.nil 4,rfl⟩
 intro s hs
 unfold zeQ at hs
 split at hs
 ·rename_i g
  rcases List.mem_append.1 hs with hs|hs
  ·exact ho s hs
  ·rw [yhR] at hs;rw [hs];exact ⟨hq,g⟩
 ·split at hs
  ·rcases List.mem_append.1 hs with hs|hs
   ·split at hs
    ·exact hd s hs
    ·exact ho s hs
   ·rw [yhR] at hs;rw [hs];exact h0
  ·split at hs
   ·exact hd s hs
   ·exact ho s hs
theorem z2O: ∀(ps out:List (List UInt8)),(∀s∈out,zpG s)→ ∀s∈goW out ps,zpG s
 |[],_,ho=>ho
 |_::r,_,ho=>z2O r _ (z5O ho (Out.enc (by decide) (by decide) _))
theorem zlJ {u:UZ} (h:zhZ u) (l:List UInt8):zhZ (zjX u l):=by
 have hq:zhZ (qryW u l):=by
  unfold qryW
  split
  ·exact ⟨h.user,h.pass,h.path,Out.enc (by decide) (by decide) _,h.frag⟩
  ·exact h
 unfold zjX frgW
 split
 ·exact ⟨hq.user,hq.pass,hq.path,hq.qry,Out.enc (by decide) (by decide) _⟩
 ·exact hq
theorem zjL {u:UZ} (h:zhZ u) {f:List (List UInt8)} (hf: ∀s∈f,zpG s) (l:List UInt8):zhZ (zeA u f l):=by
 refine zlJ ?_ _
 exact ⟨h.user,h.pass,z2O _ _ hf,h.qry,h.frag⟩
theorem z1D (l:List UInt8):Out 5 (zjN l):=by
 unfold zjN
 split
 ·exact Out.nil 5
 ·exact Out.enc (by decide) (by decide) _
theorem z3F (l:List UInt8):Out 5 (ziX l):=by
 unfold ziX
 split
 ·exact Out.nil 5
 ·split
  ·exact Out.enc (by decide) (by decide) _
  ·exact Out.nil 5
theorem zdW:zhZ zcG:=⟨Out.nil 5,Out.nil 5,fun _ h=>(by cases h),Out.nil 3,Out.nil 1⟩
theorem zmD (name l:List UInt8):zhZ (zeB name l).1:=by
 unfold zeB
 simp only
 split
 ·exact zdW
 split
 ·exact zdW
 split
 ·exact zdW
 refine zjL ?_ (fun _ h=>by cases h) _
 exact ⟨z1D _,z3F _,fun _ h=>(by cases h),Out.nil 3,Out.nil 1⟩
theorem zwB {b:UZ} (hb:zhZ b) (l:List UInt8):zhZ (relW b l).1:=by
 have hh:zhZ {zcG with scheme:=b.scheme,user:=b.user,pass:=b.pass,host:=b.host,port:=b.port}:=⟨hb.user,hb.pass,fun _ h=>(by cases h),Out.nil 3,Out.nil 1⟩
 unfold relW
 simp only
 split
 ·exact zmD _ _
 split
 ·exact zjL hh (fun _ h=>by cases h) _
 split
 ·refine zlJ ?_ _
  exact ⟨hb.user,hb.pass,hb.path,hb.qry,Out.nil 1⟩
 split
 ·refine zlJ ?_ _
  exact ⟨hb.user,hb.pass,hb.path,Out.nil 3,Out.nil 1⟩
 ·exact zjL hh (fun s hs=>hb.path s ((List.dropLast_sublist _).subset hs)) _
theorem zzB (t:List UInt8) (b:Option UZ) (hb: ∀u,b=some u→zhZ u):zhZ (zaZ t b).1:=by
 unfold zaZ
 split
 ·exact zdW
 unfold zmT
 split
 ·exact zdW
 ·exact zwB (hb _ rfl) _
 ·split
  ·exact zmD _ _
  ·exact zdW
 ·split
  ·split
   ·exact zmD _ _
   ·exact zwB (hb _ rfl) _
  ·exact zdW
theorem zuJ {p:UInt8→Bool} {a r:List UInt8} (ha: ∀c∈a,p c=false) (hr: ∀d r',r=d::r'→p d=true):(a++r).findIdx p=a.length:=by
 induction a with
 |nil=>
  cases r with
  |nil=>rfl
  |cons d r'=>rw [List.nil_append,List.findIdx_cons,hr d r' rfl];rfl
 |cons c a ih=>
  rw [List.cons_append,List.findIdx_cons,ha c (yhS ..),ih (fun x hx=>ha x (List.mem_cons_of_mem _ hx))]
  rfl
theorem ybK {l:List UInt8} (h:(64:UInt8)∉l):atW l=none:=by
 unfold atW
 have:l.reverse.findIdx (· ==64)=l.reverse.length:=by
  have:=zuJ (p:=(· ==64)) (a:=l.reverse) (r:=[]) (fun c hc=>by simp only [beq_eq_false_iff_ne];exact fun e=>h (e▸List.mem_reverse.1 hc)) (fun d r' e=>by cases e)
  rwa [List.append_nil] at this
 rw [this,List.length_reverse,if_neg (by omega)]
theorem z9B {a d:List UInt8} (h:(64:UInt8)∉d):atW (a++64::d)=some a.length:=by
 unfold atW
 have:(a++64::d).reverse.findIdx (· ==64)=d.reverse.length:=by
  rw [List.reverse_append,List.reverse_cons,List.append_assoc]
  exact zuJ (fun c hc=>by simp only [beq_eq_false_iff_ne];exact fun e=>h (e▸List.mem_reverse.1 hc)) (fun x r' e=>by rw [List.singleton_append] at e;rw [←(List.cons.inj e).1];rfl)
 rw [this,List.length_reverse,if_pos (by simp;omega)]
 congr 1
 simp
theorem zoP {l:List UInt8} (h: ∀c∈l,endC c=false): ∀c∈l,hasB [47,92,63,35] c=false:=fun c hc=>by
 have hq: ∀d:UInt8,endC d=true→c≠d:=fun d hd e=>by have:=h c hc;rw [e,hd] at this;cases this
 have n1:=hq 47 rfl
 have n2:=hq 92 rfl
 have n3:=hq 63 rfl
 have n4:=hq 35 rfl
 simp [hasB,Ne.symm n1,Ne.symm n2,Ne.symm n3,Ne.symm n4]
theorem zkH {l:List UInt8} (h:Out 5 l): ∀c∈l,endC c=false:=fun c hc=>by
 have hq: ∀d:UInt8,inB 5 (d.toNat:Int)=true→c≠d:=fun d hd e=>h.not hd (e▸hc)
 have n1:=hq 47 rfl
 have n2:=hq 92 rfl
 have n3:=hq 63 rfl
 have n4:=hq 35 rfl
 have n5:=hq 64 rfl
 simp [endC,hasB,Ne.symm n1,Ne.symm n2,Ne.symm n3,Ne.symm n4,Ne.symm n5]
def upW (u:UZ):List UInt8:=u.user++(if u.pass=[] then [] else 58::u.pass)
theorem z7M (u:UZ):whoU u=if u.user=[]∧u.pass=[] then [] else upW u++[64]:=by
 unfold whoU upW
 by_cases g:u.user=[]∧u.pass=[]
 ·rw [if_pos g,if_pos g,g.1,g.2];rfl
 ·rw [if_neg g,if_neg g]
theorem z8I {u:UZ} (he:zhZ u): ∀c∈whoU u,hasB [47,92,63,35] c=false:=by
 rw [z7M]
 intro c hc
 split at hc
 ·cases hc
 ·unfold upW at hc
  rcases List.mem_append.1 hc with hc|hc
  ·rcases List.mem_append.1 hc with hc|hc
   ·exact zoP (zkH he.user) c hc
   ·split at hc
    ·cases hc
    ·rcases List.mem_cons.1 hc with rfl|hc
     ·rfl
     ·exact zoP (zkH he.pass) c hc
  ·rw [yhR] at hc;subst hc;rfl
/-! the path,and what stands behind it -/
def qryL (u:UZ):List UInt8:=if u.hasQ=true then 63::u.query else []
def frgL (u:UZ):List UInt8:=if u.hasF=true then 35::u.frag else []
theorem zwD (l:List UInt8):(zgP l).length≤(l.dropWhile zcE).length:=by
 unfold zgP
 rw [List.length_reverse]
 exact Nat.le_trans (List.dropWhile_sublist _).length_le (by rw [List.length_reverse];exact Nat.le_refl _)
theorem z9H {u:UZ} (h:u.pass≠[]):whoU u=u.user++[58]++u.pass++[64]:=by
 unfold whoU;rw [if_neg h,if_neg (fun g=>h g.2)];simp
theorem ybH {u:UZ} (h:u.pass=[]) (h2:u.user≠[]):whoU u=u.user++[64]:=by
 unfold whoU;rw [if_pos h,if_neg (fun g=>h2 g.1)];simp
theorem ycO {u:UZ} (h:u.pass=[]) (h2:u.user=[]):whoU u=[]:=by
 unfold whoU;rw [if_pos h,if_pos ⟨h2,h⟩,h2];rfl
end
end Go.Proofs.YtppgdppmheiocaaGreatDoor
