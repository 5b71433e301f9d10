/-
  What the law ResolveMeets leans on, and its walk (21 of 46).
-/
import Derived.Test.YtmjappnpedjlnaaGreatDoorResolveMeetsPkQ
import Derived.Test.YtmjappnpedjlnaaGreatDoorResolveMeetsPkU
import Derived.Test.YtmjappnpedjlnaaGreatDoorResolveMeetsPkH
import Derived.Test.YtmjappnpedjlnaaGreatDoorResolveMeetsPkB
namespace Go.Proofs.YtmjappnpedjlnaaGreatDoor
set_option maxRecDepth 100000
set_option maxHeartbeats 16000000
abbrev ypG := @decide_eq_false
abbrev ypH := @List.mem_singleton
abbrev ypI := @List.mem_cons_self
section
open Go.RowKit
structure UZ where
 scheme:List UInt8
 user:List UInt8
 pass:List UInt8
 host:HZ
 port:Int
 path:List (List UInt8)
 query:List UInt8
 hasQ:Bool
 frag:List UInt8
 hasF:Bool
def zjL:List UInt8:=[104,116,116,112]
def zfH:List UInt8:=[104,116,116,112,115]
def ownZ (s:List UInt8):Int:=if s=zjL then 80 else if s=zfH then 443 else 0
def zxT (s of:List UInt8):Bool:=s.all fun c=> !hasB of c
def zdD (u:UZ):List UInt8:=if u.port= -1 then zdG u.host else zdG u.host++[58]++Lib.itoa u.port
def zbK:List (List UInt8)→List UInt8
 |[]=>[]
 |s::r=>47::s++zbK r
def askU (u:UZ):List UInt8:=zbK u.path++(if u.hasQ=true then 63::u.query else [])
def whoU (u:UZ):List UInt8:=u.user++(if u.pass=[] then [] else 58::u.pass)++(if u.user=[]∧u.pass=[] then [] else [64])
def yiK (u:UZ):List UInt8:=u.scheme++[58,47,47]
def zcW (u:UZ):List UInt8:=yiK u++whoU u++zdD u++askU u
def zfQ (u:UZ):List UInt8:=zcW u++(if u.hasF=true then 35::u.frag else [])
theorem ycA {b:UInt8}: ∀{l:List UInt8},b∉l→Lib.index l [b]= -1
 |[],_=>rfl
 |c::l,h=>by
  have hc: ¬b=c:=fun e=>h (e▸ypI ..)
  have ih:=ycA (l:=l) (fun g=>h (List.mem_cons_of_mem _ g))
  unfold Lib.index
  rw [ih]
  simp [List.isPrefixOf,hc]
theorem z8T {b:UInt8}: ∀{a:List UInt8} (d:List UInt8),b∉a→Lib.index (a++b::d) [b]=a.length
 |[],d,_=>by
  show Lib.index (b::d) [b]=_
  unfold Lib.index;simp [List.isPrefixOf]
 |c::a,d,h=>by
  have hc: ¬b=c:=fun e=>h (e▸ypI ..)
  have ih:=z8T (a:=a) d (fun g=>h (List.mem_cons_of_mem _ g))
  show Lib.index (c::(a++b::d)) [b]=_
  unfold Lib.index
  rw [ih]
  have h1:(([b]:List UInt8).isPrefixOf (c::(a++b::d)))=false:=by simp [List.isPrefixOf,hc]
  have h2:((a.length:Int)== -1)=false:=by rw [beq_eq_false_iff_ne];omega
  rw [h1,h2]
  simp
theorem z0Z {b:UInt8} {l:List UInt8} (h:b∉l):Lib.cut l [b]=(l,[],false):=by
 unfold Lib.cut;rw [ycA h];rfl
theorem z0B {b:UInt8} {a:List UInt8} (d:List UInt8) (h:b∉a):Lib.cut (a++b::d) [b]=(a,d,true):=by
 unfold Lib.cut;rw [z8T d h,if_pos (by omega)]
 simp
theorem ykI: ∀d:Fin 10,48≤(UInt8.ofNat (48+d.val)).toNat∧(UInt8.ofNat (48+d.val)).toNat≤57:=by decide+kernel
theorem yjR (u:Nat): ∀c∈Lib.decDigits u,48≤c.toNat∧c.toNat≤57:=by
 induction u using Nat.strongRecOn with
 |ind u ih=>
  intro c hc
  rw [Lib.decDigits] at hc
  split at hc
  ·rename_i h
   rw [ypH] at hc;subst hc;exact ykI ⟨u,h⟩
  ·rcases List.mem_append.1 hc with hc|hc
   ·exact ih (u/10) (by omega) c hc
   ·rw [ypH] at hc;subst hc;exact ykI ⟨u % 10,Nat.mod_lt _ (by decide)⟩
theorem ztY {n:Int} (h:0≤n): ∀c∈Lib.itoa n,48≤c.toNat∧c.toNat≤57:=by
 unfold Lib.itoa
 rw [if_neg (by omega)]
 exact yjR _
theorem z3G (l:List (List UInt8)) (s:List UInt8):zbK (l++[s])=zbK l++(47::s):=by
 induction l with
 |nil=>simp [zbK]
 |cons a r ih=>simp [zbK,ih]
theorem zrE {s of:List UInt8} {c:UInt8} (h:zxT s of=true) (hc:hasB of c=true):c∉s:=fun g=>by
 have:=List.all_eq_true.1 h c g
 rw [hc] at this;cases this
theorem z2S {l:List (List UInt8)} {of:List UInt8} {c:UInt8} (h:l.all (fun s=>zxT s of)=true) (hc:hasB of c=true) (h47:c≠47):c∉zbK l:=by
 induction l with
 |nil=>simp [zbK]
 |cons s r ih=>
  rw [List.all_cons,Bool.and_eq_true_iff] at h
  unfold zbK
  intro g
  rcases List.mem_append.1 g with g|g
  ·rcases List.mem_cons.1 g with g|g
   ·exact h47 g
   ·exact zrE h.1 hc g
  ·exact ih h.2 g
theorem zxQ {l:List UInt8} {c:UInt8} (h: ∀x∈l,endC x=false) (hc:endC c=true):c∉l:=fun g=>by
 have:=h c g;rw [hc] at this;cases this
structure zfE (u:UZ):Prop where
 sch:u.scheme=zjL∨u.scheme=zfH
 host:u.host.Ok
 port: -1≤u.port∧u.port≤65535∧u.port≠ownZ u.scheme
 some:u.path≠[]
 segs:u.path.all (fun s=>zxT s [47,63,35,92])=true
 qry:zxT u.query [35]=true
 noQ:u.hasQ=false→u.query=[]
 noF:u.hasF=false→u.frag=[]
theorem ztW {u:UZ} (h:zfE u): ∀c∈zdD u,endC c=false:=by
 unfold zdD
 intro c hc
 split at hc
 ·exact zqX h.host c hc
 ·rcases List.mem_append.1 hc with hc|hc
  ·rcases List.mem_append.1 hc with hc|hc
   ·exact zqX h.host c hc
   ·simp at hc;subst hc;decide
  ·have:=ztY (by have:=h.port.1;omega) c hc
   exact (z7L (zsT (by unfold hexC;simp;omega))).1
theorem ybZ (u:UZ):zfQ {u with frag:=[],hasF:=false}=zcW u:=by
 show zcW u++(if false=true then 35::[] else [])=_
 simp
def encW (s:Int) (l:List UInt8):List UInt8:=encB s (scal ⟨l.toArray⟩)
def zcJ (c:UInt8):Bool:=c==47||c==92
def schC (c:UInt8):Bool:=zcC c.toNat||zbC c.toNat||c==43||c==45||c==46
def schW (l:List UInt8):Option (List UInt8×List UInt8):=
 if (match l with|[]=>false|c::_=>zcC c.toNat)=true∧l[l.findIdx fun c=> !schC c]? =some 58 then
  some (zaI (l.take (l.findIdx fun c=> !schC c)),l.drop ((l.findIdx fun c=> !schC c)+1)) else none
def zeO (l:List UInt8):List UInt8:=l.dropWhile zcJ
def ptsN:List UInt8→Option Nat
 |[]=>some 0
 |[c]=>if c=46 then some 1 else none
 |[c,d]=>if c=46∧d=46 then some 2 else none
 |c::d::e::r=>if c=46 then (ptsN (d::e::r)).map (· +1) else if c=37∧d=50∧(e=101∨e=69) then (ptsN r).map (· +1) else none
def ptsW (l:List UInt8):Nat:=match ptsN l with
 |some n=>if n>2 then 0 else n
 |none=>0
def zeD (last:Bool) (out:List (List UInt8)) (q:List UInt8):List (List UInt8):=
 if ptsW q=0 then out++[q] else if last=true then (if ptsW q=2 then out.dropLast else out)++[[]] else if ptsW q=2 then out.dropLast else out
def goW:List (List UInt8)→List (List UInt8)→List (List UInt8)
 |out,[]=>out
 |out,p::r=>goW (zeD r.isEmpty out (encW 4 p)) r
def zhO (from_:List (List UInt8)) (l:List UInt8):List (List UInt8):=goW from_ (zbG (hasB [47,92]) l)
def qryW (u:UZ) (l:List UInt8):UZ:=if l.head? =some 63 then {u with query:=encW 3 ((l.take (l.findIdx (· ==35))).drop 1),hasQ:=true} else u
def frgW (u:UZ) (l:List UInt8):UZ:=if l.findIdx (· ==35)<l.length then {u with frag:=encW 1 (l.drop (l.findIdx (· ==35)+1)),hasF:=true} else u
def ziY (u:UZ) (l:List UInt8):UZ:=frgW (qryW u l) l
def zcV (u:UZ) (from_:List (List UInt8)) (l:List UInt8):UZ:=
 ziY {u with path:=zhO from_ (l.take (l.findIdx (hasB [63,35])))} (l.drop (l.findIdx (hasB [63,35])))
def hpW:Bool→List UInt8→List UInt8×List UInt8
 |_,[]=>([],[])
 |ins,c::r=>
  if c=58∧ins=false then ([],r)
  else (c::(hpW (if c=91 then true else if c=93 then false else ins) r).1,(hpW (if c=91 then true else if c=93 then false else ins) r).2)
def zpE:Int→List UInt8→Option Int
 |n,[]=>some n
 |n,c::r=>if zbC c.toNat=true then zpE (if n≤65535 then 10*n+(c.toNat:Int) - 48 else n) r else none
def zkX (l:List UInt8):Int:=if l=[] then -1 else match zpE 0 l with
 |none=> -2
 |some n=>if n>65535 then -2 else n
def zcD:UZ:=⟨[],[],[],.none,0,[],[],false,[],false⟩
def atW (l:List UInt8):Option Nat:=if l.reverse.findIdx (· ==64)<l.length then some (l.length - 1 - l.reverse.findIdx (· ==64)) else none
def zjK (l:List UInt8):List UInt8:=match atW l with
 |none=>[]
 |some k=>encW 5 ((l.take k).take ((l.take k).findIdx (· ==58)))
def zjR (l:List UInt8):List UInt8:=match atW l with
 |none=>[]
 |some k=>if (l.take k).findIdx (· ==58)<(l.take k).length then encW 5 ((l.take k).drop ((l.take k).findIdx (· ==58)+1)) else []
def zcQ (l:List UInt8):List UInt8:=match atW l with
 |none=>l
 |some k=>l.drop (k+1)
def offW (l:List UInt8):List UInt8:=match l with
 |[]=>[]
 |c::r=>if zcJ c=true then r else c::r
def zeR (name l:List UInt8):UZ×Int:=
 let a:=l.take (l.findIdx (hasB [47,92,63,35]))
 let rest:=l.drop (l.findIdx (hasB [47,92,63,35]))
 let hp:=hpW false (zcQ a)
 if hp.1=[] then (zcD,6)
 else if (zfI hp.1).2≠0 then (zcD,(zfI hp.1).2)
 else if zkX hp.2= -2 then (zcD,8)
 else (zcV {zcD with scheme:=name,user:=zjK a,pass:=zjR a,host:=(zfI hp.1).1,port:=if zkX hp.2=ownZ name then -1 else zkX hp.2} [] (offW rest),0)
def zeL (l:List UInt8):Bool:=match l with
 |[]=>false
 |c::_=>zcJ c
def relW (b:UZ) (l:List UInt8):UZ×Int:=
 if zeL l=true∧zeL (l.drop 1)=true then zeR b.scheme (zeO l)
 else
  let u:UZ:={zcD with scheme:=b.scheme,user:=b.user,pass:=b.pass,host:=b.host,port:=b.port}
  if zeL l=true then (zcV u [] (l.drop 1),0)
  else if l=[]∨l.head? =some 35 then (ziY {u with path:=b.path,query:=b.query,hasQ:=b.hasQ} l,0)
  else if l.head? =some 63 then (ziY {u with path:=b.path} l,0)
  else (zcV u b.path.dropLast l,0)
def zsH (s:List UInt8) (b:Option UZ):UZ×Int:=
 match schW s,b with
 |none,none=>(zcD,5)
 |none,some b=>relW b s
 |some (n,r),none=>if n=zjL∨n=zfH then zeR n (zeO r) else (zcD,5)
 |some (n,r),some b=>if n=zjL∨n=zfH then (if b.scheme≠n∨r.take 2=[47,47] then zeR n (zeO r) else relW b r) else (zcD,5)
def zbF (t:List UInt8) (b:Option UZ):UZ×Int:=if 4096<t.length then (zcD,3) else zsH (zeQ (zdU t)) b
section
variable {σ:Type}
def zbY (st:σ→UInt8→Option σ):σ→List UInt8→Nat
 |_,[]=>0
 |s,c::l=>match st s c with
  |none=>0
  |some t=>zbY st t l+1
structure zxM (sr:σ→Nat→Bool×σ) (st:σ→UInt8→Option σ):Prop where
 low: ∀s c,c.toNat<128→st s c=if (sr s c.toNat).1=true then none else some (sr s c.toNat).2
 high:((∀s r,128≤r→(sr s r).1=true)∧ ∀s c,128≤c.toNat→st s c=none)∨((∀s r,128≤r→sr s r=(false,s))∧ ∀s c,128≤c.toNat→st s c=some s)
theorem zsP (st:σ→UInt8→Option σ): ∀(l:List UInt8) (s:σ),zbY st s l≤l.length
 |[],_=>Nat.le_refl _
 |c::l,s=>by
  unfold zbY
  split
  ·omega
  ·have:=zsP st l;simp only [List.length_cons];rename_i t _;have:=this t;omega
theorem zhX {st:σ→UInt8→Option σ} {s:σ} {c:UInt8} {l:List UInt8} (h:st s c=none):zbY st s (c::l)=0:=by unfold zbY;rw [h]
theorem zdS {st:σ→UInt8→Option σ} {s t:σ} {c:UInt8} {l:List UInt8} (h:st s c=some t):zbY st s (c::l)=zbY st t l+1:=by conv=>lhs;unfold zbY;rw [h]
theorem zvQ {st:σ→UInt8→Option σ} {s:σ}: ∀(k:Nat) (l:List UInt8),(∀j,j<k→ ∃c,l[j]? =some c∧st s c=some s)→zbY st s l=k+zbY st s (l.drop k)
 |0,l,_=>by simp
 |k+1,[],h=>by obtain ⟨c,e,_⟩:=h 0 (by omega);simp at e
 |k+1,c::l,h=>by
  obtain ⟨d,e,hd⟩:=h 0 (by omega)
  simp at e;subst e
  rw [zdS hd,zvQ k l (fun j hj=>by have:=h (j+1) (by omega);simpa using this),List.drop_succ_cons]
  omega
theorem ynF {s:ByteArray} {i:Nat} (h:i<s.size) (hc:128≤zaZ s i): ∃c,s.data.toList[i]? =some c∧128≤c.toNat:=⟨s[i],zeW s i h,by rw [←zsI s i h];exact hc⟩
theorem zoI (s:ByteArray) (p:Nat) (h:p<s.size) (hc:128≤s[p].toNat): ∀j,j<(Utf8.decode s p).2→ ∃c,s.data.toList[p+j]? =some c∧128≤c.toNat:=by
 have h0:=zsI s p h
 intro j hj
 rw [zcP] at hj
 have key: ∀n,j<n→(∀i,i<n→p+i<s.size∧128≤zaZ s (p+i))→ ∃c,s.data.toList[p+j]? =some c∧128≤c.toNat:=fun n hn H=>ynF (H j hn).1 (H j hn).2
 have k1: ∀i,i<1→p+i<s.size∧128≤zaZ s (p+i):=fun i hi=>by
  obtain rfl:i=0:=by omega
  exact ⟨h,by rw [Nat.add_zero];omega⟩
 split at hj
 ·omega
 ·split at hj
  ·rename_i a
   split at hj
   ·refine key 2 hj (fun i hi=> ?_)
    match i,hi with
    |0,_=>exact k1 0 (by omega)
    |1,_=>exact ⟨a.2.1,by omega⟩
   ·exact key 1 hj k1
  ·split at hj
   ·rename_i a
    split at hj
    ·refine key 3 hj (fun i hi=> ?_)
     match i,hi with
     |0,_=>exact k1 0 (by omega)
     |1,_=>exact ⟨a.1.2.1,by omega⟩
     |2,_=>exact ⟨a.2.1,by omega⟩
    ·exact key 1 hj k1
   ·split at hj
    ·rename_i a
     split at hj
     ·refine key 4 hj (fun i hi=> ?_)
      match i,hi with
      |0,_=>exact k1 0 (by omega)
      |1,_=>exact ⟨a.1.1.2.1,by omega⟩
      |2,_=>exact ⟨a.1.2.1,by omega⟩
      |3,_=>exact ⟨a.2.1,by omega⟩
     ·exact key 1 hj k1
    ·exact key 1 hj k1
theorem z9L {sr:σ→Nat→Bool×σ} {st:σ→UInt8→Option σ} (H:zxM sr st) (s:ByteArray) (p:Nat) (h:p<s.size) (x:σ) (hr:(sr x (Utf8.decode s p).1).1=true):zbY st x (s.data.toList.drop p)=0:=by
 rw [zcU s p h]
 apply zhX
 by_cases hc:s[p].toNat<128
 ·rw [decode_ascii s p h hc] at hr
  rw [H.low x _ hc,if_pos hr]
 ·have hd:=(decode_high s p h (by omega)).1
  rcases H.high with ⟨_,k⟩|⟨k,_⟩
  ·exact k x _ (by omega)
  ·rw [k x _ hd] at hr;cases hr
theorem ynI {sr:σ→Nat→Bool×σ} {st:σ→UInt8→Option σ} (H:zxM sr st) (s:ByteArray) (p:Nat) (h:p<s.size) (x:σ) (hr:(sr x (Utf8.decode s p).1).1=false):
  zbY st x (s.data.toList.drop p)=(Utf8.decode s p).2+zbY st (sr x (Utf8.decode s p).1).2 (s.data.toList.drop (p+(Utf8.decode s p).2)):=by
 by_cases hc:s[p].toNat<128
 ·rw [decode_ascii s p h hc] at hr ⊢
  rw [zcU s p h,zdS (by rw [H.low x _ hc,if_neg (by rw [hr];decide)])]
  exact Nat.add_comm _ _
 ·have hd:=(decode_high s p h (by omega)).1
  rcases H.high with ⟨k,_⟩|⟨k,kb⟩
  ·rw [k x _ hd] at hr;cases hr
  ·rw [k x _ hd]
   have:=zvQ (st:=st) (s:=x) (Utf8.decode s p).2 (s.data.toList.drop p) (fun j hj=>by
    obtain ⟨c,e,he⟩:=zoI s p h (by omega) j hj
    exact ⟨c,by rw [List.getElem?_drop];exact e,kb x c he⟩)
   rw [this,List.drop_drop]
end
theorem zkJ (q:UInt8→Bool): ∀l:List UInt8,zbY (fun (_:Unit) c=>if q c=true then none else some ()) () l=l.findIdx q
 |[]=>rfl
 |c::l=>by
  cases h:q c with
  |true=>rw [zhX (by rw [if_pos h]),List.findIdx_cons,h];rfl
  |false=>rw [zdS (t:=()) (by rw [if_neg (by rw [h];decide)]),zkJ q l,List.findIdx_cons,h];rfl
theorem zpS (q:UInt8→Bool): ∀l:List UInt8,l.drop (l.findIdx fun c=> !q c)=l.dropWhile q
 |[]=>rfl
 |c::l=>by
  rw [List.findIdx_cons,List.dropWhile_cons]
  cases h:q c with
  |true=>simpa using zpS q l
  |false=>simp
theorem ycT (l:List UInt8):l.drop (zbY (fun (_:Unit) c=>if (!zcJ c)=true then none else some ()) () l)=zeO l:=by
 rw [zkJ (fun c=> !zcJ c)];exact zpS zcJ l
def schS (w:Bool) (c:UInt8):Option Bool:=if zcC c.toNat||(w&&(zbC c.toNat||(c==43||c==45||c==46))) then some true else none
theorem zvY: ∀l:List UInt8,zbY schS true l=l.findIdx fun c=> !schC c
 |[]=>rfl
 |c::l=>by
  have e:schS true c=if schC c=true then some true else none:=by unfold schS schC;simp only [Bool.true_and,Bool.or_assoc]
  cases h:schC c with
  |true=>rw [zdS (t:=true) (by rw [e,if_pos h]),zvY l,List.findIdx_cons,h];rfl
  |false=>rw [zhX (by rw [e,if_neg (by rw [h];decide)]),List.findIdx_cons,h];rfl
def schN (l:List UInt8):Nat:=zbY schS false l
theorem zvP (l:List UInt8):schW l=if schN l≠0∧l[schN l]? =some 58 then some (zaI (l.take (schN l)),l.drop (schN l+1)) else none:=by
 unfold schN
 match l with
 |[]=>simp [schW,zbY]
 |c::l=>
  cases h:zcC c.toNat with
  |true=>
   have e1:schS false c=some true:=by unfold schS;rw [h];rfl
   have e2:schC c=true:=by unfold schC;rw [h];rfl
   have e3:(c::l).findIdx (fun c=> !schC c)=zbY schS false (c::l):=by rw [zdS e1,zvY,List.findIdx_cons,e2];rfl
   unfold schW
   rw [e3]
   have e4:zbY schS false (c::l)≠0:=by rw [zdS e1];omega
   simp only [h,true_and,ne_eq,e4,not_false_eq_true]
  |false=>
   have e1:schS false c=none:=by unfold schS;rw [h];rfl
   unfold schW
   rw [zhX e1]
   simp [h]
def zhP (i:Bool) (c:UInt8):Option Bool:=if c=91 then some true else if c=93 then some false else if c=58∧i=false then none else some i
theorem zhZ (ins:Bool) (c:UInt8) (r:List UInt8):hpW ins (c::r)=if c=58∧ins=false then ([],r) else (c::(hpW (if c=91 then true else if c=93 then false else ins) r).1,(hpW (if c=91 then true else if c=93 then false else ins) r).2):=by conv=>lhs;unfold hpW
theorem zgL: ∀(l:List UInt8) (i:Bool),l.take (zbY zhP i l)=(hpW i l).1∧(l.drop (zbY zhP i l)).drop 1=(hpW i l).2∧(zbY zhP i l<l.length→l[zbY zhP i l]? =some 58)
 |[],i=>by simp [zbY,hpW]
 |c::l,i=>by
  by_cases h91:c=91
  ·have ih:=zgL l true
   have e:zhP i c=some true:=if_pos h91
   rw [zdS e,zhZ,if_neg (by rw [h91];exact fun g=>absurd g.1 (by decide)),if_pos h91]
   simpa using ih
  ·by_cases h93:c=93
   ·have ih:=zgL l false
    have e:zhP i c=some false:=(if_neg h91).trans (if_pos h93)
    rw [zdS e,zhZ,if_neg (by rw [h93];exact fun g=>absurd g.1 (by decide)),if_neg h91,if_pos h93]
    simpa using ih
   ·by_cases h58:c=58∧i=false
    ·have e:zhP i c=none:=(if_neg h91).trans ((if_neg h93).trans (if_pos h58))
     rw [zhX e,zhZ,if_pos h58]
     simp [h58.1]
    ·have ih:=zgL l i
     have e:zhP i c=some i:=(if_neg h91).trans ((if_neg h93).trans (if_neg h58))
     rw [zdS e,zhZ,if_neg h58,if_neg h91,if_neg h93]
     simpa using ih
end
section
open Go.RowKit
theorem u8_nat (c:UInt8):UInt8.ofNat c.toNat=c:=by simp
def zqD (_:Unit) (r:Nat):Bool×Unit:=(!(decide (r=47)||decide (r=92)),())
def ydO (_:Unit) (c:UInt8):Option Unit:=if (!zcJ c)=true then none else some ()
theorem zqC (c:UInt8):zcJ c=(decide (c.toNat=47)||decide (c.toNat=92)):=by
 unfold zcJ
 rw [Bool.eq_iff_iff]
 simp only [Bool.or_eq_true,beq_iff_eq,decide_eq_true_eq,←UInt8.toNat_inj]
 exact Iff.rfl
theorem z6Y:zxM zqD ydO where
 low _ c _:=by unfold ydO zqD;rw [zqC]
 high:= .inl ⟨fun _ r h=>by unfold zqD;simp;omega,fun _ c h=>by
  unfold ydO
  rw [if_pos]
  rw [zqC,ypG (by omega),ypG (by omega)];rfl⟩
def ybL (of_:List UInt8) (_:Unit) (r:Nat):Bool×Unit:=(decide (r<128)&&hasB of_ (UInt8.ofNat r),())
def yhS (of_:List UInt8) (_:Unit) (c:UInt8):Option Unit:=if hasB of_ c=true then none else some ()
theorem yfM {of_:List UInt8} (h: ∀c∈of_,c.toNat<128):zxM (ybL of_) (yhS of_) where
 low _ c hc:=by unfold yhS ybL;rw [decide_eq_true hc,u8_nat];rfl
 high:= .inr ⟨fun _ r hr=>by unfold ybL;rw [ypG (by omega)];rfl,fun _ c hc=>by
  unfold yhS
  rw [if_neg]
  intro g
  have:c∈of_:=by simpa [hasB] using g
  have:=h c this
  omega⟩
theorem yjL (of_:List UInt8) (l:List UInt8):zbY (yhS of_) () l=l.findIdx (hasB of_):=zkJ (hasB of_) l
def zvA (w:Bool) (r:Nat):Bool×Bool:=(!(zcC r||(w&&(zbC r||(decide (r=43)||decide (r=45)||decide (r=46))))),true)
theorem yhA:zxM zvA schS where
 low w c _:=by
  have e:(c==43||c==45||c==46)=(decide (c.toNat=43)||decide (c.toNat=45)||decide (c.toNat=46)):=by
   rw [Bool.eq_iff_iff]
   simp only [Bool.or_eq_true,beq_iff_eq,decide_eq_true_eq,←UInt8.toNat_inj]
   exact Iff.rfl
  unfold schS zvA
  rw [e]
  cases (zcC ↑c.toNat||w&&(zbC ↑c.toNat||(decide (c.toNat=43)||decide (c.toNat=45)||decide (c.toNat=46))))<;>rfl
 high:=by
  have key: ∀(w:Bool) (r:Nat),128≤r→(zcC r||(w&&(zbC r||(decide (r=43)||decide (r=45)||decide (r=46)))))=false:=fun w r h=>by
   rw [show zcC (r:Int)=false from ypG (by omega),show zbC (r:Int)=false from ypG (by omega),ypG (by omega),ypG (by omega),ypG (by omega)]
   cases w<;>rfl
  refine .inl ⟨fun w r h=>by unfold zvA;rw [key w r h];rfl,fun w c h=> ?_⟩
  have e:(c==43||c==45||c==46)=(decide (c.toNat=43)||decide (c.toNat=45)||decide (c.toNat=46)):=by
   rw [Bool.eq_iff_iff]
   simp only [Bool.or_eq_true,beq_iff_eq,decide_eq_true_eq,←UInt8.toNat_inj]
   exact Iff.rfl
  unfold schS
  rw [e,key w _ h]
  rfl
def inH (i:Bool) (r:Nat):Bool:=if r=91 then true else if r=93 then false else i
def zqQ (i:Bool) (r:Nat):Bool×Bool:=(decide (r=58)&& !inH i r,inH i r)
theorem z7H:zxM zqQ zhP where
 low i c _:=by
  have e1:c=91↔c.toNat=91:=by rw [←UInt8.toNat_inj];exact Iff.rfl
  have e2:c=93↔c.toNat=93:=by rw [←UInt8.toNat_inj];exact Iff.rfl
  have e3:c=58↔c.toNat=58:=by rw [←UInt8.toNat_inj];exact Iff.rfl
  unfold zhP zqQ inH
  by_cases h1:c.toNat=91
  ·simp [e1,h1]
  ·by_cases h2:c.toNat=93
   ·simp [e1,e2,h2]
   ·simp only [e1,e2,e3,h1,h2,if_false]
    cases i<;>by_cases h3:c.toNat=58<;>simp [h3]
 high:= .inr ⟨fun i r h=>by unfold zqQ inH;rw [ypG (by omega),if_neg (by omega),if_neg (by omega)];rfl,fun i c h=>by
  have e: ∀d:UInt8,d.toNat<128→c≠d:=fun d hd g=>by rw [g] at h;omega
  unfold zhP
  rw [if_neg (e 91 (by decide)),if_neg (e 93 (by decide)),if_neg (fun g=>e 58 (by decide) g.1)]⟩
theorem ymA (b:Nat) (hb:b<128) (s:ByteArray) (h: ∀k (h:k<s.size),s[k].toNat≠b): ∀r∈scal s,r≠(b:Int):=by
 have key: ∀f p,∀r∈zjT s f p,r≠(b:Int):=by
  intro f
  induction f with
  |zero=>intro p x hx;simp [zjT] at hx
  |succ f ih=>
   intro p x hx
   by_cases hp:p<s.size
   ·rw [zgU s f p hp] at hx
    rcases List.mem_cons.1 hx with rfl|hx
    ·by_cases ha:(s[p]'hp).toNat<128
     ·rw [decode_ascii s p hp ha]
      have:=h p hp
      simp only
      omega
     ·have:=(decode_high s p hp (by omega)).1
      omega
    ·exact ih _ x hx
   ·rw [ziK s _ p hp] at hx;simp at hx
 exact key _ _
theorem yfQ {p:List UInt8} {c:UInt8} (hc:c.toNat<128) (h:c∉p): ∀r∈scal ⟨p.toArray⟩,r≠(c.toNat:Int):=by
 refine ymA c.toNat hc _ (fun k hk e=>h ?_)
 have e2:(ByteArray.mk p.toArray)[k]=p[k]'(by simpa [ByteArray.size] using hk):=rfl
 rw [e2] at e
 rw [←UInt8.toNat_inj.1 e]
 exact List.getElem_mem _
theorem yjB (st:Int) (h0:0≤st) (h1:st≤5) (l:List Int): ∀b∈encB st l,b=37∨(∃n,n<16∧b=hexN n)∨(b.toNat:Int)∈l:=by
 intro b hb
 obtain ⟨r,hr,hb⟩:=List.mem_flatMap.1 hb
 cases hin:inB st r with
 |true=>
  have e:encP st r=pctL (Lib.encodeRune r):=by unfold encP;rw [hin];rfl
  rw [e] at hb
  obtain ⟨c,_,hb⟩:=List.mem_flatMap.1 hb
  have hc:=c.toNat_lt
  simp only [pctB,List.mem_cons,List.not_mem_nil,or_false] at hb
  rcases hb with rfl|rfl|rfl
  ·exact .inl rfl
  ·exact .inr (.inl ⟨_,by omega,rfl⟩)
  ·exact .inr (.inl ⟨_,by omega,rfl⟩)
 |false=>
  have e:encP st r=Lib.encodeRune r:=by unfold encP;rw [hin];rfl
  have ha:=zuM h0 h1 hin
  rw [e,zfW (by omega) (by omega)] at hb
  simp only [List.mem_cons,List.not_mem_nil,or_false] at hb
  subst hb
  rw [z5A r (by omega) (by omega),Int.toNat_of_nonneg (by omega)]
  exact .inr (.inr hr)
theorem ydW: ∀n:Fin 16,hexN n.val≠47∧hexN n.val≠92:=by decide+kernel
theorem z6L {st:Int} (h0:0≤st) (h1:st≤5) {p:List UInt8} {c:UInt8} (hc:c=47∨c=92) (h:c∉p):c∉encW st p:=by
 intro g
 rcases yjB st h0 h1 _ c g with e|⟨n,hn,e⟩|e
 ·rcases hc with rfl|rfl<;>cases e
 ·have:=ydW ⟨n,hn⟩
  rcases hc with rfl|rfl
  ·exact this.1 e.symm
  ·exact this.2 e.symm
 ·exact yfQ (by rcases hc with rfl|rfl<;>decide) h _ e rfl
theorem zrX {st:Int} (h0:0≤st) (h1:st≤5) {p:List UInt8} {c:UInt8} (hc:inB st (c.toNat:Int)=true):c∉encW st p:=fun g=>by
 have:=(zuH st h0 h1 _ c g).2
 rw [hc] at this;cases this
theorem yaA (p:UInt8→Bool) (l:List UInt8):(∀x∈(spl p l).1,∀c∈x,p c=false)∧ ∀c∈(spl p l).2,p c=false:=by
 have key: ∀(l:List UInt8) (st:List (List UInt8)×List UInt8),(∀x∈st.1,∀c∈x,p c=false)→(∀c∈st.2,p c=false)→(∀x∈(l.foldl (zaT p) st).1,∀c∈x,p c=false)∧ ∀c∈(l.foldl (zaT p) st).2,p c=false:=by
  intro l
  induction l with
  |nil=>intro st h1 h2;exact ⟨h1,h2⟩
  |cons c l ih=>
   intro st h1 h2
   rw [List.foldl_cons]
   refine ih _ ?_ ?_
   ·intro x hx
    unfold zaT at hx
    split at hx
    ·rcases List.mem_append.1 hx with hx|hx
     ·exact h1 x hx
     ·rw [ypH] at hx;rw [hx];exact h2
    ·exact h1 x hx
   ·intro d hd
    unfold zaT at hd
    split at hd
    ·cases hd
    ·rename_i hp
     rcases List.mem_append.1 hd with hd|hd
     ·exact h2 d hd
     ·rw [ypH] at hd;rw [hd];simpa using hp
 exact key l ([],[]) (by intro x hx;cases hx) (by intro c hc;cases hc)
theorem z9A {p:UInt8→Bool} {l x:List UInt8} (h:x∈zbG p l): ∀c∈x,p c=false:=by
 unfold zbG at h
 rcases List.mem_append.1 h with h|h
 ·exact (yaA p l).1 x h
 ·rw [ypH] at h;rw [h];exact (yaA p l).2
theorem zqE (p:UInt8→Bool) (l:List UInt8):zbG p l≠[]:=by simp [zbG]
/-! a path that is read -/
def segB (s:List UInt8):Bool:=zxT s [47,63,35,92]
theorem yjJ {p:List UInt8} (h: ∀c∈p,hasB [47,92] c=false):segB (encW 4 p)=true:=by
 refine List.all_eq_true.2 fun c hc=> ?_
 have n1:c≠47:=fun e=>by
  subst e
  exact z6L (by decide) (by decide) (.inl rfl) (fun g=>by have:=h _ g;revert this;decide) hc
 have n2:c≠92:=fun e=>by
  subst e
  exact z6L (by decide) (by decide) (.inr rfl) (fun g=>by have:=h _ g;revert this;decide) hc
 have n3:c≠63:=fun e=>by subst e;exact zrX (by decide) (by decide) (by decide) hc
 have n4:c≠35:=fun e=>by subst e;exact zrX (by decide) (by decide) (by decide) hc
 simp [hasB,Ne.symm n1,Ne.symm n2,Ne.symm n3,Ne.symm n4]
theorem ydQ {b:Bool} {out:List (List UInt8)} {q:List UInt8} (ho:out.all segB=true) (hq:segB q=true):(zeD b out q).all segB=true:=by
 have hd:out.dropLast.all segB=true:=List.all_eq_true.2 fun x hx=>List.all_eq_true.1 ho x ((List.dropLast_sublist out).subset hx)
 unfold zeD
 split
 ·rw [List.all_append,ho];simp [hq]
 ·split
  ·rw [List.all_append]
   split
   ·rw [hd];rfl
   ·rw [ho];rfl
  ·split
   ·exact hd
   ·exact ho
theorem ybC: ∀(ps out:List (List UInt8)),out.all segB=true→(∀p∈ps,segB (encW 4 p)=true)→(goW out ps).all segB=true
 |[],_,ho,_=>ho
 |p::r,_,ho,hp=>ybC r _ (ydQ ho (hp p (ypI ..))) (fun x hx=>hp x (List.mem_cons_of_mem _ hx))
theorem z2A: ∀(ps out:List (List UInt8)),ps≠[]→goW out ps≠[]
 |[],_,h=>absurd rfl h
 |[p],out,_=>by
  show zeD true out _≠[]
  unfold zeD
  split
  ·simp
  ·rw [if_pos rfl];simp
 |p::q::r,out,_=>z2A (q::r) _ (by simp)
theorem ygC {from_:List (List UInt8)} (hf:from_.all segB=true) (l:List UInt8):(zhO from_ l).all segB=true∧zhO from_ l≠[]:=
 ⟨ybC _ _ hf (fun _ hp=>yjJ (z9A hp)),z2A _ _ (zqE _ _)⟩
/-! a port that is read -/
theorem z2G: ∀(l:List UInt8) (n m:Int),0≤n→zpE n l=some m→0≤m
 |[],n,m,h,e=>by rw [show zpE n []=some n from rfl] at e;rw [←Option.some.inj e];exact h
 |c::r,n,m,h,e=>by
  unfold zpE at e
  split at e
  ·rename_i hd
   have hd:=of_decide_eq_true hd
   exact z2G r _ m (by split<;>omega) e
  ·cases e
theorem yjY (l:List UInt8) (h:zkX l≠ -2): -1≤zkX l∧zkX l≤65535:=by
 unfold zkX at*
 split
 ·omega
 ·rename_i hl
  rw [if_neg hl] at h
  cases e:zpE 0 l with
  |none=>rw [e] at h;exact absurd rfl h
  |some n=>
   rw [e] at h
   have:=z2G l 0 n (by omega) e
   simp only at h ⊢
   split
   ·rename_i g;rw [if_pos g] at h;exact absurd rfl h
   ·omega
structure z1X (u:UZ):Prop where
 sch:u.scheme=zjL∨u.scheme=zfH
 host:u.host.Ok
 port: -1≤u.port∧u.port≤65535∧u.port≠ownZ u.scheme
 qry:zxT u.query [35]=true
 noQ:u.hasQ=false→u.query=[]
 noF:u.hasF=false→u.frag=[]
theorem z1X.url {u:UZ} (h:z1X u) {p:List (List UInt8)} (hp:p.all segB=true∧p≠[]):zfE {u with path:=p}:=
 ⟨h.sch,h.host,h.port,hp.2,hp.1,h.qry,h.noQ,h.noF⟩
theorem ymL {u:UZ} (h:zfE u) (l:List UInt8):zfE (qryW u l):=by
 unfold qryW
 split
 ·refine ⟨h.sch,h.host,h.port,h.some,h.segs,?_,fun e=>(by cases e),h.noF⟩
  refine List.all_eq_true.2 fun c hc=> ?_
  have n:c≠35:=fun e=>by subst e;exact zrX (by decide) (by decide) (by decide) hc
  simp [hasB,Ne.symm n]
 ·exact h
theorem ymH {u:UZ} (h:zfE u) (l:List UInt8):zfE (frgW u l):=by
 unfold frgW
 split
 ·exact ⟨h.sch,h.host,h.port,h.some,h.segs,h.qry,h.noQ,fun e=>by cases e⟩
 ·exact h
theorem zsD {u:UZ} (h:zfE u) (l:List UInt8):zfE (ziY u l):=ymH (ymL h l) l
theorem zoW {u:UZ} (h:z1X u) {f:List (List UInt8)} (hf:f.all segB=true) (l:List UInt8):zfE (zcV u f l):=
 zsD (h.url (ygC hf _)) _
theorem ymU {s:List UInt8} (h:s=zjL∨s=zfH):ownZ s=80∨ownZ s=443:=by
 rcases h with rfl|rfl
 ·exact .inl rfl
 ·exact .inr rfl
theorem ymY {q n:Int} (hq: -1≤q∧q≤65535) (hn:n=80∨n=443): -1≤(if q=n then -1 else q)∧(if q=n then -1 else q)≤65535∧(if q=n then -1 else q)≠n:=by
 split
 ·omega
 ·rename_i g;exact ⟨hq.1,hq.2,g⟩
theorem ztB {name:List UInt8} (hn:name=zjL∨name=zfH) (l:List UInt8) (h:(zeR name l).2=0):zfE (zeR name l).1:=by
 unfold zeR at h ⊢
 simp only at h ⊢
 split at h
 ·cases h
 rename_i h1
 rw [if_neg h1]
 split at h
 ·rename_i g;exact absurd h g
 rename_i h2
 rw [if_neg h2]
 split at h
 ·cases h
 rename_i h3
 rw [if_neg h3]
 have hq:=yjY _ h3
 have ho:=ymU hn
 refine zoW ⟨hn,zsK (Decidable.not_not.1 h2),?_,rfl,fun _=>rfl,fun _=>rfl⟩ rfl _
 exact ymY hq ho
theorem z7U {b:UZ} (hb:zfE b) (l:List UInt8) (h:(relW b l).2=0):zfE (relW b l).1:=by
 have hh:z1X {zcD with scheme:=b.scheme,user:=b.user,pass:=b.pass,host:=b.host,port:=b.port}:=⟨hb.sch,hb.host,hb.port,rfl,fun _=>rfl,fun _=>rfl⟩
 have hd:b.path.dropLast.all segB=true:=List.all_eq_true.2 fun x hx=>List.all_eq_true.1 hb.segs x ((List.dropLast_sublist _).subset hx)
 unfold relW at h ⊢
 simp only at h ⊢
 split
 ·rename_i g;rw [if_pos g] at h;exact ztB hb.sch _ h
 split
 ·exact zoW hh rfl _
 split
 ·refine zsD ?_ _
  exact ⟨hb.sch,hb.host,hb.port,hb.some,hb.segs,hb.qry,hb.noQ,fun _=>rfl⟩
 split
 ·refine zsD ?_ _
  exact ⟨hb.sch,hb.host,hb.port,hb.some,hb.segs,rfl,fun _=>rfl,fun _=>rfl⟩
 ·exact zoW hh hd _
theorem yiI (s:List UInt8) (b:Option UZ) (hb: ∀u,b=some u→zfE u) (h:(zsH s b).2=0):zfE (zsH s b).1:=by
 unfold zsH at h ⊢
 split at h
 ·cases h
 ·exact z7U (hb _ rfl) _ h
 ·split at h
  ·rename_i g;rw [if_pos g];exact ztB g _ h
  ·cases h
 ·split at h
  ·rename_i g
   rw [if_pos g]
   split at h
   ·rename_i g2;rw [if_pos g2];exact ztB g _ h
   ·rename_i g2;rw [if_neg g2];exact z7U (hb _ rfl) _ h
  ·cases h
theorem zoJ (t:List UInt8) (b:Option UZ) (hb: ∀u,b=some u→zfE u) (h:(zbF t b).2=0):zfE (zbF t b).1:=by
 unfold zbF at h ⊢
 split at h
 ·cases h
 ·rename_i g;rw [if_neg g];exact yiI _ b hb h
def Out (st:Int) (l:List UInt8):Prop:= ∀b∈l,b.toNat<128∧inB st (b.toNat:Int)=false
theorem Out.enc {st:Int} (h0:0≤st) (h1:st≤5) (l:List UInt8):Out st (encW st l):=zuH st h0 h1 _
theorem Out.same {st:Int} {l:List UInt8} (h:Out st l):encW st l=l:=by
 unfold encW
 rw [z5P l (fun b hb=>(h b hb).1)]
 exact ygD st l h
theorem Out.nil (st:Int):Out st []:=fun _ h=>by cases h
theorem Out.not {st:Int} {l:List UInt8} (h:Out st l) {c:UInt8} (hc:inB st (c.toNat:Int)=true):c∉l:=fun g=>by
 have:=(h c g).2;rw [hc] at this;cases this
def zrW (s:List UInt8):Prop:=Out 4 s∧ptsW s=0
structure zhQ (u:UZ):Prop where
 user:Out 5 u.user
 pass:Out 5 u.pass
 path: ∀s∈u.path,zrW s
 qry:Out 3 u.query
 frag:Out 1 u.frag
theorem ycE {b:Bool} {out:List (List UInt8)} {q:List UInt8} (ho: ∀s∈out,zrW s) (hq:Out 4 q): ∀s∈zeD b out q,zrW s:=by
 have hd: ∀s∈out.dropLast,zrW s:=fun s hs=>ho s ((List.dropLast_sublist out).subset hs)
 have h0:zrW []:=⟨Out.nil 4,rfl⟩
 intro s hs
 unfold zeD at hs
 split at hs
 ·rename_i g
  rcases List.mem_append.1 hs with hs|hs
  ·exact ho s hs
  ·rw [ypH] at hs;rw [hs];exact ⟨hq,g⟩
 ·split at hs
  ·rcases List.mem_append.1 hs with hs|hs
   ·split at hs
    ·exact hd s hs
    ·exact ho s hs
   ·rw [ypH] at hs;rw [hs];exact h0
  ·split at hs
   ·exact hd s hs
   ·exact ho s hs
theorem ydI: ∀(ps out:List (List UInt8)),(∀s∈out,zrW s)→ ∀s∈goW out ps,zrW s
 |[],_,ho=>ho
 |_::r,_,ho=>ydI r _ (ycE ho (Out.enc (by decide) (by decide) _))
theorem znO {u:UZ} (h:zhQ u) (l:List UInt8):zhQ (ziY u l):=by
 have hq:zhQ (qryW u l):=by
  unfold qryW
  split
  ·exact ⟨h.user,h.pass,h.path,Out.enc (by decide) (by decide) _,h.frag⟩
  ·exact h
 unfold ziY frgW
 split
 ·exact ⟨hq.user,hq.pass,hq.path,hq.qry,Out.enc (by decide) (by decide) _⟩
 ·exact hq
theorem zlQ {u:UZ} (h:zhQ u) {f:List (List UInt8)} (hf: ∀s∈f,zrW s) (l:List UInt8):zhQ (zcV u f l):=by
 refine znO ?_ _
 exact ⟨h.user,h.pass,ydI _ _ hf,h.qry,h.frag⟩
theorem z6U (l:List UInt8):Out 5 (zjK l):=by
 unfold zjK
 split
 ·exact Out.nil 5
 ·exact Out.enc (by decide) (by decide) _
theorem z8Z (l:List UInt8):Out 5 (zjR l):=by
 unfold zjR
 split
 ·exact Out.nil 5
 ·split
  ·exact Out.enc (by decide) (by decide) _
  ·exact Out.nil 5
theorem zfL:zhQ zcD:=⟨Out.nil 5,Out.nil 5,fun _ h=>(by cases h),Out.nil 3,Out.nil 1⟩
theorem znC (name l:List UInt8):zhQ (zeR name l).1:=by
 unfold zeR
 simp only
 split
 ·exact zfL
 split
 ·exact zfL
 split
 ·exact zfL
 refine zlQ ?_ (fun _ h=>by cases h) _
 exact ⟨z6U _,z8Z _,fun _ h=>(by cases h),Out.nil 3,Out.nil 1⟩
theorem zzY {b:UZ} (hb:zhQ b) (l:List UInt8):zhQ (relW b l).1:=by
 have hh:zhQ {zcD with scheme:=b.scheme,user:=b.user,pass:=b.pass,host:=b.host,port:=b.port}:=⟨hb.user,hb.pass,fun _ h=>(by cases h),Out.nil 3,Out.nil 1⟩
 unfold relW
 simp only
 split
 ·exact znC _ _
 split
 ·exact zlQ hh (fun _ h=>by cases h) _
 split
 ·refine znO ?_ _
  exact ⟨hb.user,hb.pass,hb.path,hb.qry,Out.nil 1⟩
 split
 ·refine znO ?_ _
  exact ⟨hb.user,hb.pass,hb.path,Out.nil 3,Out.nil 1⟩
 ·exact zlQ hh (fun s hs=>hb.path s ((List.dropLast_sublist _).subset hs)) _
theorem z6B (t:List UInt8) (b:Option UZ) (hb: ∀u,b=some u→zhQ u):zhQ (zbF t b).1:=by
 unfold zbF
 split
 ·exact zfL
 unfold zsH
 split
 ·exact zfL
 ·exact zzY (hb _ rfl) _
 ·split
  ·exact znC _ _
  ·exact zfL
 ·split
  ·split
   ·exact znC _ _
   ·exact zzY (hb _ rfl) _
  ·exact zfL
def Vis (l:List UInt8):Prop:= ∀c∈l,33≤c.toNat∧c.toNat≤126
theorem zjI {p:UInt8→Bool} {l:List UInt8} (h: ∀c∈l,p c=false):l.dropWhile p=l:=by
 cases l with
 |nil=>rfl
 |cons c r=>rw [List.dropWhile_cons,h c (ypI ..)];rfl
theorem z8M {l:List UInt8} (h:Vis l):zeQ (zdU l)=l:=by
 have hb: ∀c∈l,zcO c=false:=fun c hc=>zfS (by have:=h c hc;omega)
 unfold zdU
 rw [zjI hb,zjI (fun c hc=>hb c (List.mem_reverse.1 hc)),List.reverse_reverse]
 unfold zeQ
 refine List.filter_eq_self.2 fun c hc=> ?_
 have hv:=h c hc
 have n1:c≠9:=fun e=>by subst e;revert hv;decide
 have n2:c≠10:=fun e=>by subst e;revert hv;decide
 have n3:c≠13:=fun e=>by subst e;revert hv;decide
 simp [zyL,n1,n2,n3]
theorem zrP {p:UInt8→Bool} {a r:List UInt8} (ha: ∀c∈a,p c=false) (hr: ∀d r',r=d::r'→p d=true):(a++r).findIdx p=a.length:=by
 induction a with
 |nil=>
  cases r with
  |nil=>rfl
  |cons d r'=>rw [List.nil_append,List.findIdx_cons,hr d r' rfl];rfl
 |cons c a ih=>
  rw [List.cons_append,List.findIdx_cons,ha c (ypI ..),ih (fun x hx=>ha x (List.mem_cons_of_mem _ hx))]
  rfl
theorem yhP {l:List UInt8} (h:(64:UInt8)∉l):atW l=none:=by
 unfold atW
 have:l.reverse.findIdx (· ==64)=l.reverse.length:=by
  have:=zrP (p:=(· ==64)) (a:=l.reverse) (r:=[]) (fun c hc=>by simp only [beq_eq_false_iff_ne];exact fun e=>h (e▸List.mem_reverse.1 hc)) (fun d r' e=>by cases e)
  rwa [List.append_nil] at this
 rw [this,List.length_reverse,if_neg (by omega)]
theorem yfV {a d:List UInt8} (h:(64:UInt8)∉d):atW (a++64::d)=some a.length:=by
 unfold atW
 have:(a++64::d).reverse.findIdx (· ==64)=d.reverse.length:=by
  rw [List.reverse_append,List.reverse_cons,List.append_assoc]
  exact zrP (fun c hc=>by simp only [beq_eq_false_iff_ne];exact fun e=>h (e▸List.mem_reverse.1 hc)) (fun x r' e=>by rw [List.singleton_append] at e;rw [←(List.cons.inj e).1];rfl)
 rw [this,List.length_reverse,if_pos (by simp;omega)]
 congr 1
 simp
theorem zsV {l:List UInt8} (h: ∀c∈l,endC c=false): ∀c∈l,hasB [47,92,63,35] c=false:=fun c hc=>by
 have hq: ∀d:UInt8,endC d=true→c≠d:=fun d hd e=>by have:=h c hc;rw [e,hd] at this;cases this
 have n1:=hq 47 rfl
 have n2:=hq 92 rfl
 have n3:=hq 63 rfl
 have n4:=hq 35 rfl
 simp [hasB,Ne.symm n1,Ne.symm n2,Ne.symm n3,Ne.symm n4]
theorem zmO {l:List UInt8} (h:Out 5 l): ∀c∈l,endC c=false:=fun c hc=>by
 have hq: ∀d:UInt8,inB 5 (d.toNat:Int)=true→c≠d:=fun d hd e=>h.not hd (e▸hc)
 have n1:=hq 47 rfl
 have n2:=hq 92 rfl
 have n3:=hq 63 rfl
 have n4:=hq 35 rfl
 have n5:=hq 64 rfl
 simp [endC,hasB,Ne.symm n1,Ne.symm n2,Ne.symm n3,Ne.symm n4,Ne.symm n5]
def upW (u:UZ):List UInt8:=u.user++(if u.pass=[] then [] else 58::u.pass)
theorem zyE (u:UZ):whoU u=if u.user=[]∧u.pass=[] then [] else upW u++[64]:=by
 unfold whoU upW
 by_cases g:u.user=[]∧u.pass=[]
 ·rw [if_pos g,if_pos g,g.1,g.2];rfl
 ·rw [if_neg g,if_neg g]
theorem ygB {u:UZ} (he:zhQ u): ∀c∈whoU u,hasB [47,92,63,35] c=false:=by
 rw [zyE]
 intro c hc
 split at hc
 ·cases hc
 ·unfold upW at hc
  rcases List.mem_append.1 hc with hc|hc
  ·rcases List.mem_append.1 hc with hc|hc
   ·exact zsV (zmO he.user) c hc
   ·split at hc
    ·cases hc
    ·rcases List.mem_cons.1 hc with rfl|hc
     ·rfl
     ·exact zsV (zmO he.pass) c hc
  ·rw [ypH] at hc;subst hc;rfl
/-! the path,and what stands behind it -/
theorem zsO (l:List UInt8):(zdU l).length≤(l.dropWhile zcO).length:=by
 unfold zdU
 rw [List.length_reverse]
 exact Nat.le_trans (List.dropWhile_sublist _).length_le (by rw [List.length_reverse];exact Nat.le_refl _)
theorem yfE {u:UZ} (h:u.pass≠[]):whoU u=u.user++[58]++u.pass++[64]:=by
 unfold whoU;rw [if_neg h,if_neg (fun g=>h g.2)];simp
theorem yjP {u:UZ} (h:u.pass=[]) (h2:u.user≠[]):whoU u=u.user++[64]:=by
 unfold whoU;rw [if_pos h,if_neg (fun g=>h2 g.1)];simp
theorem yjO {u:UZ} (h:u.pass=[]) (h2:u.user=[]):whoU u=[]:=by
 unfold whoU;rw [if_pos h,if_pos ⟨h2,h⟩,h2];rfl
end
end Go.Proofs.YtmjappnpedjlnaaGreatDoor
