/-
  What the law AgreeNever leans on, and its walk (20 of 42).
-/
import Derived.Test.YtegmcmgndllmaaaGreatDoorAgreeNeverPkP
import Derived.Test.YtegmcmgndllmaaaGreatDoorAgreeNeverPkT
import Derived.Test.YtegmcmgndllmaaaGreatDoorAgreeNeverPkH
import Derived.Test.YtegmcmgndllmaaaGreatDoorAgreeNeverPkB
namespace Go.Proofs.YtegmcmgndllmaaaGreatDoor
set_option maxRecDepth 100000
set_option maxHeartbeats 16000000
abbrev ylA := @decide_eq_false
abbrev ylB := @List.mem_cons_self
section
open Go.RowKit
structure UZ where
 scheme:List UInt8
 user:List UInt8
 pass:List UInt8
 host:HZ
 port:Int
 path:List (List UInt8)
 query:List UInt8
 hasQ:Bool
 frag:List UInt8
 hasF:Bool
def zjR:List UInt8:=[104,116,116,112]
def zeY:List UInt8:=[104,116,116,112,115]
def ownZ (s:List UInt8):Int:=if s=zjR then 80 else if s=zeY then 443 else 0
def yeR (s d:List UInt8):Bool:=s.all fun c=> !hasB d c
def effZ (u:UZ):Int:=if u.port= -1 then ownZ u.scheme else u.port
theorem z4O {b:UInt8}: ∀{l:List UInt8},b∉l→Lib.index l [b]= -1
 |[],_=>rfl
 |c::l,h=>by
  have f: ¬b=c:=fun e=>h (e▸ylB ..)
  have d:=z4O (l:=l) (fun g=>h (List.mem_cons_of_mem _ g))
  unfold Lib.index
  rw [d]
  simp [List.isPrefixOf,f]
theorem z3L {b:UInt8}: ∀{a:List UInt8} (d:List UInt8),b∉a→Lib.index (a++b::d) [b]=a.length
 |[],d,_=>by
  show Lib.index (b::d) [b]=_
  unfold Lib.index;simp [List.isPrefixOf]
 |c::a,d,h=>by
  have m: ¬b=c:=fun e=>h (e▸ylB ..)
  have j:=z3L (a:=a) d (fun g=>h (List.mem_cons_of_mem _ g))
  show Lib.index (c::(a++b::d)) [b]=_
  unfold Lib.index
  rw [j]
  have f:(([b]:List UInt8).isPrefixOf (c::(a++b::d)))=false:=by simp [List.isPrefixOf,m]
  have i:((a.length:Int)== -1)=false:=by rw [beq_eq_false_iff_ne];omega
  rw [f,i]
  simp
theorem zyN {b:UInt8} {l:List UInt8} (h:b∉l):Lib.cut l [b]=(l,[],false):=by
 unfold Lib.cut;rw [z4O h];rfl
theorem zzF {b:UInt8} {a:List UInt8} (d:List UInt8) (h:b∉a):Lib.cut (a++b::d) [b]=(a,d,true):=by
 unfold Lib.cut;rw [z3L d h,if_pos (by omega)]
 simp
structure zjA (u:UZ):Prop where
 sch:u.scheme=zjR∨u.scheme=zeY
 host:u.host.Ok
 port: -1≤u.port∧u.port≤65535∧u.port≠ownZ u.scheme
 some:u.path≠[]
 segs:u.path.all (fun s=>yeR s [47,63,35,92])=true
 qry:yeR u.query [35]=true
 noQ:u.hasQ=false→u.query=[]
 noF:u.hasF=false→u.frag=[]
def encW (s:Int) (l:List UInt8):List UInt8:=encB s (scal ⟨l.toArray⟩)
def zcY (c:UInt8):Bool:=c==47||c==92
def schC (c:UInt8):Bool:=zcF c.toNat||zaX c.toNat||c==43||c==45||c==46
def schW (l:List UInt8):Option (List UInt8×List UInt8):=
 if (match l with|[]=>false|c::_=>zcF c.toNat)=true∧l[l.findIdx fun c=> !schC c]? =some 58 then
  some (zaM (l.take (l.findIdx fun c=> !schC c)),l.drop ((l.findIdx fun c=> !schC c)+1)) else none
def ziX (l:List UInt8):List UInt8:=l.dropWhile zcY
def ptsN:List UInt8→Option Nat
 |[]=>some 0
 |[c]=>if c=46 then some 1 else none
 |[c,d]=>if c=46∧d=46 then some 2 else none
 |c::d::e::r=>if c=46 then (ptsN (d::e::r)).map (· +1) else if c=37∧d=50∧(e=101∨e=69) then (ptsN r).map (· +1) else none
def ptsW (l:List UInt8):Nat:=match ptsN l with
 |some n=>if n>2 then 0 else n
 |none=>0
def ziF (last:Bool) (out:List (List UInt8)) (q:List UInt8):List (List UInt8):=
 if ptsW q=0 then out++[q] else if last=true then (if ptsW q=2 then out.dropLast else out)++[[]] else if ptsW q=2 then out.dropLast else out
def goW:List (List UInt8)→List (List UInt8)→List (List UInt8)
 |out,[]=>out
 |out,p::r=>goW (ziF r.isEmpty out (encW 4 p)) r
def zwX (d:List (List UInt8)) (l:List UInt8):List (List UInt8):=goW d (zbW (hasB [47,92]) l)
def qryW (u:UZ) (l:List UInt8):UZ:=if l.head? =some 63 then {u with query:=encW 3 ((l.take (l.findIdx (· ==35))).drop 1),hasQ:=true} else u
def frgW (u:UZ) (l:List UInt8):UZ:=if l.findIdx (· ==35)<l.length then {u with frag:=encW 1 (l.drop (l.findIdx (· ==35)+1)),hasF:=true} else u
def zsN (u:UZ) (l:List UInt8):UZ:=frgW (qryW u l) l
def ziN (u:UZ) (d:List (List UInt8)) (l:List UInt8):UZ:=
 zsN {u with path:=zwX d (l.take (l.findIdx (hasB [63,35])))} (l.drop (l.findIdx (hasB [63,35])))
def hpW:Bool→List UInt8→List UInt8×List UInt8
 |_,[]=>([],[])
 |d,c::r=>
  if c=58∧d=false then ([],r)
  else (c::(hpW (if c=91 then true else if c=93 then false else d) r).1,(hpW (if c=91 then true else if c=93 then false else d) r).2)
def zoE:Int→List UInt8→Option Int
 |n,[]=>some n
 |n,c::r=>if zaX c.toNat=true then zoE (if n≤65535 then 10*n+(c.toNat:Int) - 48 else n) r else none
def zeL (l:List UInt8):Int:=if l=[] then -1 else match zoE 0 l with
 |none=> -2
 |some n=>if n>65535 then -2 else n
def zeE:UZ:=⟨[],[],[],.none,0,[],[],false,[],false⟩
def atW (l:List UInt8):Option Nat:=if l.reverse.findIdx (· ==64)<l.length then some (l.length - 1 - l.reverse.findIdx (· ==64)) else none
def zqJ (l:List UInt8):List UInt8:=match atW l with
 |none=>[]
 |some k=>encW 5 ((l.take k).take ((l.take k).findIdx (· ==58)))
def zqS (l:List UInt8):List UInt8:=match atW l with
 |none=>[]
 |some k=>if (l.take k).findIdx (· ==58)<(l.take k).length then encW 5 ((l.take k).drop ((l.take k).findIdx (· ==58)+1)) else []
def zdL (l:List UInt8):List UInt8:=match atW l with
 |none=>l
 |some k=>l.drop (k+1)
def offW (l:List UInt8):List UInt8:=match l with
 |[]=>[]
 |c::r=>if zcY c=true then r else c::r
def zkO (name l:List UInt8):UZ×Int:=
 let a:=l.take (l.findIdx (hasB [47,92,63,35]))
 let f:=l.drop (l.findIdx (hasB [47,92,63,35]))
 let d:=hpW false (zdL a)
 if d.1=[] then (zeE,6)
 else if (zdR d.1).2≠0 then (zeE,(zdR d.1).2)
 else if zeL d.2= -2 then (zeE,8)
 else (ziN {zeE with scheme:=name,user:=zqJ a,pass:=zqS a,host:=(zdR d.1).1,port:=if zeL d.2=ownZ name then -1 else zeL d.2} [] (offW f),0)
def zgX (l:List UInt8):Bool:=match l with
 |[]=>false
 |c::_=>zcY c
def relW (b:UZ) (l:List UInt8):UZ×Int:=
 if zgX l=true∧zgX (l.drop 1)=true then zkO b.scheme (ziX l)
 else
  let u:UZ:={zeE with scheme:=b.scheme,user:=b.user,pass:=b.pass,host:=b.host,port:=b.port}
  if zgX l=true then (ziN u [] (l.drop 1),0)
  else if l=[]∨l.head? =some 35 then (zsN {u with path:=b.path,query:=b.query,hasQ:=b.hasQ} l,0)
  else if l.head? =some 63 then (zsN {u with path:=b.path} l,0)
  else (ziN u b.path.dropLast l,0)
def z1E (s:List UInt8) (b:Option UZ):UZ×Int:=
 match schW s,b with
 |none,none=>(zeE,5)
 |none,some b=>relW b s
 |some (n,r),none=>if n=zjR∨n=zeY then zkO n (ziX r) else (zeE,5)
 |some (n,r),some b=>if n=zjR∨n=zeY then (if b.scheme≠n∨r.take 2=[47,47] then zkO n (ziX r) else relW b r) else (zeE,5)
def zfC (t:List UInt8) (b:Option UZ):UZ×Int:=if 4096<t.length then (zeE,3) else z1E (zkD (ziR t)) b
section
variable {σ:Type}
def zcB (st:σ→UInt8→Option σ):σ→List UInt8→Nat
 |_,[]=>0
 |s,c::l=>match st s c with
  |none=>0
  |some t=>zcB st t l+1
structure zuY (sr:σ→Nat→Bool×σ) (st:σ→UInt8→Option σ):Prop where
 low: ∀s c,c.toNat<128→st s c=if (sr s c.toNat).1=true then none else some (sr s c.toNat).2
 high:((∀s r,128≤r→(sr s r).1=true)∧ ∀s c,128≤c.toNat→st s c=none)∨((∀s r,128≤r→sr s r=(false,s))∧ ∀s c,128≤c.toNat→st s c=some s)
theorem zvD (st:σ→UInt8→Option σ): ∀(l:List UInt8) (s:σ),zcB st s l≤l.length
 |[],_=>Nat.le_refl _
 |c::l,s=>by
  unfold zcB
  split
  ·omega
  ·have:=zvD st l;simp only [List.length_cons];rename_i t _;have:=this t;omega
theorem zhO {st:σ→UInt8→Option σ} {s:σ} {c:UInt8} {l:List UInt8} (h:st s c=none):zcB st s (c::l)=0:=by unfold zcB;rw [h]
theorem zdP {st:σ→UInt8→Option σ} {s t:σ} {c:UInt8} {l:List UInt8} (h:st s c=some t):zcB st s (c::l)=zcB st t l+1:=by conv=>lhs;unfold zcB;rw [h]
theorem zuG {st:σ→UInt8→Option σ} {s:σ}: ∀(k:Nat) (l:List UInt8),(∀j,j<k→ ∃c,l[j]? =some c∧st s c=some s)→zcB st s l=k+zcB st s (l.drop k)
 |0,l,_=>by simp
 |k+1,[],h=>by obtain ⟨c,e,_⟩:=h 0 (by omega);simp at e
 |k+1,c::l,h=>by
  obtain ⟨d,e,f⟩:=h 0 (by omega)
  simp at e;subst e
  rw [zdP f,zuG k l (fun j i=>by have:=h (j+1) (by omega);simpa using this),List.drop_succ_cons]
  omega
theorem yjS {s:ByteArray} {i:Nat} (h:i<s.size) (d:128≤zbA s i): ∃c,s.data.toList[i]? =some c∧128≤c.toNat:=⟨s[i],zeK s i h,by rw [←zqL s i h];exact d⟩
theorem zmP (s:ByteArray) (p:Nat) (h:p<s.size) (o:128≤s[p].toNat): ∀j,j<(Utf8.decode s p).2→ ∃c,s.data.toList[p+j]? =some c∧128≤c.toNat:=by
 have A:=zqL s p h
 intro j d
 rw [zjS] at d
 have key: ∀n,j<n→(∀i,i<n→p+i<s.size∧128≤zbA s (p+i))→ ∃c,s.data.toList[p+j]? =some c∧128≤c.toNat:=fun n m H=>yjS (H j m).1 (H j m).2
 have f: ∀i,i<1→p+i<s.size∧128≤zbA s (p+i):=fun i hi=>by
  obtain rfl:i=0:=by omega
  exact ⟨h,by rw [Nat.add_zero];omega⟩
 split at d
 ·omega
 ·split at d
  ·rename_i a
   split at d
   ·refine key 2 d (fun i hi=> ?_)
    match i,hi with
    |0,_=>exact f 0 (by omega)
    |1,_=>exact ⟨a.2.1,by omega⟩
   ·exact key 1 d f
  ·split at d
   ·rename_i a
    split at d
    ·refine key 3 d (fun i hi=> ?_)
     match i,hi with
     |0,_=>exact f 0 (by omega)
     |1,_=>exact ⟨a.1.2.1,by omega⟩
     |2,_=>exact ⟨a.2.1,by omega⟩
    ·exact key 1 d f
   ·split at d
    ·rename_i a
     split at d
     ·refine key 4 d (fun i hi=> ?_)
      match i,hi with
      |0,_=>exact f 0 (by omega)
      |1,_=>exact ⟨a.1.1.2.1,by omega⟩
      |2,_=>exact ⟨a.1.2.1,by omega⟩
      |3,_=>exact ⟨a.2.1,by omega⟩
     ·exact key 1 d f
    ·exact key 1 d f
theorem yaK {sr:σ→Nat→Bool×σ} {st:σ→UInt8→Option σ} (H:zuY sr st) (s:ByteArray) (p:Nat) (h:p<s.size) (x:σ) (d:(sr x (Utf8.decode s p).1).1=true):zcB st x (s.data.toList.drop p)=0:=by
 rw [zcP s p h]
 apply zhO
 by_cases f:s[p].toNat<128
 ·rw [decode_ascii s p h f] at d
  rw [H.low x _ f,if_pos d]
 ·have i:=(decode_high s p h (by omega)).1
  rcases H.high with ⟨_,k⟩|⟨k,_⟩
  ·exact k x _ (by omega)
  ·rw [k x _ i] at d;cases d
theorem yhG {sr:σ→Nat→Bool×σ} {st:σ→UInt8→Option σ} (H:zuY sr st) (s:ByteArray) (p:Nat) (h:p<s.size) (x:σ) (d:(sr x (Utf8.decode s p).1).1=false):
  zcB st x (s.data.toList.drop p)=(Utf8.decode s p).2+zcB st (sr x (Utf8.decode s p).1).2 (s.data.toList.drop (p+(Utf8.decode s p).2)):=by
 by_cases f:s[p].toNat<128
 ·rw [decode_ascii s p h f] at d ⊢
  rw [zcP s p h,zdP (by rw [H.low x _ f,if_neg (by rw [d];decide)])]
  exact Nat.add_comm _ _
 ·have i:=(decode_high s p h (by omega)).1
  rcases H.high with ⟨k,_⟩|⟨k,A⟩
  ·rw [k x _ i] at d;cases d
  ·rw [k x _ i]
   have:=zuG (st:=st) (s:=x) (Utf8.decode s p).2 (s.data.toList.drop p) (fun j o=>by
    obtain ⟨c,e,m⟩:=zmP s p h (by omega) j o
    exact ⟨c,by rw [List.getElem?_drop];exact e,A x c m⟩)
   rw [this,List.drop_drop]
end
theorem zjU (q:UInt8→Bool): ∀l:List UInt8,zcB (fun (_:Unit) c=>if q c=true then none else some ()) () l=l.findIdx q
 |[]=>rfl
 |c::l=>by
  cases h:q c with
  |true=>rw [zhO (by rw [if_pos h]),List.findIdx_cons,h];rfl
  |false=>rw [zdP (t:=()) (by rw [if_neg (by rw [h];decide)]),zjU q l,List.findIdx_cons,h];rfl
theorem zoV (q:UInt8→Bool): ∀l:List UInt8,l.drop (l.findIdx fun c=> !q c)=l.dropWhile q
 |[]=>rfl
 |c::l=>by
  rw [List.findIdx_cons,List.dropWhile_cons]
  cases h:q c with
  |true=>simpa using zoV q l
  |false=>simp
theorem z8P (l:List UInt8):l.drop (zcB (fun (_:Unit) c=>if (!zcY c)=true then none else some ()) () l)=ziX l:=by
 rw [zjU (fun c=> !zcY c)];exact zoV zcY l
def schS (w:Bool) (c:UInt8):Option Bool:=if zcF c.toNat||(w&&(zaX c.toNat||(c==43||c==45||c==46))) then some true else none
theorem zrQ: ∀l:List UInt8,zcB schS true l=l.findIdx fun c=> !schC c
 |[]=>rfl
 |c::l=>by
  have e:schS true c=if schC c=true then some true else none:=by unfold schS schC;simp only [Bool.true_and,Bool.or_assoc]
  cases h:schC c with
  |true=>rw [zdP (t:=true) (by rw [e,if_pos h]),zrQ l,List.findIdx_cons,h];rfl
  |false=>rw [zhO (by rw [e,if_neg (by rw [h];decide)]),List.findIdx_cons,h];rfl
def schN (l:List UInt8):Nat:=zcB schS false l
theorem zrF (l:List UInt8):schW l=if schN l≠0∧l[schN l]? =some 58 then some (zaM (l.take (schN l)),l.drop (schN l+1)) else none:=by
 unfold schN
 match l with
 |[]=>simp [schW,zcB]
 |c::l=>
  cases h:zcF c.toNat with
  |true=>
   have d:schS false c=some true:=by unfold schS;rw [h];rfl
   have j:schC c=true:=by unfold schC;rw [h];rfl
   have i:(c::l).findIdx (fun c=> !schC c)=zcB schS false (c::l):=by rw [zdP d,zrQ,List.findIdx_cons,j];rfl
   unfold schW
   rw [i]
   have f:zcB schS false (c::l)≠0:=by rw [zdP d];omega
   simp only [h,true_and,ne_eq,f,not_false_eq_true]
  |false=>
   have d:schS false c=none:=by unfold schS;rw [h];rfl
   unfold schW
   rw [zhO d]
   simp [h]
def zgY (i:Bool) (c:UInt8):Option Bool:=if c=91 then some true else if c=93 then some false else if c=58∧i=false then none else some i
theorem zgZ (d:Bool) (c:UInt8) (r:List UInt8):hpW d (c::r)=if c=58∧d=false then ([],r) else (c::(hpW (if c=91 then true else if c=93 then false else d) r).1,(hpW (if c=91 then true else if c=93 then false else d) r).2):=by conv=>lhs;unfold hpW
theorem zgF: ∀(l:List UInt8) (i:Bool),l.take (zcB zgY i l)=(hpW i l).1∧(l.drop (zcB zgY i l)).drop 1=(hpW i l).2∧(zcB zgY i l<l.length→l[zcB zgY i l]? =some 58)
 |[],i=>by simp [zcB,hpW]
 |c::l,i=>by
  by_cases d:c=91
  ·have m:=zgF l true
   have e:zgY i c=some true:=if_pos d
   rw [zdP e,zgZ,if_neg (by rw [d];exact fun g=>absurd g.1 (by decide)),if_pos d]
   simpa using m
  ·by_cases f:c=93
   ·have m:=zgF l false
    have e:zgY i c=some false:=(if_neg d).trans (if_pos f)
    rw [zdP e,zgZ,if_neg (by rw [f];exact fun g=>absurd g.1 (by decide)),if_neg d,if_pos f]
    simpa using m
   ·by_cases j:c=58∧i=false
    ·have e:zgY i c=none:=(if_neg d).trans ((if_neg f).trans (if_pos j))
     rw [zhO e,zgZ,if_pos j]
     simp [j.1]
    ·have m:=zgF l i
     have e:zgY i c=some i:=(if_neg d).trans ((if_neg f).trans (if_neg j))
     rw [zdP e,zgZ,if_neg j,if_neg d,if_neg f]
     simpa using m
end
section
open Go.RowKit
theorem u8_nat (c:UInt8):UInt8.ofNat c.toNat=c:=by simp
def zpD (_:Unit) (r:Nat):Bool×Unit:=(!(decide (r=47)||decide (r=92)),())
def yaL (_:Unit) (c:UInt8):Option Unit:=if (!zcY c)=true then none else some ()
theorem zoL (c:UInt8):zcY c=(decide (c.toNat=47)||decide (c.toNat=92)):=by
 unfold zcY
 rw [Bool.eq_iff_iff]
 simp only [Bool.or_eq_true,beq_iff_eq,decide_eq_true_eq,←UInt8.toNat_inj]
 exact Iff.rfl
theorem z9X:zuY zpD yaL where
 low _ c _:=by unfold yaL zpD;rw [zoL]
 high:= .inl ⟨fun _ r h=>by unfold zpD;simp;omega,fun _ c h=>by
  unfold yaL
  rw [if_pos]
  rw [zoL,ylA (by omega),ylA (by omega)];rfl⟩
def yaD (of_:List UInt8) (_:Unit) (r:Nat):Bool×Unit:=(decide (r<128)&&hasB of_ (UInt8.ofNat r),())
def ybW (of_:List UInt8) (_:Unit) (c:UInt8):Option Unit:=if hasB of_ c=true then none else some ()
theorem ydP {of_:List UInt8} (h: ∀c∈of_,c.toNat<128):zuY (yaD of_) (ybW of_) where
 low _ c d:=by unfold ybW yaD;rw [decide_eq_true d,u8_nat];rfl
 high:= .inr ⟨fun _ r f=>by unfold yaD;rw [ylA (by omega)];rfl,fun _ c d=>by
  unfold ybW
  rw [if_neg]
  intro g
  have:c∈of_:=by simpa [hasB] using g
  have:=h c this
  omega⟩
theorem ydD (of_:List UInt8) (l:List UInt8):zcB (ybW of_) () l=l.findIdx (hasB of_):=zjU (hasB of_) l
def zsM (w:Bool) (r:Nat):Bool×Bool:=(!(zcF r||(w&&(zaX r||(decide (r=43)||decide (r=45)||decide (r=46))))),true)
theorem yfK:zuY zsM schS where
 low w c _:=by
  have e:(c==43||c==45||c==46)=(decide (c.toNat=43)||decide (c.toNat=45)||decide (c.toNat=46)):=by
   rw [Bool.eq_iff_iff]
   simp only [Bool.or_eq_true,beq_iff_eq,decide_eq_true_eq,←UInt8.toNat_inj]
   exact Iff.rfl
  unfold schS zsM
  rw [e]
  cases (zcF ↑c.toNat||w&&(zaX ↑c.toNat||(decide (c.toNat=43)||decide (c.toNat=45)||decide (c.toNat=46))))<;>rfl
 high:=by
  have key: ∀(w:Bool) (r:Nat),128≤r→(zcF r||(w&&(zaX r||(decide (r=43)||decide (r=45)||decide (r=46)))))=false:=fun w r h=>by
   rw [show zcF (r:Int)=false from ylA (by omega),show zaX (r:Int)=false from ylA (by omega),ylA (by omega),ylA (by omega),ylA (by omega)]
   cases w<;>rfl
  refine .inl ⟨fun w r h=>by unfold zsM;rw [key w r h];rfl,fun w c h=> ?_⟩
  have e:(c==43||c==45||c==46)=(decide (c.toNat=43)||decide (c.toNat=45)||decide (c.toNat=46)):=by
   rw [Bool.eq_iff_iff]
   simp only [Bool.or_eq_true,beq_iff_eq,decide_eq_true_eq,←UInt8.toNat_inj]
   exact Iff.rfl
  unfold schS
  rw [e,key w _ h]
  rfl
def inH (i:Bool) (r:Nat):Bool:=if r=91 then true else if r=93 then false else i
def zoN (i:Bool) (r:Nat):Bool×Bool:=(decide (r=58)&& !inH i r,inH i r)
theorem z8Z:zuY zoN zgY where
 low i c _:=by
  have f:c=91↔c.toNat=91:=by rw [←UInt8.toNat_inj];exact Iff.rfl
  have o:c=93↔c.toNat=93:=by rw [←UInt8.toNat_inj];exact Iff.rfl
  have A:c=58↔c.toNat=58:=by rw [←UInt8.toNat_inj];exact Iff.rfl
  unfold zgY zoN inH
  by_cases j:c.toNat=91
  ·simp [f,j]
  ·by_cases m:c.toNat=93
   ·simp [f,o,m]
   ·simp only [f,o,A,j,m,if_false]
    cases i<;>by_cases B:c.toNat=58<;>simp [B]
 high:= .inr ⟨fun i r h=>by unfold zoN inH;rw [ylA (by omega),if_neg (by omega),if_neg (by omega)];rfl,fun i c h=>by
  have e: ∀d:UInt8,d.toNat<128→c≠d:=fun d C g=>by rw [g] at h;omega
  unfold zgY
  rw [if_neg (e 91 (by decide)),if_neg (e 93 (by decide)),if_neg (fun g=>e 58 (by decide) g.1)]⟩
theorem ygV (b:Nat) (o:b<128) (s:ByteArray) (h: ∀k (h:k<s.size),s[k].toNat≠b): ∀r∈scal s,r≠(b:Int):=by
 have key: ∀f p,∀r∈zlK s f p,r≠(b:Int):=by
  intro f
  induction f with
  |zero=>intro p x d;simp [zlK] at d
  |succ f m=>
   intro p x d
   by_cases i:p<s.size
   ·rw [zkP s f p i] at d
    rcases List.mem_cons.1 d with rfl|d
    ·by_cases j:(s[p]'i).toNat<128
     ·rw [decode_ascii s p i j]
      have:=h p i
      simp only
      omega
     ·have:=(decode_high s p i (by omega)).1
      omega
    ·exact m _ x d
   ·rw [znW s _ p i] at d;simp at d
 exact key _ _
theorem ydB {p:List UInt8} {c:UInt8} (d:c.toNat<128) (h:c∉p): ∀r∈scal ⟨p.toArray⟩,r≠(c.toNat:Int):=by
 refine ygV c.toNat d _ (fun k f e=>h ?_)
 have i:(ByteArray.mk p.toArray)[k]=p[k]'(by simpa [ByteArray.size] using f):=rfl
 rw [i] at e
 rw [←UInt8.toNat_inj.1 e]
 exact List.getElem_mem _
theorem yfC (st:Int) (m:0≤st) (j:st≤5) (l:List Int): ∀b∈encB st l,b=37∨(∃n,n<16∧b=hexN n)∨(b.toNat:Int)∈l:=by
 intro b d
 obtain ⟨r,i,d⟩:=List.mem_flatMap.1 d
 cases f:inB st r with
 |true=>
  have e:encP st r=pctL (Lib.encodeRune r):=by unfold encP;rw [f];rfl
  rw [e] at d
  obtain ⟨c,_,d⟩:=List.mem_flatMap.1 d
  have A:=c.toNat_lt
  simp only [pctB,List.mem_cons,List.not_mem_nil,or_false] at d
  rcases d with rfl|rfl|rfl
  ·exact .inl rfl
  ·exact .inr (.inl ⟨_,by omega,rfl⟩)
  ·exact .inr (.inl ⟨_,by omega,rfl⟩)
 |false=>
  have e:encP st r=Lib.encodeRune r:=by unfold encP;rw [f];rfl
  have o:=zsJ m j f
  rw [e,zlB (by omega) (by omega)] at d
  simp only [List.mem_cons,List.not_mem_nil,or_false] at d
  subst d
  rw [u8_of r (by omega) (by omega),Int.toNat_of_nonneg (by omega)]
  exact .inr (.inr i)
theorem ybG: ∀n:Fin 16,hexN n.val≠47∧hexN n.val≠92:=by decide+kernel
theorem z6V {st:Int} (j:0≤st) (f:st≤5) {p:List UInt8} {c:UInt8} (d:c=47∨c=92) (h:c∉p):c∉encW st p:=by
 intro g
 rcases yfC st j f _ c g with e|⟨n,i,e⟩|e
 ·rcases d with rfl|rfl<;>cases e
 ·have:=ybG ⟨n,i⟩
  rcases d with rfl|rfl
  ·exact this.1 e.symm
  ·exact this.2 e.symm
 ·exact ydB (by rcases d with rfl|rfl<;>decide) h _ e rfl
theorem zqM {st:Int} (i:0≤st) (d:st≤5) {p:List UInt8} {c:UInt8} (f:inB st (c.toNat:Int)=true):c∉encW st p:=fun g=>by
 have:=(z5F st i d _ c g).2
 rw [f] at this;cases this
theorem z7C (p:UInt8→Bool) (l:List UInt8):(∀x∈(spl p l).1,∀c∈x,p c=false)∧ ∀c∈(spl p l).2,p c=false:=by
 have key: ∀(l:List UInt8) (st:List (List UInt8)×List UInt8),(∀x∈st.1,∀c∈x,p c=false)→(∀c∈st.2,p c=false)→(∀x∈(l.foldl (zbD p) st).1,∀c∈x,p c=false)∧ ∀c∈(l.foldl (zbD p) st).2,p c=false:=by
  intro l
  induction l with
  |nil=>intro st j m;exact ⟨j,m⟩
  |cons c l B=>
   intro st j m
   rw [List.foldl_cons]
   refine B _ ?_ ?_
   ·intro x f
    unfold zbD at f
    split at f
    ·rcases List.mem_append.1 f with f|f
     ·exact j x f
     ·rw [List.mem_singleton] at f;rw [f];exact m
    ·exact j x f
   ·intro d i
    unfold zbD at i
    split at i
    ·cases i
    ·rename_i o
     rcases List.mem_append.1 i with i|i
     ·exact m d i
     ·rw [List.mem_singleton] at i;rw [i];simpa using o
 exact key l ([],[]) (by intro x f;cases f) (by intro c A;cases A)
theorem z9W {p:UInt8→Bool} {l x:List UInt8} (h:x∈zbW p l): ∀c∈x,p c=false:=by
 unfold zbW at h
 rcases List.mem_append.1 h with h|h
 ·exact (z7C p l).1 x h
 ·rw [List.mem_singleton] at h;rw [h];exact (z7C p l).2
theorem zpN (p:UInt8→Bool) (l:List UInt8):zbW p l≠[]:=by simp [zbW]
/-! a path that is read -/
def segB (s:List UInt8):Bool:=yeR s [47,63,35,92]
theorem ycT {p:List UInt8} (h: ∀c∈p,hasB [47,92] c=false):segB (encW 4 p)=true:=by
 refine List.all_eq_true.2 fun c d=> ?_
 have j:c≠47:=fun e=>by
  subst e
  exact z6V (by decide) (by decide) (.inl rfl) (fun g=>by have:=h _ g;revert this;decide) d
 have i:c≠92:=fun e=>by
  subst e
  exact z6V (by decide) (by decide) (.inr rfl) (fun g=>by have:=h _ g;revert this;decide) d
 have f:c≠63:=fun e=>by subst e;exact zqM (by decide) (by decide) (by decide) d
 have m:c≠35:=fun e=>by subst e;exact zqM (by decide) (by decide) (by decide) d
 simp [hasB,Ne.symm j,Ne.symm i,Ne.symm f,Ne.symm m]
theorem z3B {b:Bool} {out:List (List UInt8)} {q:List UInt8} (d:out.all segB=true) (i:segB q=true):(ziF b out q).all segB=true:=by
 have f:out.dropLast.all segB=true:=List.all_eq_true.2 fun x j=>List.all_eq_true.1 d x ((List.dropLast_sublist out).subset j)
 unfold ziF
 split
 ·rw [List.all_append,d];simp [i]
 ·split
  ·rw [List.all_append]
   split
   ·rw [f];rfl
   ·rw [d];rfl
  ·split
   ·exact f
   ·exact d
theorem z5Q: ∀(ps out:List (List UInt8)),out.all segB=true→(∀p∈ps,segB (encW 4 p)=true)→(goW out ps).all segB=true
 |[],_,d,_=>d
 |p::r,_,d,f=>z5Q r _ (z3B d (f p (ylB ..))) (fun x i=>f x (List.mem_cons_of_mem _ i))
theorem zyJ: ∀(ps out:List (List UInt8)),ps≠[]→goW out ps≠[]
 |[],_,h=>absurd rfl h
 |[p],out,_=>by
  show ziF true out _≠[]
  unfold ziF
  split
  ·simp
  ·rw [if_pos rfl];simp
 |p::q::r,out,_=>zyJ (q::r) _ (by simp)
theorem yeD {d:List (List UInt8)} (i:d.all segB=true) (l:List UInt8):(zwX d l).all segB=true∧zwX d l≠[]:=
 ⟨z5Q _ _ i (fun _ f=>ycT (z9W f)),zyJ _ _ (zpN _ _)⟩
/-! a port that is read -/
theorem zzE: ∀(l:List UInt8) (n m:Int),0≤n→zoE n l=some m→0≤m
 |[],n,m,h,e=>by rw [show zoE n []=some n from rfl] at e;rw [←Option.some.inj e];exact h
 |c::r,n,m,h,e=>by
  unfold zoE at e
  split at e
  ·rename_i d
   have d:=of_decide_eq_true d
   exact zzE r _ m (by split<;>omega) e
  ·cases e
theorem yfN (l:List UInt8) (h:zeL l≠ -2): -1≤zeL l∧zeL l≤65535:=by
 unfold zeL at*
 split
 ·omega
 ·rename_i d
  rw [if_neg d] at h
  cases e:zoE 0 l with
  |none=>rw [e] at h;exact absurd rfl h
  |some n=>
   rw [e] at h
   have:=zzE l 0 n (by omega) e
   simp only at h ⊢
   split
   ·rename_i g;rw [if_pos g] at h;exact absurd rfl h
   ·omega
structure zyL (u:UZ):Prop where
 sch:u.scheme=zjR∨u.scheme=zeY
 host:u.host.Ok
 port: -1≤u.port∧u.port≤65535∧u.port≠ownZ u.scheme
 qry:yeR u.query [35]=true
 noQ:u.hasQ=false→u.query=[]
 noF:u.hasF=false→u.frag=[]
theorem zyL.url {u:UZ} (h:zyL u) {p:List (List UInt8)} (d:p.all segB=true∧p≠[]):zjA {u with path:=p}:=
 ⟨h.sch,h.host,h.port,d.2,d.1,h.qry,h.noQ,h.noF⟩
theorem yjO {u:UZ} (h:zjA u) (l:List UInt8):zjA (qryW u l):=by
 unfold qryW
 split
 ·refine ⟨h.sch,h.host,h.port,h.some,h.segs,?_,fun e=>(by cases e),h.noF⟩
  refine List.all_eq_true.2 fun c d=> ?_
  have n:c≠35:=fun e=>by subst e;exact zqM (by decide) (by decide) (by decide) d
  simp [hasB,Ne.symm n]
 ·exact h
theorem yjQ {u:UZ} (h:zjA u) (l:List UInt8):zjA (frgW u l):=by
 unfold frgW
 split
 ·exact ⟨h.sch,h.host,h.port,h.some,h.segs,h.qry,h.noQ,fun e=>by cases e⟩
 ·exact h
theorem zqB {u:UZ} (h:zjA u) (l:List UInt8):zjA (zsN u l):=yjQ (yjO h l) l
theorem znE {u:UZ} (h:zyL u) {f:List (List UInt8)} (d:f.all segB=true) (l:List UInt8):zjA (ziN u f l):=
 zqB (h.url (yeD d _)) _
theorem ygY {s:List UInt8} (h:s=zjR∨s=zeY):ownZ s=80∨ownZ s=443:=by
 rcases h with rfl|rfl
 ·exact .inl rfl
 ·exact .inr rfl
theorem yjD {q n:Int} (d: -1≤q∧q≤65535) (f:n=80∨n=443): -1≤(if q=n then -1 else q)∧(if q=n then -1 else q)≤65535∧(if q=n then -1 else q)≠n:=by
 split
 ·omega
 ·rename_i g;exact ⟨d.1,d.2,g⟩
theorem zqU {name:List UInt8} (f:name=zjR∨name=zeY) (l:List UInt8) (h:(zkO name l).2=0):zjA (zkO name l).1:=by
 unfold zkO at h ⊢
 simp only at h ⊢
 split at h
 ·cases h
 rename_i j
 rw [if_neg j]
 split at h
 ·rename_i g;exact absurd h g
 rename_i d
 rw [if_neg d]
 split at h
 ·cases h
 rename_i i
 rw [if_neg i]
 have m:=yfN _ i
 have o:=ygY f
 refine znE ⟨f,zlQ (Decidable.not_not.1 d),?_,rfl,fun _=>rfl,fun _=>rfl⟩ rfl _
 exact yjD m o
theorem z9G {b:UZ} (d:zjA b) (l:List UInt8) (h:(relW b l).2=0):zjA (relW b l).1:=by
 have f:zyL {zeE with scheme:=b.scheme,user:=b.user,pass:=b.pass,host:=b.host,port:=b.port}:=⟨d.sch,d.host,d.port,rfl,fun _=>rfl,fun _=>rfl⟩
 have j:b.path.dropLast.all segB=true:=List.all_eq_true.2 fun x i=>List.all_eq_true.1 d.segs x ((List.dropLast_sublist _).subset i)
 unfold relW at h ⊢
 simp only at h ⊢
 split
 ·rename_i g;rw [if_pos g] at h;exact zqU d.sch _ h
 split
 ·exact znE f rfl _
 split
 ·refine zqB ?_ _
  exact ⟨d.sch,d.host,d.port,d.some,d.segs,d.qry,d.noQ,fun _=>rfl⟩
 split
 ·refine zqB ?_ _
  exact ⟨d.sch,d.host,d.port,d.some,d.segs,rfl,fun _=>rfl,fun _=>rfl⟩
 ·exact znE f j _
theorem ydA (s:List UInt8) (b:Option UZ) (f: ∀u,b=some u→zjA u) (h:(z1E s b).2=0):zjA (z1E s b).1:=by
 unfold z1E at h ⊢
 split at h
 ·cases h
 ·exact z9G (f _ rfl) _ h
 ·split at h
  ·rename_i g;rw [if_pos g];exact zqU g _ h
  ·cases h
 ·split at h
  ·rename_i g
   rw [if_pos g]
   split at h
   ·rename_i d;rw [if_pos d];exact zqU g _ h
   ·rename_i d;rw [if_neg d];exact z9G (f _ rfl) _ h
  ·cases h
theorem z9K (t:List UInt8) (b:Option UZ) (d: ∀u,b=some u→zjA u) (h:(zfC t b).2=0):zjA (zfC t b).1:=by
 unfold zfC at h ⊢
 split at h
 ·cases h
 ·rename_i g;rw [if_neg g];exact ydA _ b d h
theorem zyV {p:UInt8→Bool} {a r:List UInt8} (i: ∀c∈a,p c=false) (j: ∀d f,r=d::f→p d=true):(a++r).findIdx p=a.length:=by
 induction a with
 |nil=>
  cases r with
  |nil=>rfl
  |cons d f=>rw [List.nil_append,List.findIdx_cons,j d f rfl];rfl
 |cons c a m=>
  rw [List.cons_append,List.findIdx_cons,i c (ylB ..),m (fun x o=>i x (List.mem_cons_of_mem _ o))]
  rfl
theorem ydZ {l:List UInt8} (h:(64:UInt8)∉l):atW l=none:=by
 unfold atW
 have:l.reverse.findIdx (· ==64)=l.reverse.length:=by
  have:=zyV (p:=(· ==64)) (a:=l.reverse) (r:=[]) (fun c f=>by simp only [beq_eq_false_iff_ne];exact fun e=>h (e▸List.mem_reverse.1 f)) (fun d i e=>by cases e)
  rwa [List.append_nil] at this
 rw [this,List.length_reverse,if_neg (by omega)]
theorem ydK {a d:List UInt8} (h:(64:UInt8)∉d):atW (a++64::d)=some a.length:=by
 unfold atW
 have:(a++64::d).reverse.findIdx (· ==64)=d.reverse.length:=by
  rw [List.reverse_append,List.reverse_cons,List.append_assoc]
  exact zyV (fun c f=>by simp only [beq_eq_false_iff_ne];exact fun e=>h (e▸List.mem_reverse.1 f)) (fun x i e=>by rw [List.singleton_append] at e;rw [←(List.cons.inj e).1];rfl)
 rw [this,List.length_reverse,if_pos (by simp;omega)]
 congr 1
 simp
theorem zzM (l:List UInt8):(ziR l).length≤(l.dropWhile zcW).length:=by
 unfold ziR
 rw [List.length_reverse]
 exact Nat.le_trans (List.dropWhile_sublist _).length_le (by rw [List.length_reverse];exact Nat.le_refl _)
end
end Go.Proofs.YtegmcmgndllmaaaGreatDoor
