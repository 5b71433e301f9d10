/-
  What the law WhatwgReads leans on, and its walk (17 of 29).
-/
import Derived.Test.YthacmlahnpdeeaaGreatDoorWhatwgReadsPkM
import Derived.Test.YthacmlahnpdeeaaGreatDoorWhatwgReadsPkP
import Derived.Test.YthacmlahnpdeeaaGreatDoorWhatwgReadsPkH
import Derived.Test.YthacmlahnpdeeaaGreatDoorWhatwgReadsPkB
namespace Go.Proofs.YthacmlahnpdeeaaGreatDoor
set_option maxRecDepth 100000
set_option maxHeartbeats 16000000
abbrev ydQ := @decide_eq_false
section
open Go.RowKit
structure UZ where
 scheme:List UInt8
 user:List UInt8
 pass:List UInt8
 host:HZ
 port:Int
 path:List (List UInt8)
 query:List UInt8
 hasQ:Bool
 frag:List UInt8
 hasF:Bool
def zlA:List UInt8:=[104,116,116,112]
def zgN:List UInt8:=[104,116,116,112,115]
def ownZ (s:List UInt8):Int:=if s=zlA then 80 else if s=zgN then 443 else 0
theorem z2I {b:UInt8}: ∀{l:List UInt8},b∉l→Lib.index l [b]= -1
 |[],_=>rfl
 |c::l,h=>by
  have hc: ¬b=c:=fun e=>h (e▸List.mem_cons_self ..)
  have ih:=z2I (l:=l) (fun g=>h (List.mem_cons_of_mem _ g))
  unfold Lib.index
  rw [ih]
  simp [List.isPrefixOf,hc]
theorem z3O {b:UInt8}: ∀{a:List UInt8} (d:List UInt8),b∉a→Lib.index (a++b::d) [b]=a.length
 |[],d,_=>by
  show Lib.index (b::d) [b]=_
  unfold Lib.index;simp [List.isPrefixOf]
 |c::a,d,h=>by
  have hc: ¬b=c:=fun e=>h (e▸List.mem_cons_self ..)
  have ih:=z3O (a:=a) d (fun g=>h (List.mem_cons_of_mem _ g))
  show Lib.index (c::(a++b::d)) [b]=_
  unfold Lib.index
  rw [ih]
  have h1:(([b]:List UInt8).isPrefixOf (c::(a++b::d)))=false:=by simp [List.isPrefixOf,hc]
  have h2:((a.length:Int)== -1)=false:=by rw [beq_eq_false_iff_ne];omega
  rw [h1,h2]
  simp
theorem z7S {b:UInt8} {l:List UInt8} (h:b∉l):Lib.cut l [b]=(l,[],false):=by
 unfold Lib.cut;rw [z2I h];rfl
theorem z7E {b:UInt8} {a:List UInt8} (d:List UInt8) (h:b∉a):Lib.cut (a++b::d) [b]=(a,d,true):=by
 unfold Lib.cut;rw [z3O d h,if_pos (by omega)]
 simp
def encW (s:Int) (l:List UInt8):List UInt8:=encB s (scal ⟨l.toArray⟩)
def zbQ (c:UInt8):Bool:=c==47||c==92
def schC (c:UInt8):Bool:=zbH c.toNat||zaS c.toNat||c==43||c==45||c==46
def schW (l:List UInt8):Option (List UInt8×List UInt8):=
 if (match l with|[]=>false|c::_=>zbH c.toNat)=true∧l[l.findIdx fun c=> !schC c]? =some 58 then
  some (zaQ (l.take (l.findIdx fun c=> !schC c)),l.drop ((l.findIdx fun c=> !schC c)+1)) else none
def zcW (l:List UInt8):List UInt8:=l.dropWhile zbQ
def ptsN:List UInt8→Option Nat
 |[]=>some 0
 |[c]=>if c=46 then some 1 else none
 |[c,d]=>if c=46∧d=46 then some 2 else none
 |c::d::e::r=>if c=46 then (ptsN (d::e::r)).map (· +1) else if c=37∧d=50∧(e=101∨e=69) then (ptsN r).map (· +1) else none
def ptsW (l:List UInt8):Nat:=match ptsN l with
 |some n=>if n>2 then 0 else n
 |none=>0
def ziG (last:Bool) (out:List (List UInt8)) (q:List UInt8):List (List UInt8):=
 if ptsW q=0 then out++[q] else if last=true then (if ptsW q=2 then out.dropLast else out)++[[]] else if ptsW q=2 then out.dropLast else out
def goW:List (List UInt8)→List (List UInt8)→List (List UInt8)
 |out,[]=>out
 |out,p::r=>goW (ziG r.isEmpty out (encW 4 p)) r
def zkV (from_:List (List UInt8)) (l:List UInt8):List (List UInt8):=goW from_ (zbM (hasB [47,92]) l)
def qryW (u:UZ) (l:List UInt8):UZ:=if l.head? =some 63 then {u with query:=encW 3 ((l.take (l.findIdx (· ==35))).drop 1),hasQ:=true} else u
def frgW (u:UZ) (l:List UInt8):UZ:=if l.findIdx (· ==35)<l.length then {u with frag:=encW 1 (l.drop (l.findIdx (· ==35)+1)),hasF:=true} else u
def zdP (u:UZ) (l:List UInt8):UZ:=frgW (qryW u l) l
def zeA (u:UZ) (from_:List (List UInt8)) (l:List UInt8):UZ:=
 zdP {u with path:=zkV from_ (l.take (l.findIdx (hasB [63,35])))} (l.drop (l.findIdx (hasB [63,35])))
def hpW:Bool→List UInt8→List UInt8×List UInt8
 |_,[]=>([],[])
 |ins,c::r=>
  if c=58∧ins=false then ([],r)
  else (c::(hpW (if c=91 then true else if c=93 then false else ins) r).1,(hpW (if c=91 then true else if c=93 then false else ins) r).2)
def zjH:Int→List UInt8→Option Int
 |n,[]=>some n
 |n,c::r=>if zaS c.toNat=true then zjH (if n≤65535 then 10*n+(c.toNat:Int) - 48 else n) r else none
def zgC (l:List UInt8):Int:=if l=[] then -1 else match zjH 0 l with
 |none=> -2
 |some n=>if n>65535 then -2 else n
def zbO:UZ:=⟨[],[],[],.none,0,[],[],false,[],false⟩
def atW (l:List UInt8):Option Nat:=if l.reverse.findIdx (· ==64)<l.length then some (l.length - 1 - l.reverse.findIdx (· ==64)) else none
def zhM (l:List UInt8):List UInt8:=match atW l with
 |none=>[]
 |some k=>encW 5 ((l.take k).take ((l.take k).findIdx (· ==58)))
def zhO (l:List UInt8):List UInt8:=match atW l with
 |none=>[]
 |some k=>if (l.take k).findIdx (· ==58)<(l.take k).length then encW 5 ((l.take k).drop ((l.take k).findIdx (· ==58)+1)) else []
def zbI (l:List UInt8):List UInt8:=match atW l with
 |none=>l
 |some k=>l.drop (k+1)
def offW (l:List UInt8):List UInt8:=match l with
 |[]=>[]
 |c::r=>if zbQ c=true then r else c::r
def zdV (name l:List UInt8):UZ×Int:=
 let a:=l.take (l.findIdx (hasB [47,92,63,35]))
 let rest:=l.drop (l.findIdx (hasB [47,92,63,35]))
 let hp:=hpW false (zbI a)
 if hp.1=[] then (zbO,6)
 else if (zdC hp.1).2≠0 then (zbO,(zdC hp.1).2)
 else if zgC hp.2= -2 then (zbO,8)
 else (zeA {zbO with scheme:=name,user:=zhM a,pass:=zhO a,host:=(zdC hp.1).1,port:=if zgC hp.2=ownZ name then -1 else zgC hp.2} [] (offW rest),0)
def zdR (l:List UInt8):Bool:=match l with
 |[]=>false
 |c::_=>zbQ c
def relW (b:UZ) (l:List UInt8):UZ×Int:=
 if zdR l=true∧zdR (l.drop 1)=true then zdV b.scheme (zcW l)
 else
  let u:UZ:={zbO with scheme:=b.scheme,user:=b.user,pass:=b.pass,host:=b.host,port:=b.port}
  if zdR l=true then (zeA u [] (l.drop 1),0)
  else if l=[]∨l.head? =some 35 then (zdP {u with path:=b.path,query:=b.query,hasQ:=b.hasQ} l,0)
  else if l.head? =some 63 then (zdP {u with path:=b.path} l,0)
  else (zeA u b.path.dropLast l,0)
def znF (s:List UInt8) (b:Option UZ):UZ×Int:=
 match schW s,b with
 |none,none=>(zbO,5)
 |none,some b=>relW b s
 |some (n,r),none=>if n=zlA∨n=zgN then zdV n (zcW r) else (zbO,5)
 |some (n,r),some b=>if n=zlA∨n=zgN then (if b.scheme≠n∨r.take 2=[47,47] then zdV n (zcW r) else relW b r) else (zbO,5)
def zdY (t:List UInt8) (b:Option UZ):UZ×Int:=if 4096<t.length then (zbO,3) else znF (zfS (zeV t)) b
theorem zpI (u:UZ) (l:List UInt8):(frgW u l).scheme=u.scheme∧(frgW u l).user=u.user∧(frgW u l).pass=u.pass∧(frgW u l).host=u.host∧(frgW u l).port=u.port∧(frgW u l).path=u.path∧(frgW u l).query=u.query∧(frgW u l).hasQ=u.hasQ:=by
 unfold frgW;split<;>exact ⟨rfl,rfl,rfl,rfl,rfl,rfl,rfl,rfl⟩
theorem zoY (u:UZ) (l:List UInt8):(qryW u l).scheme=u.scheme∧(qryW u l).user=u.user∧(qryW u l).pass=u.pass∧(qryW u l).host=u.host∧(qryW u l).port=u.port∧(qryW u l).path=u.path∧(qryW u l).frag=u.frag∧(qryW u l).hasF=u.hasF:=by
 unfold qryW;split<;>exact ⟨rfl,rfl,rfl,rfl,rfl,rfl,rfl,rfl⟩
theorem znY (p:UInt8→Bool) (l:List UInt8):zbM p l≠[]:=by simp [zbM]
/-! a path that is read -/
/-! a port that is read -/
theorem zwS {p:UInt8→Bool} {a r:List UInt8} (ha: ∀c∈a,p c=false) (hr: ∀d r',r=d::r'→p d=true):(a++r).findIdx p=a.length:=by
 induction a with
 |nil=>
  cases r with
  |nil=>rfl
  |cons d r'=>rw [List.nil_append,List.findIdx_cons,hr d r' rfl];rfl
 |cons c a ih=>
  rw [List.cons_append,List.findIdx_cons,ha c (List.mem_cons_self ..),ih (fun x hx=>ha x (List.mem_cons_of_mem _ hx))]
  rfl
theorem zwP {l:List UInt8} (h:(64:UInt8)∉l):atW l=none:=by
 unfold atW
 have:l.reverse.findIdx (· ==64)=l.reverse.length:=by
  have:=zwS (p:=(· ==64)) (a:=l.reverse) (r:=[]) (fun c hc=>by simp only [beq_eq_false_iff_ne];exact fun e=>h (e▸List.mem_reverse.1 hc)) (fun d r' e=>by cases e)
  rwa [List.append_nil] at this
 rw [this,List.length_reverse,if_neg (by omega)]
theorem zwD {a d:List UInt8} (h:(64:UInt8)∉d):atW (a++64::d)=some a.length:=by
 unfold atW
 have:(a++64::d).reverse.findIdx (· ==64)=d.reverse.length:=by
  rw [List.reverse_append,List.reverse_cons,List.append_assoc]
  exact zwS (fun c hc=>by simp only [beq_eq_false_iff_ne];exact fun e=>h (e▸List.mem_reverse.1 hc)) (fun x r' e=>by rw [List.singleton_append] at e;rw [←(List.cons.inj e).1];rfl)
 rw [this,List.length_reverse,if_pos (by simp;omega)]
 congr 1
 simp
theorem zpF (l:List UInt8):(zeV l).length≤(l.dropWhile zcG).length:=by
 unfold zeV
 rw [List.length_reverse]
 exact Nat.le_trans (List.dropWhile_sublist _).length_le (by rw [List.length_reverse];exact Nat.le_refl _)
section
variable {σ:Type}
def zcE (st:σ→UInt8→Option σ):σ→List UInt8→Nat
 |_,[]=>0
 |s,c::l=>match st s c with
  |none=>0
  |some t=>zcE st t l+1
structure zuW (sr:σ→Nat→Bool×σ) (st:σ→UInt8→Option σ):Prop where
 low: ∀s c,c.toNat<128→st s c=if (sr s c.toNat).1=true then none else some (sr s c.toNat).2
 high:((∀s r,128≤r→(sr s r).1=true)∧ ∀s c,128≤c.toNat→st s c=none)∨((∀s r,128≤r→sr s r=(false,s))∧ ∀s c,128≤c.toNat→st s c=some s)
theorem zuA (st:σ→UInt8→Option σ): ∀(l:List UInt8) (s:σ),zcE st s l≤l.length
 |[],_=>Nat.le_refl _
 |c::l,s=>by
  unfold zcE
  split
  ·omega
  ·have:=zuA st l;simp only [List.length_cons];rename_i t _;have:=this t;omega
theorem zgY {st:σ→UInt8→Option σ} {s:σ} {c:UInt8} {l:List UInt8} (h:st s c=none):zcE st s (c::l)=0:=by unfold zcE;rw [h]
theorem zdN {st:σ→UInt8→Option σ} {s t:σ} {c:UInt8} {l:List UInt8} (h:st s c=some t):zcE st s (c::l)=zcE st t l+1:=by conv=>lhs;unfold zcE;rw [h]
theorem zqM {st:σ→UInt8→Option σ} {s:σ}: ∀(k:Nat) (l:List UInt8),(∀j,j<k→ ∃c,l[j]? =some c∧st s c=some s)→zcE st s l=k+zcE st s (l.drop k)
 |0,l,_=>by simp
 |k+1,[],h=>by obtain ⟨c,e,_⟩:=h 0 (by omega);simp at e
 |k+1,c::l,h=>by
  obtain ⟨d,e,hd⟩:=h 0 (by omega)
  simp at e;subst e
  rw [zdN hd,zqM k l (fun j hj=>by have:=h (j+1) (by omega);simpa using this),List.drop_succ_cons]
  omega
theorem z9Z {s:ByteArray} {i:Nat} (h:i<s.size) (hc:128≤zaI s i): ∃c,s.data.toList[i]? =some c∧128≤c.toNat:=⟨s[i],zcI s i h,by rw [←zgD s i h];exact hc⟩
theorem z5R (s:ByteArray) (p:Nat) (h:p<s.size) (hc:128≤s[p].toNat): ∀j,j<(Utf8.decode s p).2→ ∃c,s.data.toList[p+j]? =some c∧128≤c.toNat:=by
 have h0:=zgD s p h
 intro j hj
 rw [zcY] at hj
 have key: ∀n,j<n→(∀i,i<n→p+i<s.size∧128≤zaI s (p+i))→ ∃c,s.data.toList[p+j]? =some c∧128≤c.toNat:=fun n hn H=>z9Z (H j hn).1 (H j hn).2
 have k1: ∀i,i<1→p+i<s.size∧128≤zaI s (p+i):=fun i hi=>by
  obtain rfl:i=0:=by omega
  exact ⟨h,by rw [Nat.add_zero];omega⟩
 split at hj
 ·omega
 ·split at hj
  ·rename_i a
   split at hj
   ·refine key 2 hj (fun i hi=> ?_)
    match i,hi with
    |0,_=>exact k1 0 (by omega)
    |1,_=>exact ⟨a.2.1,by omega⟩
   ·exact key 1 hj k1
  ·split at hj
   ·rename_i a
    split at hj
    ·refine key 3 hj (fun i hi=> ?_)
     match i,hi with
     |0,_=>exact k1 0 (by omega)
     |1,_=>exact ⟨a.1.2.1,by omega⟩
     |2,_=>exact ⟨a.2.1,by omega⟩
    ·exact key 1 hj k1
   ·split at hj
    ·rename_i a
     split at hj
     ·refine key 4 hj (fun i hi=> ?_)
      match i,hi with
      |0,_=>exact k1 0 (by omega)
      |1,_=>exact ⟨a.1.1.2.1,by omega⟩
      |2,_=>exact ⟨a.1.2.1,by omega⟩
      |3,_=>exact ⟨a.2.1,by omega⟩
     ·exact key 1 hj k1
    ·exact key 1 hj k1
theorem z2K {sr:σ→Nat→Bool×σ} {st:σ→UInt8→Option σ} (H:zuW sr st) (s:ByteArray) (p:Nat) (h:p<s.size) (x:σ) (hr:(sr x (Utf8.decode s p).1).1=true):zcE st x (s.data.toList.drop p)=0:=by
 rw [zeH s p h]
 apply zgY
 by_cases hc:s[p].toNat<128
 ·rw [decode_ascii s p h hc] at hr
  rw [H.low x _ hc,if_pos hr]
 ·have hd:=(decode_high s p h (by omega)).1
  rcases H.high with ⟨_,k⟩|⟨k,_⟩
  ·exact k x _ (by omega)
  ·rw [k x _ hd] at hr;cases hr
theorem yaR {sr:σ→Nat→Bool×σ} {st:σ→UInt8→Option σ} (H:zuW sr st) (s:ByteArray) (p:Nat) (h:p<s.size) (x:σ) (hr:(sr x (Utf8.decode s p).1).1=false):
  zcE st x (s.data.toList.drop p)=(Utf8.decode s p).2+zcE st (sr x (Utf8.decode s p).1).2 (s.data.toList.drop (p+(Utf8.decode s p).2)):=by
 by_cases hc:s[p].toNat<128
 ·rw [decode_ascii s p h hc] at hr ⊢
  rw [zeH s p h,zdN (by rw [H.low x _ hc,if_neg (by rw [hr];decide)])]
  exact Nat.add_comm _ _
 ·have hd:=(decode_high s p h (by omega)).1
  rcases H.high with ⟨k,_⟩|⟨k,kb⟩
  ·rw [k x _ hd] at hr;cases hr
  ·rw [k x _ hd]
   have:=zqM (st:=st) (s:=x) (Utf8.decode s p).2 (s.data.toList.drop p) (fun j hj=>by
    obtain ⟨c,e,he⟩:=z5R s p h (by omega) j hj
    exact ⟨c,by rw [List.getElem?_drop];exact e,kb x c he⟩)
   rw [this,List.drop_drop]
end
theorem zjF (q:UInt8→Bool): ∀l:List UInt8,zcE (fun (_:Unit) c=>if q c=true then none else some ()) () l=l.findIdx q
 |[]=>rfl
 |c::l=>by
  cases h:q c with
  |true=>rw [zgY (by rw [if_pos h]),List.findIdx_cons,h];rfl
  |false=>rw [zdN (t:=()) (by rw [if_neg (by rw [h];decide)]),zjF q l,List.findIdx_cons,h];rfl
theorem zoR (q:UInt8→Bool): ∀l:List UInt8,l.drop (l.findIdx fun c=> !q c)=l.dropWhile q
 |[]=>rfl
 |c::l=>by
  rw [List.findIdx_cons,List.dropWhile_cons]
  cases h:q c with
  |true=>simpa using zoR q l
  |false=>simp
theorem z4V (l:List UInt8):l.drop (zcE (fun (_:Unit) c=>if (!zbQ c)=true then none else some ()) () l)=zcW l:=by
 rw [zjF (fun c=> !zbQ c)];exact zoR zbQ l
def schS (w:Bool) (c:UInt8):Option Bool:=if zbH c.toNat||(w&&(zaS c.toNat||(c==43||c==45||c==46))) then some true else none
theorem zqI: ∀l:List UInt8,zcE schS true l=l.findIdx fun c=> !schC c
 |[]=>rfl
 |c::l=>by
  have e:schS true c=if schC c=true then some true else none:=by unfold schS schC;simp only [Bool.true_and,Bool.or_assoc]
  cases h:schC c with
  |true=>rw [zdN (t:=true) (by rw [e,if_pos h]),zqI l,List.findIdx_cons,h];rfl
  |false=>rw [zgY (by rw [e,if_neg (by rw [h];decide)]),List.findIdx_cons,h];rfl
def schN (l:List UInt8):Nat:=zcE schS false l
theorem zsH (l:List UInt8):schW l=if schN l≠0∧l[schN l]? =some 58 then some (zaQ (l.take (schN l)),l.drop (schN l+1)) else none:=by
 unfold schN
 match l with
 |[]=>simp [schW,zcE]
 |c::l=>
  cases h:zbH c.toNat with
  |true=>
   have e1:schS false c=some true:=by unfold schS;rw [h];rfl
   have e2:schC c=true:=by unfold schC;rw [h];rfl
   have e3:(c::l).findIdx (fun c=> !schC c)=zcE schS false (c::l):=by rw [zdN e1,zqI,List.findIdx_cons,e2];rfl
   unfold schW
   rw [e3]
   have e4:zcE schS false (c::l)≠0:=by rw [zdN e1];omega
   simp only [h,true_and,ne_eq,e4,not_false_eq_true]
  |false=>
   have e1:schS false c=none:=by unfold schS;rw [h];rfl
   unfold schW
   rw [zgY e1]
   simp [h]
def zgO (i:Bool) (c:UInt8):Option Bool:=if c=91 then some true else if c=93 then some false else if c=58∧i=false then none else some i
theorem zfR (ins:Bool) (c:UInt8) (r:List UInt8):hpW ins (c::r)=if c=58∧ins=false then ([],r) else (c::(hpW (if c=91 then true else if c=93 then false else ins) r).1,(hpW (if c=91 then true else if c=93 then false else ins) r).2):=by conv=>lhs;unfold hpW
theorem zfN: ∀(l:List UInt8) (i:Bool),l.take (zcE zgO i l)=(hpW i l).1∧(l.drop (zcE zgO i l)).drop 1=(hpW i l).2∧(zcE zgO i l<l.length→l[zcE zgO i l]? =some 58)
 |[],i=>by simp [zcE,hpW]
 |c::l,i=>by
  by_cases h91:c=91
  ·have ih:=zfN l true
   have e:zgO i c=some true:=if_pos h91
   rw [zdN e,zfR,if_neg (by rw [h91];exact fun g=>absurd g.1 (by decide)),if_pos h91]
   simpa using ih
  ·by_cases h93:c=93
   ·have ih:=zfN l false
    have e:zgO i c=some false:=(if_neg h91).trans (if_pos h93)
    rw [zdN e,zfR,if_neg (by rw [h93];exact fun g=>absurd g.1 (by decide)),if_neg h91,if_pos h93]
    simpa using ih
   ·by_cases h58:c=58∧i=false
    ·have e:zgO i c=none:=(if_neg h91).trans ((if_neg h93).trans (if_pos h58))
     rw [zgY e,zfR,if_pos h58]
     simp [h58.1]
    ·have ih:=zfN l i
     have e:zgO i c=some i:=(if_neg h91).trans ((if_neg h93).trans (if_neg h58))
     rw [zdN e,zfR,if_neg h58,if_neg h91,if_neg h93]
     simpa using ih
end
section
open Go.RowKit
theorem u8_nat (c:UInt8):UInt8.ofNat c.toNat=c:=by simp
def zoK (_:Unit) (r:Nat):Bool×Unit:=(!(decide (r=47)||decide (r=92)),())
def z1P (_:Unit) (c:UInt8):Option Unit:=if (!zbQ c)=true then none else some ()
theorem znN (c:UInt8):zbQ c=(decide (c.toNat=47)||decide (c.toNat=92)):=by
 unfold zbQ
 rw [Bool.eq_iff_iff]
 simp only [Bool.or_eq_true,beq_iff_eq,decide_eq_true_eq,←UInt8.toNat_inj]
 exact Iff.rfl
theorem z4I:zuW zoK z1P where
 low _ c _:=by unfold z1P zoK;rw [znN]
 high:= .inl ⟨fun _ r h=>by unfold zoK;simp;omega,fun _ c h=>by
  unfold z1P
  rw [if_pos]
  rw [znN,ydQ (by omega),ydQ (by omega)];rfl⟩
def z2N (of_:List UInt8) (_:Unit) (r:Nat):Bool×Unit:=(decide (r<128)&&hasB of_ (UInt8.ofNat r),())
def z6L (of_:List UInt8) (_:Unit) (c:UInt8):Option Unit:=if hasB of_ c=true then none else some ()
theorem z7J {of_:List UInt8} (h: ∀c∈of_,c.toNat<128):zuW (z2N of_) (z6L of_) where
 low _ c hc:=by unfold z6L z2N;rw [decide_eq_true hc,u8_nat];rfl
 high:= .inr ⟨fun _ r hr=>by unfold z2N;rw [ydQ (by omega)];rfl,fun _ c hc=>by
  unfold z6L
  rw [if_neg]
  intro g
  have:c∈of_:=by simpa [hasB] using g
  have:=h c this
  omega⟩
theorem z7W (of_:List UInt8) (l:List UInt8):zcE (z6L of_) () l=l.findIdx (hasB of_):=zjF (hasB of_) l
def zqF (w:Bool) (r:Nat):Bool×Bool:=(!(zbH r||(w&&(zaS r||(decide (r=43)||decide (r=45)||decide (r=46))))),true)
theorem z7A:zuW zqF schS where
 low w c _:=by
  have e:(c==43||c==45||c==46)=(decide (c.toNat=43)||decide (c.toNat=45)||decide (c.toNat=46)):=by
   rw [Bool.eq_iff_iff]
   simp only [Bool.or_eq_true,beq_iff_eq,decide_eq_true_eq,←UInt8.toNat_inj]
   exact Iff.rfl
  unfold schS zqF
  rw [e]
  cases (zbH ↑c.toNat||w&&(zaS ↑c.toNat||(decide (c.toNat=43)||decide (c.toNat=45)||decide (c.toNat=46))))<;>rfl
 high:=by
  have key: ∀(w:Bool) (r:Nat),128≤r→(zbH r||(w&&(zaS r||(decide (r=43)||decide (r=45)||decide (r=46)))))=false:=fun w r h=>by
   rw [show zbH (r:Int)=false from ydQ (by omega),show zaS (r:Int)=false from ydQ (by omega),ydQ (by omega),ydQ (by omega),ydQ (by omega)]
   cases w<;>rfl
  refine .inl ⟨fun w r h=>by unfold zqF;rw [key w r h];rfl,fun w c h=> ?_⟩
  have e:(c==43||c==45||c==46)=(decide (c.toNat=43)||decide (c.toNat=45)||decide (c.toNat=46)):=by
   rw [Bool.eq_iff_iff]
   simp only [Bool.or_eq_true,beq_iff_eq,decide_eq_true_eq,←UInt8.toNat_inj]
   exact Iff.rfl
  unfold schS
  rw [e,key w _ h]
  rfl
def inH (i:Bool) (r:Nat):Bool:=if r=91 then true else if r=93 then false else i
def zoC (i:Bool) (r:Nat):Bool×Bool:=(decide (r=58)&& !inH i r,inH i r)
theorem z0J:zuW zoC zgO where
 low i c _:=by
  have e1:c=91↔c.toNat=91:=by rw [←UInt8.toNat_inj];exact Iff.rfl
  have e2:c=93↔c.toNat=93:=by rw [←UInt8.toNat_inj];exact Iff.rfl
  have e3:c=58↔c.toNat=58:=by rw [←UInt8.toNat_inj];exact Iff.rfl
  unfold zgO zoC inH
  by_cases h1:c.toNat=91
  ·simp [e1,h1]
  ·by_cases h2:c.toNat=93
   ·simp [e1,e2,h2]
   ·simp only [e1,e2,e3,h1,h2,if_false]
    cases i<;>by_cases h3:c.toNat=58<;>simp [h3]
 high:= .inr ⟨fun i r h=>by unfold zoC inH;rw [ydQ (by omega),if_neg (by omega),if_neg (by omega)];rfl,fun i c h=>by
  have e: ∀d:UInt8,d.toNat<128→c≠d:=fun d hd g=>by rw [g] at h;omega
  unfold zgO
  rw [if_neg (e 91 (by decide)),if_neg (e 93 (by decide)),if_neg (fun g=>e 58 (by decide) g.1)]⟩
end
end Go.Proofs.YthacmlahnpdeeaaGreatDoor
