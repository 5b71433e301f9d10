/-
  What the law ResolveMeets leans on, and its walk (28 of 46).
-/
import Derived.Lib.LastIndexByte
import Derived.Test.YtmjappnpedjlnaaGreatDoorResolveMeetsPkV
import Derived.Test.YtmjappnpedjlnaaGreatDoorResolveMeetsPkb
namespace Go.Proofs.YtmjappnpedjlnaaGreatDoor
set_option maxRecDepth 100000
set_option maxHeartbeats 16000000
section
open Go.RowKit
theorem z4K {q:UInt8→Bool} {l:List UInt8} (h:l.findIdx q<l.length): ∃c,l=l.take (l.findIdx q)++c::l.drop (l.findIdx q+1)∧q c=true∧ ∀d∈l.take (l.findIdx q),q d=false:=by
 refine ⟨l[l.findIdx q],?_,List.findIdx_getElem,fun d hd=> ?_⟩
 ·rw [←List.drop_eq_getElem_cons h,List.take_append_drop]
 ·obtain ⟨j,hj,rfl⟩:=List.getElem_of_mem hd
  have hj':j<l.findIdx q:=by rw [List.length_take] at hj;omega
  rw [List.getElem_take]
  exact List.not_of_lt_findIdx hj'
theorem z6N {q:UInt8→Bool} {l:List UInt8} (h: ¬l.findIdx q<l.length): ∀d∈l,q d=false:=fun d hd=>by
 have:=List.findIdx_lt_length_of_exists (p:=q) (xs:=l)
 cases e:q d with
 |false=>rfl
 |true=>exact absurd (this ⟨d,hd,e⟩) h
theorem zzZ (b:UInt8) (l:List UInt8):Lib.cut l [b]=(l.take (l.findIdx (· ==b)),l.drop (l.findIdx (· ==b)+1),decide (l.findIdx (· ==b)<l.length)):=by
 by_cases h:l.findIdx (· ==b)<l.length
 ·obtain ⟨c,e,hc,hn⟩:=z4K h
  have hcb:c=b:=by simpa using hc
  subst hcb
  have:=z0B (b:=c) (a:=l.take (l.findIdx (· ==c))) (l.drop (l.findIdx (· ==c)+1)) (fun g=>by have:=hn _ g;simp at this)
  rw [←e] at this
  rw [this,decide_eq_true h]
 ·have hn:=z6N h
  rw [z0Z (fun g=>by have:=hn _ g;simp at this),decide_eq_false h,List.take_of_length_le (by omega),List.drop_eq_nil_of_le (by omega)]
theorem zsS (l:List UInt8) (j:Nat) (h:j<l.length):(ByteArray.mk l.toArray).data[j]! =l[j]:=by simp [h]
theorem u8_int {c:UInt8} (h:(c.toNat:Int)=64):c=64:=UInt8.toNat_inj.1 (by show c.toNat=64;omega)
theorem ynM (l:List UInt8):(Lib.lastIndexByte ⟨l.toArray⟩ 64= -1∧atW l=none)∨ ∃i:Nat,i<l.length∧Lib.lastIndexByte ⟨l.toArray⟩ 64=i∧atW l=some i:=by
 have hsz:(ByteArray.mk l.toArray).size=l.length:=by simp [ByteArray.size]
 rcases Lib.lastIndexByte_spec ⟨l.toArray⟩ 64 with ⟨h1,h2⟩|⟨i,h1,h2,h3,h4⟩
 ·refine .inl ⟨h1,yhP fun g=> ?_⟩
  obtain ⟨j,hj,e⟩:=List.getElem_of_mem g
  have:=h2 j (by rw [hsz];exact hj)
  rw [zsS l j hj,e] at this
  exact this rfl
 ·rw [hsz] at h1
  refine .inr ⟨i,h1,h2,?_⟩
  rw [zsS l i h1] at h3
  have e:l=l.take i++64::l.drop (i+1):=by
   rw [←u8_int h3,←List.drop_eq_getElem_cons h1,List.take_append_drop]
  have hn:(64:UInt8)∉l.drop (i+1):=fun g=>by
   obtain ⟨j,hj,e⟩:=List.getElem_of_mem g
   rw [List.length_drop] at hj
   rw [List.getElem_drop] at e
   have:=h4 (i+1+j) (by omega) (by rw [hsz];omega)
   rw [zsS l _ (by omega),e] at this
   exact this rfl
  have:=yfV (a:=l.take i) hn
  rw [←e,List.length_take,Nat.min_eq_left (by omega)] at this
  exact this
theorem ynE (s:Int):encW s []=[]:=rfl
theorem yhQ (l:List UInt8) {i:Nat} (h:atW l=some i):zjK l=encW 5 (Lib.cut (l.take i) [58]).1∧zjR l=encW 5 (Lib.cut (l.take i) [58]).2.1∧zcQ l=l.drop (i+1):=by
 unfold zjK zjR zcQ
 rw [h,zzZ]
 refine ⟨rfl,?_,rfl⟩
 simp only
 split
 ·rfl
 ·rw [List.drop_eq_nil_of_le (by omega)];exact (ynE 5).symm
theorem yeC (l:List UInt8) (h:atW l=none):zjK l=[]∧zjR l=[]∧zcQ l=l:=by
 unfold zjK zjR zcQ
 rw [h];exact ⟨rfl,rfl,rfl⟩
def finC (u:UZ) (l:List UInt8):UZ:=
 if l.head? =some 63 then
  (if ((l.drop 1).drop ((l.drop 1).findIdx (hasB [35]))).head? =some 35 then {u with query:=encW 3 ((l.drop 1).take ((l.drop 1).findIdx (hasB [35]))),hasQ:=true,frag:=encW 1 (((l.drop 1).drop ((l.drop 1).findIdx (hasB [35]))).drop 1),hasF:=true}
   else {u with query:=encW 3 ((l.drop 1).take ((l.drop 1).findIdx (hasB [35]))),hasQ:=true})
 else if l.head? =some 35 then {u with frag:=encW 1 (l.drop 1),hasF:=true} else u
theorem has35:hasB [35]=fun c=>c==35:=by
 funext c
 have:(35==c)=(c==35):=by rw [Bool.eq_iff_iff,beq_iff_eq,beq_iff_eq];exact eq_comm
 simp [hasB,this]
theorem ztE {q:UInt8→Bool} (l:List UInt8):(l.drop (l.findIdx q)).head? =if h:l.findIdx q<l.length then some l[l.findIdx q] else none:=by
 split
 ·rename_i h;rw [List.drop_eq_getElem_cons h];rfl
 ·rename_i h;rw [List.drop_eq_nil_of_le (by omega)];rfl
theorem zmM (u:UZ) {l:List UInt8} (h:l=[]∨l.head? =some 63∨l.head? =some 35):finC u l=ziY u l:=by
 unfold finC ziY frgW
 rw [has35]
 match l,h with
 |[],_=>simp [qryW]
 |c::r,h=>
  have hc:c=63∨c=35:=by simpa using h
  rcases hc with rfl|rfl
  ·have e1:(63::r).findIdx (fun c=>c==(35:UInt8))=r.findIdx (fun c=>c==35)+1:=by rw [List.findIdx_cons];rfl
   have e2:qryW u (63::r)={u with query:=encW 3 (r.take (r.findIdx (fun c=>c==35))),hasQ:=true}:=by
    unfold qryW
    rw [if_pos (show (63::r).head? =some 63 from rfl),e1];rfl
   rw [if_pos (show (63::r).head? =some 63 from rfl),e1,e2,List.drop_succ_cons,List.drop_zero,ztE]
   by_cases hf:r.findIdx (fun c=>c==35)<r.length
   ·have h35:r[r.findIdx (fun c=>c==35)]=35:=by have:=List.findIdx_getElem (w:=hf);simpa using this
    rw [dif_pos hf,h35,if_pos rfl,if_pos (by simp only [List.length_cons];omega),List.drop_drop]
    rfl
   ·rw [dif_neg hf,if_neg (by simp),if_neg (by simp only [List.length_cons];omega)]
  ·have e1:(35::r).findIdx (fun c=>c==(35:UInt8))=0:=rfl
   have e2:qryW u (35::r)=u:=by unfold qryW;rw [if_neg (by simp)]
   rw [if_neg (by simp),if_pos (show (35::r).head? =some 35 from rfl),e1,e2,if_pos (by simp)]
def digP:Int→List UInt8→Option Int
 |n,[]=>some n
 |n,c::r=>if zbC c.toNat=true then digP (min (10*n+((c.toNat:Int) - 48)) 65536) r else none
theorem z1P: ∀(l:List UInt8) (n m:Int),n=m∨(65535<n∧n≤65536∧65535<m)→(digP n l=none∧zpE m l=none)∨ ∃a b,digP n l=some a∧zpE m l=some b∧(a=b∨(65535<a∧a≤65536∧65535<b))
 |[],n,m,h=> .inr ⟨n,m,rfl,rfl,h⟩
 |c::r,n,m,h=>by
  cases hd:zbC c.toNat with
  |false=>exact .inl ⟨by rw [digP,if_neg (by rw [hd];decide)],by rw [zpE,if_neg (by rw [hd];decide)]⟩
  |true=>
   have h48:48≤(c.toNat:Int)∧(c.toNat:Int)≤57:=by simpa [zbC] using hd
   rw [digP,if_pos hd,zpE,if_pos hd]
   refine z1P r _ _ ?_
   split<;>omega
theorem ydN: ∀(l:List UInt8) (n m:Int),0≤n→n≤65536→digP n l=some m→0≤m∧m≤65536
 |[],n,m,h0,h1,h=>by simp [digP] at h;omega
 |c::r,n,m,h0,h1,h=>by
  rw [digP] at h
  split at h
  ·rename_i hd
   have h48:48≤(c.toNat:Int)∧(c.toNat:Int)≤57:=by simpa [zbC] using hd
   exact ydN r _ m (by omega) (by omega) h
  ·cases h
def zhJ (name l:List UInt8):Int×Bool:=
 match digP 0 l with
 |none=>(0,false)
 |some n=>if 65535<n then (0,false) else if l=[]∨n=ownZ name then (-1,true) else (n,true)
theorem z9G (name l:List UInt8) (_hn:ownZ name=80∨ownZ name=443):(zkX l= -2∧(zhJ name l).2=false)∨(zkX l≠ -2∧zhJ name l=(if zkX l=ownZ name then -1 else zkX l,true)):=by
 unfold zhJ zkX
 by_cases h0:l=[]
 ·subst h0
  right
  simp [digP]
 ·rw [if_neg h0]
  rcases z1P l 0 0 (.inl rfl) with ⟨e1,e2⟩|⟨a,b,e1,e2,hab⟩
  ·left;rw [e1,e2];exact ⟨rfl,rfl⟩
  ·rw [e1,e2]
   have ha:=ydN l 0 a (by omega) (by omega) e1
   simp only [h0,false_or]
   rcases hab with rfl|⟨q1,q2,q3⟩
   ·by_cases h:65535<a
    ·left;rw [if_pos h,if_pos h];exact ⟨rfl,rfl⟩
    ·right
     rw [if_neg h,if_neg (by omega)]
     refine ⟨by omega,?_⟩
     split<;>rfl
   ·left;rw [if_pos q1,if_pos q3];exact ⟨rfl,rfl⟩
theorem z6X:zfI []=(.none,6):=by
 show ziW (zcT (decB []))=_
 rw [show decB []=[] from rfl,show zcT []=([],6) by decide+kernel]
 rfl
def zlL (name a:List UInt8):UZ×Int:=
 if (zfI (hpW false (zcQ a)).1).2≠0 then (zcD,(zfI (hpW false (zcQ a)).1).2)
 else if (zhJ name (hpW false (zcQ a)).2).2=false then (zcD,8)
 else ({zcD with scheme:=name,user:=zjK a,pass:=zjR a,host:=(zfI (hpW false (zcQ a)).1).1,port:=(zhJ name (hpW false (zcQ a)).2).1},0)
theorem z5J (name l:List UInt8) (hn:ownZ name=80∨ownZ name=443):
  zeR name l=if (zlL name (l.take (l.findIdx (hasB [47,92,63,35])))).2≠0 then (zcD,(zlL name (l.take (l.findIdx (hasB [47,92,63,35])))).2) else (zcV (zlL name (l.take (l.findIdx (hasB [47,92,63,35])))).1 [] (offW (l.drop (l.findIdx (hasB [47,92,63,35])))),0):=by
 unfold zeR zlL
 simp only
 generalize l.take (l.findIdx (hasB [47,92,63,35]))=a
 generalize l.drop (l.findIdx (hasB [47,92,63,35]))=rest
 by_cases h0:(hpW false (zcQ a)).1=[]
 ·rw [if_pos h0,h0,z6X];simp
 ·rw [if_neg h0]
  by_cases h1:(zfI (hpW false (zcQ a)).1).2≠0
  ·rw [if_pos h1,if_pos h1,if_pos h1]
  ·rw [if_neg h1,if_neg h1]
   rcases z9G name (hpW false (zcQ a)).2 hn with ⟨e1,e2⟩|⟨e1,e2⟩
   ·rw [if_pos e1,if_pos e2];simp
   ·rw [if_neg e1,e2];simp
def zbE (l:List UInt8):Nat:=zbY (fun (_:Unit) c=>if (!zcJ c)=true then none else some ()) () l
theorem zjV (l:List UInt8):l.drop (zbE l)=zeO l:=ycT l
theorem zuZ (l:List UInt8):zbE l=l.findIdx fun c=> !zcJ c:=zkJ (fun c=> !zcJ c) l
theorem z0J {l:List UInt8}:zbE l=0↔zeL l=false:=by
 rw [zuZ]
 match l with
 |[]=>simp [zeL]
 |c::r=>rw [List.findIdx_cons];cases h:zcJ c<;>simp [zeL,h]
theorem zmH {l:List UInt8}:1<zbE l↔zeL l=true∧zeL (l.drop 1)=true:=by
 rw [zuZ]
 match l with
 |[]=>simp [zeL]
 |[c]=>rw [List.findIdx_cons];cases h:zcJ c<;>simp [zeL,h]
 |c::d::r=>rw [List.findIdx_cons,List.findIdx_cons];cases h:zcJ c<;>cases h2:zcJ d<;>simp [zeL,h,h2]
theorem ybO {r:List UInt8} (h:r.take 2=[47,47]):1<zbE r:=by
 match r,h with
 |a::b::r,h=>
  have:a=47∧b=47:=by simpa using h
  rw [zmH,this.1,this.2];exact ⟨rfl,rfl⟩
def zbS (b:UZ):UZ:={zcD with scheme:=b.scheme,user:=b.user,pass:=b.pass,host:=b.host,port:=b.port}
def relC (b:UZ) (rooted:Bool) (l:List UInt8):UZ:=
 if rooted=true then zcV (zbS b) [] l
 else if l=[]∨l.head? =some 35 then ziY {zbS b with path:=b.path,query:=b.query,hasQ:=b.hasQ} l
 else if l.head? =some 63 then ziY {zbS b with path:=b.path} l
 else zcV (zbS b) b.path.dropLast l
theorem z0L (b:UZ) (l:List UInt8) (h: ¬1<zbE l):relW b l=(relC b (decide (zbE l≠0)) (zeO l),0):=by
 unfold relW relC
 rw [if_neg (fun g=>h (zmH.2 g))]
 simp only
 cases h1:zeL l with
 |true=>
  have h2:zbE l≠0:=fun g=>by rw [z0J.1 g] at h1;cases h1
  have h3:zeO l=l.drop 1:=by rw [←zjV,show zbE l=1 by omega]
  rw [if_pos rfl,if_pos (decide_eq_true h2),h3];rfl
 |false=>
  have h2:zbE l=0:=z0J.2 h1
  have h3:zeO l=l:=by rw [←zjV,h2];rfl
  have hd:decide (zbE l≠0)=false:=by rw [h2];rfl
  rw [h3,hd]
  simp only [Bool.false_eq_true,if_false]
  by_cases g1:l=[]∨l.head? =some 35
  ·rw [if_pos g1,if_pos g1];rfl
  ·rw [if_neg g1,if_neg g1]
   by_cases g2:l.head? =some 63
   ·rw [if_pos g2,if_pos g2];rfl
   ·rw [if_neg g2,if_neg g2];rfl
def zfN (s:List UInt8) (b:Option UZ):List UInt8:=match schW s,b with
 |some p,_=>p.1
 |none,some b=>b.scheme
 |none,none=>[]
def zfD (s:List UInt8):List UInt8:=match schW s with
 |some p=>p.2
 |none=>s
def zxH (s:List UInt8) (b:Option UZ):UZ×Int:=
 if ownZ (zfN s b)=0 then (zcD,5)
 else match b with
  |none=>zeR (zfN s b) (zeO (zfD s))
  |some b'=>if b'.scheme≠zfN s b∨1<zbE (zfD s) then zeR (zfN s b) (zeO (zfD s)) else (relC b' (decide (zbE (zfD s)≠0)) (zeO (zfD s)),0)
theorem z5M {n:List UInt8}:ownZ n=0↔ ¬(n=zjL∨n=zfH):=by
 unfold ownZ
 by_cases h1:n=zjL
 ·simp [h1]
 ·rw [if_neg h1]
  by_cases h2:n=zfH<;>simp [h1,h2]
theorem z8L (s:List UInt8) (b:Option UZ) (hb: ∀u,b=some u→u.scheme=zjL∨u.scheme=zfH):zxH s b=zsH s b:=by
 unfold zxH zsH zfN zfD
 match hs:schW s,b with
 |none,none=>rw [if_pos (by decide)]
 |none,some b=>
  have hbs:=hb b rfl
  simp only
  rw [if_neg (fun g=>z5M.1 g hbs)]
  by_cases h2:1<zbE s
  ·rw [if_pos (.inr h2)]
   unfold relW
   rw [if_pos (zmH.1 h2)]
  ·rw [if_neg (by simp [h2]),z0L b s h2]
 |some (n,r),none=>
  simp only
  by_cases h:n=zjL∨n=zfH
  ·rw [if_neg (fun g=>z5M.1 g h),if_pos h]
  ·rw [if_pos (z5M.2 h),if_neg h]
 |some (n,r),some b=>
  simp only
  by_cases h:n=zjL∨n=zfH
  ·rw [if_neg (fun g=>z5M.1 g h),if_pos h]
   by_cases h3:b.scheme≠n
   ·rw [if_pos (.inl h3),if_pos (.inl h3)]
   ·have h3':b.scheme=n:=Decidable.not_not.1 h3
    by_cases h2:1<zbE r
    ·rw [if_pos (.inr h2)]
     split
     ·rfl
     ·unfold relW;rw [if_pos (zmH.1 h2),h3']
    ·rw [if_neg (by simp [h3',h2]),if_neg (by rintro (g|g);exact h3 g;exact h2 (ybO g)),z0L b r h2]
  ·rw [if_pos (z5M.2 h),if_neg h]
end
end Go.Proofs.YtmjappnpedjlnaaGreatDoor
