/-
  What the law AuthorityAgrees leans on, and its walk (28 of 43).
-/
import Derived.Lib.LastIndexByte
import Derived.Test.YtegmcmgndllmaaaGreatDoorAuthorityAgreesPkT
import Derived.Test.YtegmcmgndllmaaaGreatDoorAuthorityAgreesPkb
namespace Go.Proofs.YtegmcmgndllmaaaGreatDoor
set_option maxRecDepth 100000
set_option maxHeartbeats 16000000
section
open Go.RowKit
theorem z2I {q:UInt8→Bool} {l:List UInt8} (h:l.findIdx q<l.length): ∃c,l=l.take (l.findIdx q)++c::l.drop (l.findIdx q+1)∧q c=true∧ ∀d∈l.take (l.findIdx q),q d=false:=by
 refine ⟨l[l.findIdx q],?_,List.findIdx_getElem,fun d f=> ?_⟩
 ·rw [←List.drop_eq_getElem_cons h,List.take_append_drop]
 ·obtain ⟨j,g,rfl⟩:=List.getElem_of_mem f
  have e:j<l.findIdx q:=by rw [List.length_take] at g;omega
  rw [List.getElem_take]
  exact List.not_of_lt_findIdx e
theorem z8W {q:UInt8→Bool} {l:List UInt8} (h: ¬l.findIdx q<l.length): ∀d∈l,q d=false:=fun d f=>by
 have:=List.findIdx_lt_length_of_exists (p:=q) (xs:=l)
 cases e:q d with
 |false=>rfl
 |true=>exact absurd (this ⟨d,f,e⟩) h
theorem z0O (b:UInt8) (l:List UInt8):Lib.cut l [b]=(l.take (l.findIdx (· ==b)),l.drop (l.findIdx (· ==b)+1),decide (l.findIdx (· ==b)<l.length)):=by
 by_cases h:l.findIdx (· ==b)<l.length
 ·obtain ⟨c,e,i,d⟩:=z2I h
  have f:c=b:=by simpa using i
  subst f
  have:=z0V (b:=c) (a:=l.take (l.findIdx (· ==c))) (l.drop (l.findIdx (· ==c)+1)) (fun g=>by have:=d _ g;simp at this)
  rw [←e] at this
  rw [this,decide_eq_true h]
 ·have d:=z8W h
  rw [z0G (fun g=>by have:=d _ g;simp at this),decide_eq_false h,List.take_of_length_le (by omega),List.drop_eq_nil_of_le (by omega)]
theorem zqU (l:List UInt8) (j:Nat) (h:j<l.length):(ByteArray.mk l.toArray).data[j]! =l[j]:=by simp [h]
theorem u8_int {c:UInt8} (h:(c.toNat:Int)=64):c=64:=UInt8.toNat_inj.1 (by show c.toNat=64;omega)
theorem ylL (l:List UInt8):(Lib.lastIndexByte ⟨l.toArray⟩ 64= -1∧atW l=none)∨ ∃i:Nat,i<l.length∧Lib.lastIndexByte ⟨l.toArray⟩ 64=i∧atW l=some i:=by
 have d:(ByteArray.mk l.toArray).size=l.length:=by simp [ByteArray.size]
 rcases Lib.lastIndexByte_spec ⟨l.toArray⟩ 64 with ⟨f,o⟩|⟨i,f,o,q,B⟩
 ·refine .inl ⟨f,zzA fun g=> ?_⟩
  obtain ⟨j,m,e⟩:=List.getElem_of_mem g
  have:=o j (by rw [d];exact m)
  rw [zqU l j m,e] at this
  exact this rfl
 ·rw [d] at f
  refine .inr ⟨i,f,o,?_⟩
  rw [zqU l i f] at q
  have e:l=l.take i++64::l.drop (i+1):=by
   rw [←u8_int q,←List.drop_eq_getElem_cons f,List.take_append_drop]
  have A:(64:UInt8)∉l.drop (i+1):=fun g=>by
   obtain ⟨j,m,e⟩:=List.getElem_of_mem g
   rw [List.length_drop] at m
   rw [List.getElem_drop] at e
   have:=B (i+1+j) (by omega) (by rw [d];omega)
   rw [zqU l _ (by omega),e] at this
   exact this rfl
  have:=zzQ (a:=l.take i) A
  rw [←e,List.length_take,Nat.min_eq_left (by omega)] at this
  exact this
theorem ylM (s:Int):encW s []=[]:=rfl
theorem yeG (l:List UInt8) {i:Nat} (h:atW l=some i):ziJ l=encW 5 (Lib.cut (l.take i) [58]).1∧ziN l=encW 5 (Lib.cut (l.take i) [58]).2.1∧zcO l=l.drop (i+1):=by
 unfold ziJ ziN zcO
 rw [h,z0O]
 refine ⟨rfl,?_,rfl⟩
 simp only
 split
 ·rfl
 ·rw [List.drop_eq_nil_of_le (by omega)];exact (ylM 5).symm
theorem z7D (l:List UInt8) (h:atW l=none):ziJ l=[]∧ziN l=[]∧zcO l=l:=by
 unfold ziJ ziN zcO
 rw [h];exact ⟨rfl,rfl,rfl⟩
def finC (u:UZ) (l:List UInt8):UZ:=
 if l.head? =some 63 then
  (if ((l.drop 1).drop ((l.drop 1).findIdx (hasB [35]))).head? =some 35 then {u with query:=encW 3 ((l.drop 1).take ((l.drop 1).findIdx (hasB [35]))),hasQ:=true,frag:=encW 1 (((l.drop 1).drop ((l.drop 1).findIdx (hasB [35]))).drop 1),hasF:=true}
   else {u with query:=encW 3 ((l.drop 1).take ((l.drop 1).findIdx (hasB [35]))),hasQ:=true})
 else if l.head? =some 35 then {u with frag:=encW 1 (l.drop 1),hasF:=true} else u
theorem has35:hasB [35]=fun c=>c==35:=by
 funext c
 have:(35==c)=(c==35):=by rw [Bool.eq_iff_iff,beq_iff_eq,beq_iff_eq];exact eq_comm
 simp [hasB,this]
theorem zuN {q:UInt8→Bool} (l:List UInt8):(l.drop (l.findIdx q)).head? =if h:l.findIdx q<l.length then some l[l.findIdx q] else none:=by
 split
 ·rename_i h;rw [List.drop_eq_getElem_cons h];rfl
 ·rename_i h;rw [List.drop_eq_nil_of_le (by omega)];rfl
theorem ygB (u:UZ) {l:List UInt8} (h:l=[]∨l.head? =some 63∨l.head? =some 35):finC u l=zkH u l:=by
 unfold finC zkH frgW
 rw [has35]
 match l,h with
 |[],_=>simp [qryW]
 |c::r,h=>
  have i:c=63∨c=35:=by simpa using h
  rcases i with rfl|rfl
  ·have d:(63::r).findIdx (fun c=>c==(35:UInt8))=r.findIdx (fun c=>c==35)+1:=by rw [List.findIdx_cons];rfl
   have e:qryW u (63::r)={u with query:=encW 3 (r.take (r.findIdx (fun c=>c==35))),hasQ:=true}:=by
    unfold qryW
    rw [if_pos (show (63::r).head? =some 63 from rfl),d];rfl
   rw [if_pos (show (63::r).head? =some 63 from rfl),d,e,List.drop_succ_cons,List.drop_zero,zuN]
   by_cases f:r.findIdx (fun c=>c==35)<r.length
   ·have g:r[r.findIdx (fun c=>c==35)]=35:=by have:=List.findIdx_getElem (w:=f);simpa using this
    rw [dif_pos f,g,if_pos rfl,if_pos (by simp only [List.length_cons];omega),List.drop_drop]
    rfl
   ·rw [dif_neg f,if_neg (by simp),if_neg (by simp only [List.length_cons];omega)]
  ·have d:(35::r).findIdx (fun c=>c==(35:UInt8))=0:=rfl
   have e:qryW u (35::r)=u:=by unfold qryW;rw [if_neg (by simp)]
   rw [if_neg (by simp),if_pos (show (35::r).head? =some 35 from rfl),d,e,if_pos (by simp)]
def digP:Int→List UInt8→Option Int
 |n,[]=>some n
 |n,c::r=>if zaU c.toNat=true then digP (min (10*n+((c.toNat:Int) - 48)) 65536) r else none
theorem zrR: ∀(l:List UInt8) (n m:Int),n=m∨(65535<n∧n≤65536∧65535<m)→(digP n l=none∧zgL m l=none)∨ ∃a b,digP n l=some a∧zgL m l=some b∧(a=b∨(65535<a∧a≤65536∧65535<b))
 |[],n,m,h=> .inr ⟨n,m,rfl,rfl,h⟩
 |c::r,n,m,h=>by
  cases d:zaU c.toNat with
  |false=>exact .inl ⟨by rw [digP,if_neg (by rw [d];decide)],by rw [zgL,if_neg (by rw [d];decide)]⟩
  |true=>
   have e:48≤(c.toNat:Int)∧(c.toNat:Int)≤57:=by simpa [zaU] using d
   rw [digP,if_pos d,zgL,if_pos d]
   refine zrR r _ _ ?_
   split<;>omega
theorem zwY: ∀(l:List UInt8) (n m:Int),0≤n→n≤65536→digP n l=some m→0≤m∧m≤65536
 |[],n,m,f,d,h=>by simp [digP] at h;omega
 |c::r,n,m,f,d,h=>by
  rw [digP] at h
  split at h
  ·rename_i g
   have e:48≤(c.toNat:Int)∧(c.toNat:Int)≤57:=by simpa [zaU] using g
   exact zwY r _ m (by omega) (by omega) h
  ·cases h
def zgJ (name l:List UInt8):Int×Bool:=
 match digP 0 l with
 |none=>(0,false)
 |some n=>if 65535<n then (0,false) else if l=[]∨n=ownZ name then (-1,true) else (n,true)
theorem z7I (name l:List UInt8) (_hn:ownZ name=80∨ownZ name=443):(zdJ l= -2∧(zgJ name l).2=false)∨(zdJ l≠ -2∧zgJ name l=(if zdJ l=ownZ name then -1 else zdJ l,true)):=by
 unfold zgJ zdJ
 by_cases g:l=[]
 ·subst g
  right
  simp [digP]
 ·rw [if_neg g]
  rcases zrR l 0 0 (.inl rfl) with ⟨d,e⟩|⟨a,b,d,e,f⟩
  ·left;rw [d,e];exact ⟨rfl,rfl⟩
  ·rw [d,e]
   have o:=zwY l 0 a (by omega) (by omega) d
   simp only [g,false_or]
   rcases f with rfl|⟨i,m,j⟩
   ·by_cases h:65535<a
    ·left;rw [if_pos h,if_pos h];exact ⟨rfl,rfl⟩
    ·right
     rw [if_neg h,if_neg (by omega)]
     refine ⟨by omega,?_⟩
     split<;>rfl
   ·left;rw [if_pos i,if_pos j];exact ⟨rfl,rfl⟩
theorem z8A:zcN []=(.none,6):=by
 show zfR (zbK (decB []))=_
 rw [show decB []=[] from rfl,show zbK []=([],6) by decide+kernel]
 rfl
def zkM (name a:List UInt8):UZ×Int:=
 if (zcN (hpW false (zcO a)).1).2≠0 then (zcL,(zcN (hpW false (zcO a)).1).2)
 else if (zgJ name (hpW false (zcO a)).2).2=false then (zcL,8)
 else ({zcL with scheme:=name,user:=ziJ a,pass:=ziN a,host:=(zcN (hpW false (zcO a)).1).1,port:=(zgJ name (hpW false (zcO a)).2).1},0)
theorem z2R (name l:List UInt8) (j:ownZ name=80∨ownZ name=443):
  zeG name l=if (zkM name (l.take (l.findIdx (hasB [47,92,63,35])))).2≠0 then (zcL,(zkM name (l.take (l.findIdx (hasB [47,92,63,35])))).2) else (zdQ (zkM name (l.take (l.findIdx (hasB [47,92,63,35])))).1 [] (offW (l.drop (l.findIdx (hasB [47,92,63,35])))),0):=by
 unfold zeG zkM
 simp only
 generalize l.take (l.findIdx (hasB [47,92,63,35]))=a
 generalize l.drop (l.findIdx (hasB [47,92,63,35]))=i
 by_cases g:(hpW false (zcO a)).1=[]
 ·rw [if_pos g,g,z8A];simp
 ·rw [if_neg g]
  by_cases d:(zcN (hpW false (zcO a)).1).2≠0
  ·rw [if_pos d,if_pos d,if_pos d]
  ·rw [if_neg d,if_neg d]
   rcases z7I name (hpW false (zcO a)).2 j with ⟨e,f⟩|⟨e,f⟩
   ·rw [if_pos e,if_pos f];simp
   ·rw [if_neg e,f];simp
def zdZ (l:List UInt8):Nat:=zbX (fun (_:Unit) c=>if (!zcB c)=true then none else some ()) () l
theorem zjC (l:List UInt8):l.drop (zdZ l)=zhB l:=ycK l
theorem zvI (l:List UInt8):zdZ l=l.findIdx fun c=> !zcB c:=zkE (fun c=> !zcB c) l
theorem zyI {l:List UInt8}:zdZ l=0↔zeU l=false:=by
 rw [zvI]
 match l with
 |[]=>simp [zeU]
 |c::r=>rw [List.findIdx_cons];cases h:zcB c<;>simp [zeU,h]
theorem zlV {l:List UInt8}:1<zdZ l↔zeU l=true∧zeU (l.drop 1)=true:=by
 rw [zvI]
 match l with
 |[]=>simp [zeU]
 |[c]=>rw [List.findIdx_cons];cases h:zcB c<;>simp [zeU,h]
 |c::d::r=>rw [List.findIdx_cons,List.findIdx_cons];cases h:zcB c<;>cases e:zcB d<;>simp [zeU,h,e]
theorem ybU {r:List UInt8} (h:r.take 2=[47,47]):1<zdZ r:=by
 match r,h with
 |a::b::r,h=>
  have:a=47∧b=47:=by simpa using h
  rw [zlV,this.1,this.2];exact ⟨rfl,rfl⟩
def yeM (b:UZ):UZ:={zcL with scheme:=b.scheme,user:=b.user,pass:=b.pass,host:=b.host,port:=b.port}
def relC (b:UZ) (d:Bool) (l:List UInt8):UZ:=
 if d=true then zdQ (yeM b) [] l
 else if l=[]∨l.head? =some 35 then zkH {yeM b with path:=b.path,query:=b.query,hasQ:=b.hasQ} l
 else if l.head? =some 63 then zkH {yeM b with path:=b.path} l
 else zdQ (yeM b) b.path.dropLast l
theorem zyF (b:UZ) (l:List UInt8) (h: ¬1<zdZ l):relW b l=(relC b (decide (zdZ l≠0)) (zhB l),0):=by
 unfold relW relC
 rw [if_neg (fun g=>h (zlV.2 g))]
 simp only
 cases i:zeU l with
 |true=>
  have e:zdZ l≠0:=fun g=>by rw [zyI.1 g] at i;cases i
  have j:zhB l=l.drop 1:=by rw [←zjC,show zdZ l=1 by omega]
  rw [if_pos rfl,if_pos (decide_eq_true e),j];rfl
 |false=>
  have e:zdZ l=0:=zyI.2 i
  have j:zhB l=l:=by rw [←zjC,e];rfl
  have m:decide (zdZ l≠0)=false:=by rw [e];rfl
  rw [j,m]
  simp only [Bool.false_eq_true,if_false]
  by_cases f:l=[]∨l.head? =some 35
  ·rw [if_pos f,if_pos f];rfl
  ·rw [if_neg f,if_neg f]
   by_cases d:l.head? =some 63
   ·rw [if_pos d,if_pos d];rfl
   ·rw [if_neg d,if_neg d];rfl
def ziX (s:List UInt8) (b:Option UZ):List UInt8:=match schW s,b with
 |some p,_=>p.1
 |none,some b=>b.scheme
 |none,none=>[]
def zoI (s:List UInt8):List UInt8:=match schW s with
 |some p=>p.2
 |none=>s
def z8R (s:List UInt8) (b:Option UZ):UZ×Int:=
 if ownZ (ziX s b)=0 then (zcL,5)
 else match b with
  |none=>zeG (ziX s b) (zhB (zoI s))
  |some d=>if d.scheme≠ziX s b∨1<zdZ (zoI s) then zeG (ziX s b) (zhB (zoI s)) else (relC d (decide (zdZ (zoI s)≠0)) (zhB (zoI s)),0)
theorem yaJ {n:List UInt8}:ownZ n=0↔ ¬(n=ziL∨n=zdX):=by
 unfold ownZ
 by_cases d:n=ziL
 ·simp [d]
 ·rw [if_neg d]
  by_cases e:n=zdX<;>simp [d,e]
theorem z9M (s:List UInt8) (b:Option UZ) (j: ∀u,b=some u→u.scheme=ziL∨u.scheme=zdX):z8R s b=znE s b:=by
 unfold z8R znE ziX zoI
 match m:schW s,b with
 |none,none=>rw [if_pos (by decide)]
 |none,some b=>
  have i:=j b rfl
  simp only
  rw [if_neg (fun g=>yaJ.1 g i)]
  by_cases d:1<zdZ s
  ·rw [if_pos (.inr d)]
   unfold relW
   rw [if_pos (zlV.1 d)]
  ·rw [if_neg (by simp [d]),zyF b s d]
 |some (n,r),none=>
  simp only
  by_cases h:n=ziL∨n=zdX
  ·rw [if_neg (fun g=>yaJ.1 g h),if_pos h]
  ·rw [if_pos (yaJ.2 h),if_neg h]
 |some (n,r),some b=>
  simp only
  by_cases h:n=ziL∨n=zdX
  ·rw [if_neg (fun g=>yaJ.1 g h),if_pos h]
   by_cases f:b.scheme≠n
   ·rw [if_pos (.inl f),if_pos (.inl f)]
   ·have e:b.scheme=n:=Decidable.not_not.1 f
    by_cases d:1<zdZ r
    ·rw [if_pos (.inr d)]
     split
     ·rfl
     ·unfold relW;rw [if_pos (zlV.1 d),e]
    ·rw [if_neg (by simp [e,d]),if_neg (by rintro (g|g);exact f g;exact d (ybU g)),zyF b r d]
  ·rw [if_pos (yaJ.2 h),if_neg h]
end
end Go.Proofs.YtegmcmgndllmaaaGreatDoor
