/-
  What the law AgreeNever leans on, and its walk (29 of 42).
-/
import Derived.Lib.LastIndexByte
import Derived.Test.YtegmcmgndllmaaaGreatDoorAgreeNeverPkU
import Derived.Test.YtegmcmgndllmaaaGreatDoorAgreeNeverPkc
namespace Go.Proofs.YtegmcmgndllmaaaGreatDoor
set_option maxRecDepth 100000
set_option maxHeartbeats 16000000
section
open Go.RowKit
theorem z2I {q:UInt8→Bool} {l:List UInt8} (h:l.findIdx q<l.length): ∃c,l=l.take (l.findIdx q)++c::l.drop (l.findIdx q+1)∧q c=true∧ ∀d∈l.take (l.findIdx q),q d=false:=by
 refine ⟨l[l.findIdx q],?_,List.findIdx_getElem,fun d i=> ?_⟩
 ·rw [←List.drop_eq_getElem_cons h,List.take_append_drop]
 ·obtain ⟨j,m,rfl⟩:=List.getElem_of_mem i
  have f:j<l.findIdx q:=by rw [List.length_take] at m;omega
  rw [List.getElem_take]
  exact List.not_of_lt_findIdx f
theorem z8Q {q:UInt8→Bool} {l:List UInt8} (h: ¬l.findIdx q<l.length): ∀d∈l,q d=false:=fun d f=>by
 have:=List.findIdx_lt_length_of_exists (p:=q) (xs:=l)
 cases e:q d with
 |false=>rfl
 |true=>exact absurd (this ⟨d,f,e⟩) h
theorem zxT (b:UInt8) (l:List UInt8):Lib.cut l [b]=(l.take (l.findIdx (· ==b)),l.drop (l.findIdx (· ==b)+1),decide (l.findIdx (· ==b)<l.length)):=by
 by_cases h:l.findIdx (· ==b)<l.length
 ·obtain ⟨c,e,i,f⟩:=z2I h
  have d:c=b:=by simpa using i
  subst d
  have:=zzF (b:=c) (a:=l.take (l.findIdx (· ==c))) (l.drop (l.findIdx (· ==c)+1)) (fun g=>by have:=f _ g;simp at this)
  rw [←e] at this
  rw [this,decide_eq_true h]
 ·have f:=z8Q h
  rw [zyN (fun g=>by have:=f _ g;simp at this),decide_eq_false h,List.take_of_length_le (by omega),List.drop_eq_nil_of_le (by omega)]
theorem zqA (l:List UInt8) (j:Nat) (h:j<l.length):(ByteArray.mk l.toArray).data[j]! =l[j]:=by simp [h]
theorem u8_int {c:UInt8} (h:(c.toNat:Int)=64):c=64:=UInt8.toNat_inj.1 (by show c.toNat=64;omega)
theorem yiK (l:List UInt8):(Lib.lastIndexByte ⟨l.toArray⟩ 64= -1∧atW l=none)∨ ∃i:Nat,i<l.length∧Lib.lastIndexByte ⟨l.toArray⟩ 64=i∧atW l=some i:=by
 have d:(ByteArray.mk l.toArray).size=l.length:=by simp [ByteArray.size]
 rcases Lib.lastIndexByte_spec ⟨l.toArray⟩ 64 with ⟨f,o⟩|⟨i,f,o,A,B⟩
 ·refine .inl ⟨f,ydZ fun g=> ?_⟩
  obtain ⟨j,m,e⟩:=List.getElem_of_mem g
  have:=o j (by rw [d];exact m)
  rw [zqA l j m,e] at this
  exact this rfl
 ·rw [d] at f
  refine .inr ⟨i,f,o,?_⟩
  rw [zqA l i f] at A
  have e:l=l.take i++64::l.drop (i+1):=by
   rw [←u8_int A,←List.drop_eq_getElem_cons f,List.take_append_drop]
  have C:(64:UInt8)∉l.drop (i+1):=fun g=>by
   obtain ⟨j,m,e⟩:=List.getElem_of_mem g
   rw [List.length_drop] at m
   rw [List.getElem_drop] at e
   have:=B (i+1+j) (by omega) (by rw [d];omega)
   rw [zqA l _ (by omega),e] at this
   exact this rfl
  have:=ydK (a:=l.take i) C
  rw [←e,List.length_take,Nat.min_eq_left (by omega)] at this
  exact this
theorem yhF (s:Int):encW s []=[]:=rfl
theorem ycX (l:List UInt8) {i:Nat} (h:atW l=some i):zqJ l=encW 5 (Lib.cut (l.take i) [58]).1∧zqS l=encW 5 (Lib.cut (l.take i) [58]).2.1∧zdL l=l.drop (i+1):=by
 unfold zqJ zqS zdL
 rw [h,zxT]
 refine ⟨rfl,?_,rfl⟩
 simp only
 split
 ·rfl
 ·rw [List.drop_eq_nil_of_le (by omega)];exact (yhF 5).symm
theorem z4N (l:List UInt8) (h:atW l=none):zqJ l=[]∧zqS l=[]∧zdL l=l:=by
 unfold zqJ zqS zdL
 rw [h];exact ⟨rfl,rfl,rfl⟩
def finC (u:UZ) (l:List UInt8):UZ:=
 if l.head? =some 63 then
  (if ((l.drop 1).drop ((l.drop 1).findIdx (hasB [35]))).head? =some 35 then {u with query:=encW 3 ((l.drop 1).take ((l.drop 1).findIdx (hasB [35]))),hasQ:=true,frag:=encW 1 (((l.drop 1).drop ((l.drop 1).findIdx (hasB [35]))).drop 1),hasF:=true}
   else {u with query:=encW 3 ((l.drop 1).take ((l.drop 1).findIdx (hasB [35]))),hasQ:=true})
 else if l.head? =some 35 then {u with frag:=encW 1 (l.drop 1),hasF:=true} else u
theorem has35:hasB [35]=fun c=>c==35:=by
 funext c
 have:(35==c)=(c==35):=by rw [Bool.eq_iff_iff,beq_iff_eq,beq_iff_eq];exact eq_comm
 simp [hasB,this]
theorem zrV {q:UInt8→Bool} (l:List UInt8):(l.drop (l.findIdx q)).head? =if h:l.findIdx q<l.length then some l[l.findIdx q] else none:=by
 split
 ·rename_i h;rw [List.drop_eq_getElem_cons h];rfl
 ·rename_i h;rw [List.drop_eq_nil_of_le (by omega)];rfl
theorem ydT (u:UZ) {l:List UInt8} (h:l=[]∨l.head? =some 63∨l.head? =some 35):finC u l=zsN u l:=by
 unfold finC zsN frgW
 rw [has35]
 match l,h with
 |[],_=>simp [qryW]
 |c::r,h=>
  have m:c=63∨c=35:=by simpa using h
  rcases m with rfl|rfl
  ·have d:(63::r).findIdx (fun c=>c==(35:UInt8))=r.findIdx (fun c=>c==35)+1:=by rw [List.findIdx_cons];rfl
   have j:qryW u (63::r)={u with query:=encW 3 (r.take (r.findIdx (fun c=>c==35))),hasQ:=true}:=by
    unfold qryW
    rw [if_pos (show (63::r).head? =some 63 from rfl),d];rfl
   rw [if_pos (show (63::r).head? =some 63 from rfl),d,j,List.drop_succ_cons,List.drop_zero,zrV]
   by_cases f:r.findIdx (fun c=>c==35)<r.length
   ·have i:r[r.findIdx (fun c=>c==35)]=35:=by have:=List.findIdx_getElem (w:=f);simpa using this
    rw [dif_pos f,i,if_pos rfl,if_pos (by simp only [List.length_cons];omega),List.drop_drop]
    rfl
   ·rw [dif_neg f,if_neg (by simp),if_neg (by simp only [List.length_cons];omega)]
  ·have d:(35::r).findIdx (fun c=>c==(35:UInt8))=0:=rfl
   have j:qryW u (35::r)=u:=by unfold qryW;rw [if_neg (by simp)]
   rw [if_neg (by simp),if_pos (show (35::r).head? =some 35 from rfl),d,j,if_pos (by simp)]
def digP:Int→List UInt8→Option Int
 |n,[]=>some n
 |n,c::r=>if zaX c.toNat=true then digP (min (10*n+((c.toNat:Int) - 48)) 65536) r else none
theorem zqV: ∀(l:List UInt8) (n m:Int),n=m∨(65535<n∧n≤65536∧65535<m)→(digP n l=none∧zoE m l=none)∨ ∃a b,digP n l=some a∧zoE m l=some b∧(a=b∨(65535<a∧a≤65536∧65535<b))
 |[],n,m,h=> .inr ⟨n,m,rfl,rfl,h⟩
 |c::r,n,m,h=>by
  cases d:zaX c.toNat with
  |false=>exact .inl ⟨by rw [digP,if_neg (by rw [d];decide)],by rw [zoE,if_neg (by rw [d];decide)]⟩
  |true=>
   have f:48≤(c.toNat:Int)∧(c.toNat:Int)≤57:=by simpa [zaX] using d
   rw [digP,if_pos d,zoE,if_pos d]
   refine zqV r _ _ ?_
   split<;>omega
theorem zvF: ∀(l:List UInt8) (n m:Int),0≤n→n≤65536→digP n l=some m→0≤m∧m≤65536
 |[],n,m,j,d,h=>by simp [digP] at h;omega
 |c::r,n,m,j,d,h=>by
  rw [digP] at h
  split at h
  ·rename_i i
   have f:48≤(c.toNat:Int)∧(c.toNat:Int)≤57:=by simpa [zaX] using i
   exact zvF r _ m (by omega) (by omega) h
  ·cases h
def zgS (name l:List UInt8):Int×Bool:=
 match digP 0 l with
 |none=>(0,false)
 |some n=>if 65535<n then (0,false) else if l=[]∨n=ownZ name then (-1,true) else (n,true)
theorem ybI (name l:List UInt8) (_hn:ownZ name=80∨ownZ name=443):(zeL l= -2∧(zgS name l).2=false)∨(zeL l≠ -2∧zgS name l=(if zeL l=ownZ name then -1 else zeL l,true)):=by
 unfold zgS zeL
 by_cases j:l=[]
 ·subst j
  right
  simp [digP]
 ·rw [if_neg j]
  rcases zqV l 0 0 (.inl rfl) with ⟨d,i⟩|⟨a,b,d,i,f⟩
  ·left;rw [d,i];exact ⟨rfl,rfl⟩
  ·rw [d,i]
   have A:=zvF l 0 a (by omega) (by omega) d
   simp only [j,false_or]
   rcases f with rfl|⟨o,B,m⟩
   ·by_cases h:65535<a
    ·left;rw [if_pos h,if_pos h];exact ⟨rfl,rfl⟩
    ·right
     rw [if_neg h,if_neg (by omega)]
     refine ⟨by omega,?_⟩
     split<;>rfl
   ·left;rw [if_pos o,if_pos m];exact ⟨rfl,rfl⟩
theorem z5O:zdR []=(.none,6):=by
 show ziI (zcR (decB []))=_
 rw [show decB []=[] from rfl,show zcR []=([],6) by decide+kernel]
 rfl
def zkJ (name a:List UInt8):UZ×Int:=
 if (zdR (hpW false (zdL a)).1).2≠0 then (zeE,(zdR (hpW false (zdL a)).1).2)
 else if (zgS name (hpW false (zdL a)).2).2=false then (zeE,8)
 else ({zeE with scheme:=name,user:=zqJ a,pass:=zqS a,host:=(zdR (hpW false (zdL a)).1).1,port:=(zgS name (hpW false (zdL a)).2).1},0)
theorem z1L (name l:List UInt8) (o:ownZ name=80∨ownZ name=443):
  zkO name l=if (zkJ name (l.take (l.findIdx (hasB [47,92,63,35])))).2≠0 then (zeE,(zkJ name (l.take (l.findIdx (hasB [47,92,63,35])))).2) else (ziN (zkJ name (l.take (l.findIdx (hasB [47,92,63,35])))).1 [] (offW (l.drop (l.findIdx (hasB [47,92,63,35])))),0):=by
 unfold zkO zkJ
 simp only
 generalize l.take (l.findIdx (hasB [47,92,63,35]))=a
 generalize l.drop (l.findIdx (hasB [47,92,63,35]))=m
 by_cases j:(hpW false (zdL a)).1=[]
 ·rw [if_pos j,j,z5O];simp
 ·rw [if_neg j]
  by_cases d:(zdR (hpW false (zdL a)).1).2≠0
  ·rw [if_pos d,if_pos d,if_pos d]
  ·rw [if_neg d,if_neg d]
   rcases ybI name (hpW false (zdL a)).2 o with ⟨f,i⟩|⟨f,i⟩
   ·rw [if_pos f,if_pos i];simp
   ·rw [if_neg f,i];simp
def zeF (l:List UInt8):Nat:=zcB (fun (_:Unit) c=>if (!zcY c)=true then none else some ()) () l
theorem ziQ (l:List UInt8):l.drop (zeF l)=ziX l:=z8P l
theorem zuK (l:List UInt8):zeF l=l.findIdx fun c=> !zcY c:=zjU (fun c=> !zcY c) l
theorem zyE {l:List UInt8}:zeF l=0↔zgX l=false:=by
 rw [zuK]
 match l with
 |[]=>simp [zgX]
 |c::r=>rw [List.findIdx_cons];cases h:zcY c<;>simp [zgX,h]
theorem zlP {l:List UInt8}:1<zeF l↔zgX l=true∧zgX (l.drop 1)=true:=by
 rw [zuK]
 match l with
 |[]=>simp [zgX]
 |[c]=>rw [List.findIdx_cons];cases h:zcY c<;>simp [zgX,h]
 |c::d::r=>rw [List.findIdx_cons,List.findIdx_cons];cases h:zcY c<;>cases f:zcY d<;>simp [zgX,h,f]
theorem z3X {r:List UInt8} (h:r.take 2=[47,47]):1<zeF r:=by
 match r,h with
 |a::b::r,h=>
  have:a=47∧b=47:=by simpa using h
  rw [zlP,this.1,this.2];exact ⟨rfl,rfl⟩
def ycN (b:UZ):UZ:={zeE with scheme:=b.scheme,user:=b.user,pass:=b.pass,host:=b.host,port:=b.port}
def relC (b:UZ) (d:Bool) (l:List UInt8):UZ:=
 if d=true then ziN (ycN b) [] l
 else if l=[]∨l.head? =some 35 then zsN {ycN b with path:=b.path,query:=b.query,hasQ:=b.hasQ} l
 else if l.head? =some 63 then zsN {ycN b with path:=b.path} l
 else ziN (ycN b) b.path.dropLast l
theorem zyK (b:UZ) (l:List UInt8) (h: ¬1<zeF l):relW b l=(relC b (decide (zeF l≠0)) (ziX l),0):=by
 unfold relW relC
 rw [if_neg (fun g=>h (zlP.2 g))]
 simp only
 cases j:zgX l with
 |true=>
  have d:zeF l≠0:=fun g=>by rw [zyE.1 g] at j;cases j
  have m:ziX l=l.drop 1:=by rw [←ziQ,show zeF l=1 by omega]
  rw [if_pos rfl,if_pos (decide_eq_true d),m];rfl
 |false=>
  have d:zeF l=0:=zyE.2 j
  have m:ziX l=l:=by rw [←ziQ,d];rfl
  have o:decide (zeF l≠0)=false:=by rw [d];rfl
  rw [m,o]
  simp only [Bool.false_eq_true,if_false]
  by_cases f:l=[]∨l.head? =some 35
  ·rw [if_pos f,if_pos f];rfl
  ·rw [if_neg f,if_neg f]
   by_cases i:l.head? =some 63
   ·rw [if_pos i,if_pos i];rfl
   ·rw [if_neg i,if_neg i];rfl
def zjC (s:List UInt8) (b:Option UZ):List UInt8:=match schW s,b with
 |some p,_=>p.1
 |none,some b=>b.scheme
 |none,none=>[]
def zmR (s:List UInt8):List UInt8:=match schW s with
 |some p=>p.2
 |none=>s
def z7U (s:List UInt8) (b:Option UZ):UZ×Int:=
 if ownZ (zjC s b)=0 then (zeE,5)
 else match b with
  |none=>zkO (zjC s b) (ziX (zmR s))
  |some b'=>if b'.scheme≠zjC s b∨1<zeF (zmR s) then zkO (zjC s b) (ziX (zmR s)) else (relC b' (decide (zeF (zmR s)≠0)) (ziX (zmR s)),0)
theorem z8S {n:List UInt8}:ownZ n=0↔ ¬(n=zjR∨n=zeY):=by
 unfold ownZ
 by_cases d:n=zjR
 ·simp [d]
 ·rw [if_neg d]
  by_cases f:n=zeY<;>simp [d,f]
theorem z3Z (s:List UInt8) (b:Option UZ) (m: ∀u,b=some u→u.scheme=zjR∨u.scheme=zeY):z7U s b=z1E s b:=by
 unfold z7U z1E zjC zmR
 match o:schW s,b with
 |none,none=>rw [if_pos (by decide)]
 |none,some b=>
  have j:=m b rfl
  simp only
  rw [if_neg (fun g=>z8S.1 g j)]
  by_cases d:1<zeF s
  ·rw [if_pos (.inr d)]
   unfold relW
   rw [if_pos (zlP.1 d)]
  ·rw [if_neg (by simp [d]),zyK b s d]
 |some (n,r),none=>
  simp only
  by_cases h:n=zjR∨n=zeY
  ·rw [if_neg (fun g=>z8S.1 g h),if_pos h]
  ·rw [if_pos (z8S.2 h),if_neg h]
 |some (n,r),some b=>
  simp only
  by_cases h:n=zjR∨n=zeY
  ·rw [if_neg (fun g=>z8S.1 g h),if_pos h]
   by_cases i:b.scheme≠n
   ·rw [if_pos (.inl i),if_pos (.inl i)]
   ·have f:b.scheme=n:=Decidable.not_not.1 i
    by_cases d:1<zeF r
    ·rw [if_pos (.inr d)]
     split
     ·rfl
     ·unfold relW;rw [if_pos (zlP.1 d),f]
    ·rw [if_neg (by simp [f,d]),if_neg (by rintro (g|g);exact i g;exact d (z3X g)),zyK b r d]
  ·rw [if_pos (z8S.2 h),if_neg h]
end
end Go.Proofs.YtegmcmgndllmaaaGreatDoor
