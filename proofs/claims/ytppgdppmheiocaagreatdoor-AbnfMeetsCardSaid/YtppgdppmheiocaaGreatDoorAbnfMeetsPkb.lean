/-
  What the law AbnfMeets leans on, and its walk (27 of 35).
-/
import Derived.Lib.LastIndexByte
import Derived.Test.YtppgdppmheiocaaGreatDoorAbnfMeetsPkU
import Derived.Test.YtppgdppmheiocaaGreatDoorAbnfMeetsPka
namespace Go.Proofs.YtppgdppmheiocaaGreatDoor
set_option maxRecDepth 100000
set_option maxHeartbeats 16000000
section
open Go.RowKit
theorem zyZ {q:UInt8→Bool} {l:List UInt8} (h:l.findIdx q<l.length): ∃c,l=l.take (l.findIdx q)++c::l.drop (l.findIdx q+1)∧q c=true∧ ∀d∈l.take (l.findIdx q),q d=false:=by
 refine ⟨l[l.findIdx q],?_,List.findIdx_getElem,fun d hd=> ?_⟩
 ·rw [←List.drop_eq_getElem_cons h,List.take_append_drop]
 ·obtain ⟨j,hj,rfl⟩:=List.getElem_of_mem hd
  have hj':j<l.findIdx q:=by rw [List.length_take] at hj;omega
  rw [List.getElem_take]
  exact List.not_of_lt_findIdx hj'
theorem zzZ {q:UInt8→Bool} {l:List UInt8} (h: ¬l.findIdx q<l.length): ∀d∈l,q d=false:=fun d hd=>by
 have:=List.findIdx_lt_length_of_exists (p:=q) (xs:=l)
 cases e:q d with
 |false=>rfl
 |true=>exact absurd (this ⟨d,hd,e⟩) h
theorem zuM (b:UInt8) (l:List UInt8):Lib.cut l [b]=(l.take (l.findIdx (· ==b)),l.drop (l.findIdx (· ==b)+1),decide (l.findIdx (· ==b)<l.length)):=by
 by_cases h:l.findIdx (· ==b)<l.length
 ·obtain ⟨c,e,hc,hn⟩:=zyZ h
  have hcb:c=b:=by simpa using hc
  subst hcb
  have:=zwQ (b:=c) (a:=l.take (l.findIdx (· ==c))) (l.drop (l.findIdx (· ==c)+1)) (fun g=>by have:=hn _ g;simp at this)
  rw [←e] at this
  rw [this,decide_eq_true h]
 ·have hn:=zzZ h
  rw [zwI (fun g=>by have:=hn _ g;simp at this),decide_eq_false h,List.take_of_length_le (by omega),List.drop_eq_nil_of_le (by omega)]
theorem zoS (l:List UInt8) (j:Nat) (h:j<l.length):(ByteArray.mk l.toArray).data[j]! =l[j]:=by simp [h]
theorem u8_int {c:UInt8} (h:(c.toNat:Int)=64):c=64:=UInt8.toNat_inj.1 (by show c.toNat=64;omega)
theorem ydV (l:List UInt8):(Lib.lastIndexByte ⟨l.toArray⟩ 64= -1∧atW l=none)∨ ∃i:Nat,i<l.length∧Lib.lastIndexByte ⟨l.toArray⟩ 64=i∧atW l=some i:=by
 have hsz:(ByteArray.mk l.toArray).size=l.length:=by simp [ByteArray.size]
 rcases Lib.lastIndexByte_spec ⟨l.toArray⟩ 64 with ⟨h1,h2⟩|⟨i,h1,h2,h3,h4⟩
 ·refine .inl ⟨h1,ybK fun g=> ?_⟩
  obtain ⟨j,hj,e⟩:=List.getElem_of_mem g
  have:=h2 j (by rw [hsz];exact hj)
  rw [zoS l j hj,e] at this
  exact this rfl
 ·rw [hsz] at h1
  refine .inr ⟨i,h1,h2,?_⟩
  rw [zoS l i h1] at h3
  have e:l=l.take i++64::l.drop (i+1):=by
   rw [←u8_int h3,←List.drop_eq_getElem_cons h1,List.take_append_drop]
  have hn:(64:UInt8)∉l.drop (i+1):=fun g=>by
   obtain ⟨j,hj,e⟩:=List.getElem_of_mem g
   rw [List.length_drop] at hj
   rw [List.getElem_drop] at e
   have:=h4 (i+1+j) (by omega) (by rw [hsz];omega)
   rw [zoS l _ (by omega),e] at this
   exact this rfl
  have:=z9B (a:=l.take i) hn
  rw [←e,List.length_take,Nat.min_eq_left (by omega)] at this
  exact this
theorem yeX (s:Int):encW s []=[]:=rfl
theorem ybX (l:List UInt8) {i:Nat} (h:atW l=some i):zjN l=encW 5 (Lib.cut (l.take i) [58]).1∧ziX l=encW 5 (Lib.cut (l.take i) [58]).2.1∧zcP l=l.drop (i+1):=by
 unfold zjN ziX zcP
 rw [h,zuM]
 refine ⟨rfl,?_,rfl⟩
 simp only
 split
 ·rfl
 ·rw [List.drop_eq_nil_of_le (by omega)];exact (yeX 5).symm
theorem z4R (l:List UInt8) (h:atW l=none):zjN l=[]∧ziX l=[]∧zcP l=l:=by
 unfold zjN ziX zcP
 rw [h];exact ⟨rfl,rfl,rfl⟩
def finC (u:UZ) (l:List UInt8):UZ:=
 if l.head? =some 63 then
  (if ((l.drop 1).drop ((l.drop 1).findIdx (hasB [35]))).head? =some 35 then {u with query:=encW 3 ((l.drop 1).take ((l.drop 1).findIdx (hasB [35]))),hasQ:=true,frag:=encW 1 (((l.drop 1).drop ((l.drop 1).findIdx (hasB [35]))).drop 1),hasF:=true}
   else {u with query:=encW 3 ((l.drop 1).take ((l.drop 1).findIdx (hasB [35]))),hasQ:=true})
 else if l.head? =some 35 then {u with frag:=encW 1 (l.drop 1),hasF:=true} else u
theorem has35:hasB [35]=fun c=>c==35:=by
 funext c
 have:(35==c)=(c==35):=by rw [Bool.eq_iff_iff,beq_iff_eq,beq_iff_eq];exact eq_comm
 simp [hasB,this]
theorem zrO {q:UInt8→Bool} (l:List UInt8):(l.drop (l.findIdx q)).head? =if h:l.findIdx q<l.length then some l[l.findIdx q] else none:=by
 split
 ·rename_i h;rw [List.drop_eq_getElem_cons h];rfl
 ·rename_i h;rw [List.drop_eq_nil_of_le (by omega)];rfl
theorem yaV (u:UZ) {l:List UInt8} (h:l=[]∨l.head? =some 63∨l.head? =some 35):finC u l=zjX u l:=by
 unfold finC zjX frgW
 rw [has35]
 match l,h with
 |[],_=>simp [qryW]
 |c::r,h=>
  have hc:c=63∨c=35:=by simpa using h
  rcases hc with rfl|rfl
  ·have e1:(63::r).findIdx (fun c=>c==(35:UInt8))=r.findIdx (fun c=>c==35)+1:=by rw [List.findIdx_cons];rfl
   have e2:qryW u (63::r)={u with query:=encW 3 (r.take (r.findIdx (fun c=>c==35))),hasQ:=true}:=by
    unfold qryW
    rw [if_pos (show (63::r).head? =some 63 from rfl),e1];rfl
   rw [if_pos (show (63::r).head? =some 63 from rfl),e1,e2,List.drop_succ_cons,List.drop_zero,zrO]
   by_cases hf:r.findIdx (fun c=>c==35)<r.length
   ·have h35:r[r.findIdx (fun c=>c==35)]=35:=by have:=List.findIdx_getElem (w:=hf);simpa using this
    rw [dif_pos hf,h35,if_pos rfl,if_pos (by simp only [List.length_cons];omega),List.drop_drop]
    rfl
   ·rw [dif_neg hf,if_neg (by simp),if_neg (by simp only [List.length_cons];omega)]
  ·have e1:(35::r).findIdx (fun c=>c==(35:UInt8))=0:=rfl
   have e2:qryW u (35::r)=u:=by unfold qryW;rw [if_neg (by simp)]
   rw [if_neg (by simp),if_pos (show (35::r).head? =some 35 from rfl),e1,e2,if_pos (by simp)]
def digP:Int→List UInt8→Option Int
 |n,[]=>some n
 |n,c::r=>if zaT c.toNat=true then digP (min (10*n+((c.toNat:Int) - 48)) 65536) r else none
theorem zvV: ∀(l:List UInt8) (n m:Int),n=m∨(65535<n∧n≤65536∧65535<m)→(digP n l=none∧zmU m l=none)∨ ∃a b,digP n l=some a∧zmU m l=some b∧(a=b∨(65535<a∧a≤65536∧65535<b))
 |[],n,m,h=> .inr ⟨n,m,rfl,rfl,h⟩
 |c::r,n,m,h=>by
  cases hd:zaT c.toNat with
  |false=>exact .inl ⟨by rw [digP,if_neg (by rw [hd];decide)],by rw [zmU,if_neg (by rw [hd];decide)]⟩
  |true=>
   have h48:48≤(c.toNat:Int)∧(c.toNat:Int)≤57:=by simpa [zaT] using hd
   rw [digP,if_pos hd,zmU,if_pos hd]
   refine zvV r _ _ ?_
   split<;>omega
theorem z6X: ∀(l:List UInt8) (n m:Int),0≤n→n≤65536→digP n l=some m→0≤m∧m≤65536
 |[],n,m,h0,h1,h=>by simp [digP] at h;omega
 |c::r,n,m,h0,h1,h=>by
  rw [digP] at h
  split at h
  ·rename_i hd
   have h48:48≤(c.toNat:Int)∧(c.toNat:Int)≤57:=by simpa [zaT] using hd
   exact z6X r _ m (by omega) (by omega) h
  ·cases h
def zfN (name l:List UInt8):Int×Bool:=
 match digP 0 l with
 |none=>(0,false)
 |some n=>if 65535<n then (0,false) else if l=[]∨n=ownZ name then (-1,true) else (n,true)
theorem z5Z (name l:List UInt8) (_hn:ownZ name=80∨ownZ name=443):(zjV l= -2∧(zfN name l).2=false)∨(zjV l≠ -2∧zfN name l=(if zjV l=ownZ name then -1 else zjV l,true)):=by
 unfold zfN zjV
 by_cases h0:l=[]
 ·subst h0
  right
  simp [digP]
 ·rw [if_neg h0]
  rcases zvV l 0 0 (.inl rfl) with ⟨e1,e2⟩|⟨a,b,e1,e2,hab⟩
  ·left;rw [e1,e2];exact ⟨rfl,rfl⟩
  ·rw [e1,e2]
   have ha:=z6X l 0 a (by omega) (by omega) e1
   simp only [h0,false_or]
   rcases hab with rfl|⟨q1,q2,q3⟩
   ·by_cases h:65535<a
    ·left;rw [if_pos h,if_pos h];exact ⟨rfl,rfl⟩
    ·right
     rw [if_neg h,if_neg (by omega)]
     refine ⟨by omega,?_⟩
     split<;>rfl
   ·left;rw [if_pos q1,if_pos q3];exact ⟨rfl,rfl⟩
theorem z7P:zdJ []=(.none,6):=by
 show zhE (zcA (decB []))=_
 rw [show decB []=[] from rfl,show zcA []=([],6) by decide+kernel]
 rfl
def zjK (name a:List UInt8):UZ×Int:=
 if (zdJ (hpW false (zcP a)).1).2≠0 then (zcG,(zdJ (hpW false (zcP a)).1).2)
 else if (zfN name (hpW false (zcP a)).2).2=false then (zcG,8)
 else ({zcG with scheme:=name,user:=zjN a,pass:=ziX a,host:=(zdJ (hpW false (zcP a)).1).1,port:=(zfN name (hpW false (zcP a)).2).1},0)
theorem zwU (name l:List UInt8) (hn:ownZ name=80∨ownZ name=443):
  zeB name l=if (zjK name (l.take (l.findIdx (hasB [47,92,63,35])))).2≠0 then (zcG,(zjK name (l.take (l.findIdx (hasB [47,92,63,35])))).2) else (zeA (zjK name (l.take (l.findIdx (hasB [47,92,63,35])))).1 [] (offW (l.drop (l.findIdx (hasB [47,92,63,35])))),0):=by
 unfold zeB zjK
 simp only
 generalize l.take (l.findIdx (hasB [47,92,63,35]))=a
 generalize l.drop (l.findIdx (hasB [47,92,63,35]))=rest
 by_cases h0:(hpW false (zcP a)).1=[]
 ·rw [if_pos h0,h0,z7P];simp
 ·rw [if_neg h0]
  by_cases h1:(zdJ (hpW false (zcP a)).1).2≠0
  ·rw [if_pos h1,if_pos h1,if_pos h1]
  ·rw [if_neg h1,if_neg h1]
   rcases z5Z name (hpW false (zcP a)).2 hn with ⟨e1,e2⟩|⟨e1,e2⟩
   ·rw [if_pos e1,if_pos e2];simp
   ·rw [if_neg e1,e2];simp
def zdF (l:List UInt8):Nat:=zbQ (fun (_:Unit) c=>if (!zcI c)=true then none else some ()) () l
theorem zhK (l:List UInt8):l.drop (zdF l)=zhR l:=z5J l
theorem zpN (l:List UInt8):zdF l=l.findIdx fun c=> !zcI c:=ziQ (fun c=> !zcI c) l
theorem zuY {l:List UInt8}:zdF l=0↔zfT l=false:=by
 rw [zpN]
 match l with
 |[]=>simp [zfT]
 |c::r=>rw [List.findIdx_cons];cases h:zcI c<;>simp [zfT,h]
theorem zkG {l:List UInt8}:1<zdF l↔zfT l=true∧zfT (l.drop 1)=true:=by
 rw [zpN]
 match l with
 |[]=>simp [zfT]
 |[c]=>rw [List.findIdx_cons];cases h:zcI c<;>simp [zfT,h]
 |c::d::r=>rw [List.findIdx_cons,List.findIdx_cons];cases h:zcI c<;>cases h2:zcI d<;>simp [zfT,h,h2]
theorem z0C {r:List UInt8} (h:r.take 2=[47,47]):1<zdF r:=by
 match r,h with
 |a::b::r,h=>
  have:a=47∧b=47:=by simpa using h
  rw [zkG,this.1,this.2];exact ⟨rfl,rfl⟩
def ybP (b:UZ):UZ:={zcG with scheme:=b.scheme,user:=b.user,pass:=b.pass,host:=b.host,port:=b.port}
def relC (b:UZ) (rooted:Bool) (l:List UInt8):UZ:=
 if rooted=true then zeA (ybP b) [] l
 else if l=[]∨l.head? =some 35 then zjX {ybP b with path:=b.path,query:=b.query,hasQ:=b.hasQ} l
 else if l.head? =some 63 then zjX {ybP b with path:=b.path} l
 else zeA (ybP b) b.path.dropLast l
theorem zwO (b:UZ) (l:List UInt8) (h: ¬1<zdF l):relW b l=(relC b (decide (zdF l≠0)) (zhR l),0):=by
 unfold relW relC
 rw [if_neg (fun g=>h (zkG.2 g))]
 simp only
 cases h1:zfT l with
 |true=>
  have h2:zdF l≠0:=fun g=>by rw [zuY.1 g] at h1;cases h1
  have h3:zhR l=l.drop 1:=by rw [←zhK,show zdF l=1 by omega]
  rw [if_pos rfl,if_pos (decide_eq_true h2),h3];rfl
 |false=>
  have h2:zdF l=0:=zuY.2 h1
  have h3:zhR l=l:=by rw [←zhK,h2];rfl
  have hd:decide (zdF l≠0)=false:=by rw [h2];rfl
  rw [h3,hd]
  simp only [Bool.false_eq_true,if_false]
  by_cases g1:l=[]∨l.head? =some 35
  ·rw [if_pos g1,if_pos g1];rfl
  ·rw [if_neg g1,if_neg g1]
   by_cases g2:l.head? =some 63
   ·rw [if_pos g2,if_pos g2];rfl
   ·rw [if_neg g2,if_neg g2];rfl
def zhN (s:List UInt8) (b:Option UZ):List UInt8:=match schW s,b with
 |some p,_=>p.1
 |none,some b=>b.scheme
 |none,none=>[]
def zlU (s:List UInt8):List UInt8:=match schW s with
 |some p=>p.2
 |none=>s
def z6V (s:List UInt8) (b:Option UZ):UZ×Int:=
 if ownZ (zhN s b)=0 then (zcG,5)
 else match b with
  |none=>zeB (zhN s b) (zhR (zlU s))
  |some b'=>if b'.scheme≠zhN s b∨1<zdF (zlU s) then zeB (zhN s b) (zhR (zlU s)) else (relC b' (decide (zdF (zlU s)≠0)) (zhR (zlU s)),0)
theorem z3P {n:List UInt8}:ownZ n=0↔ ¬(n=ziW∨n=zeG):=by
 unfold ownZ
 by_cases h1:n=ziW
 ·simp [h1]
 ·rw [if_neg h1]
  by_cases h2:n=zeG<;>simp [h1,h2]
theorem z3G (s:List UInt8) (b:Option UZ) (hb: ∀u,b=some u→u.scheme=ziW∨u.scheme=zeG):z6V s b=zmT s b:=by
 unfold z6V zmT zhN zlU
 match hs:schW s,b with
 |none,none=>rw [if_pos (by decide)]
 |none,some b=>
  have hbs:=hb b rfl
  simp only
  rw [if_neg (fun g=>z3P.1 g hbs)]
  by_cases h2:1<zdF s
  ·rw [if_pos (.inr h2)]
   unfold relW
   rw [if_pos (zkG.1 h2)]
  ·rw [if_neg (by simp [h2]),zwO b s h2]
 |some (n,r),none=>
  simp only
  by_cases h:n=ziW∨n=zeG
  ·rw [if_neg (fun g=>z3P.1 g h),if_pos h]
  ·rw [if_pos (z3P.2 h),if_neg h]
 |some (n,r),some b=>
  simp only
  by_cases h:n=ziW∨n=zeG
  ·rw [if_neg (fun g=>z3P.1 g h),if_pos h]
   by_cases h3:b.scheme≠n
   ·rw [if_pos (.inl h3),if_pos (.inl h3)]
   ·have h3':b.scheme=n:=Decidable.not_not.1 h3
    by_cases h2:1<zdF r
    ·rw [if_pos (.inr h2)]
     split
     ·rfl
     ·unfold relW;rw [if_pos (zkG.1 h2),h3']
    ·rw [if_neg (by simp [h3',h2]),if_neg (by rintro (g|g);exact h3 g;exact h2 (z0C g)),zwO b r h2]
  ·rw [if_pos (z3P.2 h),if_neg h]
end
end Go.Proofs.YtppgdppmheiocaaGreatDoor
