/-
  What the law ResolveMeets leans on, and its walk (26 of 46).
-/
import Derived.Test.YtmjappnpedjlnaaGreatDoorResolveMeetsPkM
import Derived.Test.YtmjappnpedjlnaaGreatDoorResolveMeetsPkN
import Derived.Test.YtmjappnpedjlnaaGreatDoorResolveMeetsPkZ
import Derived.Test.YtmjappnpedjlnaaGreatDoorResolveMeetsPkX
namespace Go.Proofs.YtmjappnpedjlnaaGreatDoor
set_option maxRecDepth 100000
set_option maxHeartbeats 16000000
section
open Go.RowKit
def zdF (b r:PZ):List UInt8:=
 if r.hasS=true∨r.hasA=true∨r.path.head? =some 47 then zbQ r.path
 else if r.path=[] then b.path
 else zbQ (zeG b.path b.hasA r.path)
def zaV (b r:PZ):PZ:=
 if r.hasS=true then {r with path:=zdF b r}
 else if r.hasA=true then {r with scheme:=b.scheme,hasS:=b.hasS,path:=zdF b r}
 else if r.path=[]∧r.hasQ=false then {b with path:=zdF b r,frag:=r.frag,hasF:=r.hasF}
 else {b with path:=zdF b r,query:=r.query,hasQ:=r.hasQ,frag:=r.frag,hasF:=r.hasF}
/-! ### signs,step by step -/
theorem ybG (c:UInt8) (a r:List UInt8):pctA (c::(a++47::r))=pctA (c::a):=by
 match a with
 |[]=>
  match r with
  |[]=>rfl
  |e::r=>show (c==37&&hexA 47&&hexA e)=false;rw [show hexA 47=false by decide];simp
 |[d]=>show (c==37&&hexA d&&hexA 47)=false;rw [show hexA 47=false by decide];simp
 |d::e::a=>rfl
theorem zkL (of:List UInt8): ∀(a r:List UInt8),isA of (a++47::r)=(isA of a&&isA of (47::r))
 |[],r=>by simp [isA]
 |c::a,r=>by
  rw [List.cons_append,zgA,zgA,ybG,zkL of a r,Bool.and_assoc]
theorem z7J {of:List UInt8} (h:of.contains 47=true) (r:List UInt8):isA of (47::r)=isA of r:=by
 rw [zgA,h]
 simp
theorem zrC {of:List UInt8} (h:of.contains 47=true): ∀ps:List (List UInt8),isA of (zbL ps)=ps.all (isA of)
 |[]=>rfl
 |s::r=>by
  show isA of (47::(s++zbL r))=_
  rw [z7J h,List.all_cons,←zrC h r]
  cases r with
  |nil=>simp [zbL,isA]
  |cons t r=>exact zkL of s (t++zbL r)
theorem yfB {of:List UInt8}: ∀{l:List UInt8},isA of l=true→ ∀c∈l,zhN c=true∨of.contains c=true∨c=37
 |c::l,h,d,hd=>by
  rw [zgA,Bool.and_eq_true] at h
  rcases List.mem_cons.1 hd with rfl|hd
  ·have h:=h.1
   simp only [Bool.or_eq_true] at h
   rcases h with (h|h)|h
   ·exact .inl h
   ·refine .inr (.inr ?_)
    match l,h with
    |e::f::l,h=>
     simp only [pctA,Bool.and_eq_true,beq_iff_eq] at h
     exact h.1.1
   ·exact .inr (.inl h)
  ·exact yfB h.2 d hd
theorem ydF {of l:List UInt8} (h:isA of l=true) {b:UInt8} (hb:(zhN b||of.contains b||b==37)=false): ∀c∈l,(c==b)=false:=fun c hc=>by
 rw [beq_eq_false_iff_ne]
 rintro rfl
 simp only [Bool.or_eq_false_iff] at hb
 rcases yfB h c hc with q|q|q
 ·rw [hb.1.1] at q;cases q
 ·rw [hb.1.2] at q;cases q
 ·rw [q] at hb;exact absurd hb.2 (by decide)
theorem zmI {P:List UInt8→Prop} (h0:P []): ∀{r o:List (List UInt8)},(∀s∈r,P s)→(∀s∈o,P s)→ ∃q:List (List UInt8),goD r (o.map (47:: ·))=q.map (47:: ·)∧ ∀s∈q,P s
 |[],o,_,ho=>⟨o,rfl,ho⟩
 |[s],o,hr,ho=>by
  have hd:(o.map (47:: ·)).dropLast=o.dropLast.map (47:: ·):=(List.map_dropLast ..).symm
  have push: ∀(o:List (List UInt8)) (t:List UInt8),(∀s∈o,P s)→P t→ ∃q:List (List UInt8),o.map (47:: ·)++[47::t]=q.map (47:: ·)∧ ∀s∈q,P s:=fun o t ho ht=>⟨o++[t],by simp,fun s hs=>by
   rcases List.mem_append.1 hs with hs|hs
   ·exact ho s hs
   ·simp at hs;exact hs▸ht⟩
  unfold goD
  split
  ·exact push o [] ho h0
  ·split
   ·rw [hd]
    exact push _ [] (fun s hs=>ho s (List.dropLast_subset _ hs)) h0
   ·exact push o s ho (hr s (by simp))
 |s::t::r,o,hr,ho=>by
  have hd:(o.map (47:: ·)).dropLast=o.dropLast.map (47:: ·):=(List.map_dropLast ..).symm
  have hr': ∀x∈t::r,P x:=fun x hx=>hr x (by simp at hx ⊢;exact .inr hx)
  rw [zrN]
  split
  ·exact zmI h0 hr' ho
  ·split
   ·rw [hd]
    exact zmI h0 hr' fun s hs=>ho s (List.dropLast_subset _ hs)
   ·have:=zmI h0 (r:=t::r) (o:=o++[s]) hr' fun x hx=>by
     rcases List.mem_append.1 hx with hx|hx
     ·exact ho x hx
     ·simp at hx;exact hx▸hr s (by simp)
    simpa using this
theorem zuN {of:List UInt8} (h47:of.contains 47=true) {l:List UInt8} (h:isA of (47::l)=true):isA of (zbQ (47::l))=true:=by
 obtain ⟨h1,h2,h3⟩:=zrR l
 have hj:(47::l:List UInt8)=zbL ((cutD l).1::(cutD l).2):=by show 47::l=47::(cutD l).1++zbL (cutD l).2;rw [List.cons_append,←h1]
 have hpl: ∀s∈(cutD l).1::(cutD l).2,zgS s:=fun s hs=>by
  rcases List.mem_cons.1 hs with rfl|hs
  ·exact h2
  ·exact h3 s hs
 rw [hj,zrC h47,List.all_eq_true] at h
 unfold zbQ
 rw [hj,z1N _ [] hpl]
 obtain ⟨q,e,hq⟩:=zmI (P:=fun s=>isA of s=true) rfl (o:=[]) h fun _ h=>by cases h
 rw [List.map_nil] at e
 rw [e,zsG,zrC h47,List.all_eq_true]
 exact hq
theorem zyV:zbQ []=[]:=by unfold zbQ;rw [ziL];rfl
theorem zkC {p:List UInt8} (h:p=[]∨p.head? =some 47) (hs:isA [58,64,47] p=true):(zbQ p=[]∨(zbQ p).head? =some 47)∧isA [58,64,47] (zbQ p)=true:=by
 rcases h with rfl|h
 ·rw [zyV];exact ⟨.inl rfl,rfl⟩
 ·cases p with
  |nil=>cases h
  |cons c l=>
   simp only [List.head?_cons,Option.some.injEq] at h
   subst h
   obtain ⟨m,hm⟩:=zuB l
   exact ⟨.inr (by rw [hm];rfl),zuN (by decide) hs⟩
/-! ### parts that are put together,and cut again -/
structure WFA (p:PZ):Prop where
 sch:p.hasS=true→ ∀c∈p.scheme,zfO c=false
 auth:p.hasA=true→zdV (zeI p)=(p.hasU,p.user,p.host,p.hasP,p.port)
 site:p.hasA=true→ ∀c∈zeI p,c≠47∧c≠63∧c≠35
 path: ∀c∈p.path,c≠63∧c≠35
 slash:p.hasA=true→p.path=[]∨p.path.head? =some 47
 qry: ∀c∈p.query,c≠35
 noQ:p.hasQ=false→p.query=[]
 noF:p.hasF=false→p.frag=[]
theorem z1R {l:List UInt8} {b:UInt8} (h: ∀c∈l,c≠b): ∀c∈l,(c==b)=false:=fun c hc=>beq_eq_false_iff_ne.2 (h c hc)
theorem zpQ {p:PZ} (h:WFA p) (hS:p.hasS=true) (hA:p.hasA=true):zbM (zbJ p)=p:=by
 have e0:zbJ p=p.scheme++58::((47::47::(zeI p++p.path))++(if p.hasQ then 63::p.query else [])++(if p.hasF then 35::p.frag else [])):=by
  unfold zbJ zwQ zeI
  rw [hS,hA]
  simp [List.append_assoc]
 have e1:zaK (zbJ p)=(true,p.scheme,(47::47::(zeI p++p.path))++(if p.hasQ then 63::p.query else [])++(if p.hasF then 35::p.frag else [])):=by
  unfold zaK
  rw [e0,zeA zfO (h.sch hS) (.inr ⟨58,_,rfl,by decide⟩)]
  rfl
 have hsite:=h.site hA
 have hpre: ∀b:UInt8,b=63∨b=35→ ∀c∈(47::47::(zeI p++p.path)),c≠b:=fun b hb c hc=>by
  rcases List.mem_cons.1 hc with rfl|hc
  ·rcases hb with rfl|rfl<;>decide
  rcases List.mem_cons.1 hc with rfl|hc
  ·rcases hb with rfl|rfl<;>decide
  rcases List.mem_append.1 hc with hc|hc
  ·have:=hsite c hc
   rcases hb with rfl|rfl
   ·exact this.2.1
   ·exact this.2.2
  ·have:=h.path c hc
   rcases hb with rfl|rfl
   ·exact this.1
   ·exact this.2
 have hq35: ∀c∈(47::47::(zeI p++p.path))++(if p.hasQ then 63::p.query else []),(c==35)=false:=z1R fun c hc=>by
  rcases List.mem_append.1 hc with hc|hc
  ·exact hpre 35 (.inr rfl) c hc
  ·split at hc
   ·rcases List.mem_cons.1 hc with rfl|hc
    ·decide
    ·exact h.qry c hc
   ·cases hc
 have e2:cutA 35 ((47::47::(zeI p++p.path))++(if p.hasQ then 63::p.query else [])++(if p.hasF then 35::p.frag else []))=((47::47::(zeI p++p.path))++(if p.hasQ then 63::p.query else []),p.hasF,p.frag):=by
  cases hf:p.hasF with
  |true=>rw [if_pos rfl];exact zsE hq35 _
  |false=>rw [h.noF hf];simp only [Bool.false_eq_true,if_false,List.append_nil];exact ziG hq35
 have e3:cutA 63 ((47::47::(zeI p++p.path))++(if p.hasQ then 63::p.query else []))=(47::47::(zeI p++p.path),p.hasQ,p.query):=by
  cases hf:p.hasQ with
  |true=>rw [if_pos rfl];exact zsE (z1R (hpre 63 (.inl rfl))) _
  |false=>rw [h.noQ hf];simp only [Bool.false_eq_true,if_false,List.append_nil];exact ziG (z1R (hpre 63 (.inl rfl)))
 have e4:zdA (47::47::(zeI p++p.path))=(p.path,true,(p.hasU,p.user,p.host,p.hasP,p.port)):=by
  show ((zaO (· ==47) (zeI p++p.path)).2,true,zdV (zaO (· ==47) (zeI p++p.path)).1)=_
  rw [zeA (· ==47) (z1R fun c hc=>(hsite c hc).1),h.auth hA]
  rcases h.slash hA with q|q
  ·exact .inl q
  ·right
   cases hp:p.path with
   |nil=>rw [hp] at q;cases q
   |cons c r=>
    rw [hp] at q
    simp only [List.head?_cons,Option.some.injEq] at q
    exact ⟨c,r,rfl,by simp [q]⟩
 unfold zbM
 simp only [e1,e2,e3,e4]
 cases p
 simp only at hS hA ⊢
 rw [hS,hA]
theorem zzM (s:List UInt8):WFA (zbM s):=by
 obtain ⟨_,f2,f3⟩:=zhA 35 (zaK s).2.2
 obtain ⟨q1,q2,q3⟩:=zhA 63 (cutA 35 (zaK s).2.2).1
 have hin: ∀c∈(cutA 63 (cutA 35 (zaK s).2.2).1).1,c≠63∧c≠35:=fun c hc=>⟨by simpa using q2 c hc,by simpa using f2 c (by rw [q1];exact List.mem_append.2 (.inl hc))⟩
 have hx:=z1T (cutA 63 (cutA 35 (zaK s).2.2).1).1
 refine ⟨?_,?_,?_,?_,?_,?_,?_,?_⟩
 ·intro h
  have n:=zdW zfO s
  unfold zbM at h ⊢
  simp only at h ⊢
  unfold zaK at h ⊢
  split at h
  ·exact n
  ·cases h
 ·intro h
  unfold zbM at h ⊢
  unfold zeI
  simp only at h ⊢
  unfold zdA at h ⊢
  split at h
  ·simp only
   rw [←zrT]
  ·cases h
 ·intro h c hc
  have hc2:c∈(cutA 63 (cutA 35 (zaK s).2.2).1).1∧c≠47:=by
   unfold zbM at h hc
   unfold zeI at hc
   simp only at h hc
   generalize (cutA 63 (cutA 35 (zaK s).2.2).1).1=P at*
   unfold zdA at h hc
   split at h
   ·rename_i r
    simp only at hc
    rw [←zrT] at hc
    have a:=zcR (· ==47) r
    have n:=zdW (· ==47) r c hc
    refine ⟨?_,by simpa using n⟩
    rw [a]
    simp [hc]
   ·cases h
  have:=hin c hc2.1
  exact ⟨hc2.2,this⟩
 ·intro c hc
  refine hin c ?_
  rw [hx]
  exact List.mem_append.2 (.inr hc)
 ·intro h
  unfold zbM at h ⊢
  simp only at h ⊢
  unfold zdA at h ⊢
  split at h
  ·rename_i r _
   rcases zhG (· ==47) r with q|⟨c,t,q,hc⟩
   ·exact .inl q
   ·right
    have hc:c=47:=by simpa using hc
    simp only
    rw [q,hc];rfl
  ·cases h
 ·intro c hc
  have:c∈(cutA 35 (zaK s).2.2).1:=by
   unfold zbM at hc
   simp only at hc
   rw [q1]
   cases hb:(cutA 63 (cutA 35 (zaK s).2.2).1).2.1 with
   |true=>simp [hc]
   |false=>rw [q3 hb] at hc;cases hc
  simpa using f2 c this
 ·exact q3
 ·exact f3
theorem z4M {l:List UInt8} (h:l.head? =some 47): ∃x y,l=x++47::y∧l.take (ziV l)=x++[47]:=by
 rcases Lib.lastIdx_spec ⟨l.toArray⟩ 47 l.length with ⟨_,h2⟩|⟨i,hi,e,h3,_⟩
 ·cases l with
  |nil=>cases h
  |cons c l=>
   simp only [List.head?_cons,Option.some.injEq] at h
   subst h
   have:=h2 0 (by simp)
   rw [z3J _ _ (by simp)] at this
   exact absurd rfl this
 ·rw [z3J _ _ hi] at h3
  have h47:l[i]=47:=u8A h3
  have hf:ziV l=i+1:=by unfold ziV zyC;rw [e];omega
  refine ⟨l.take i,l.drop (i+1),?_,?_⟩
  ·rw [←h47,←List.drop_eq_getElem_cons hi,List.take_append_drop]
  ·rw [hf,List.take_add_one,List.getElem?_eq_getElem hi,h47];rfl
theorem zyN {of b p:List UInt8} (h47:of.contains 47=true) (hb:b=[]∨b.head? =some 47) (h1:isA of b=true) (h2:isA of p=true):(zeG b true p).head? =some 47∧isA of (zeG b true p)=true:=by
 unfold zeG
 rcases hb with rfl|hb
 ·exact ⟨rfl,by show isA of (47::p)=true;rw [z7J h47];exact h2⟩
 ·have hne:b.isEmpty=false:=by cases b with|nil=>cases hb|cons c b=>rfl
  rw [hne]
  obtain ⟨x,y,e1,e2⟩:=z4M hb
  rw [if_neg (by simp),e2]
  have e3:x++[47]++p=x++47::p:=by simp
  rw [e1,zkL,Bool.and_eq_true] at h1
  rw [e3,zkL,h1.1,z7J h47,h2]
  refine ⟨?_,rfl⟩
  cases x with
  |nil=>rfl
  |cons c x=>rw [e1] at hb;exact hb
theorem ztZ (b p:List UInt8) (r:Bool):(zeG b r p).length≤b.length+p.length+1:=by
 unfold zeG
 split
 ·simp
 ·rw [List.length_append,List.length_take];omega
theorem znJ (b r:PZ):(zdF b r).length≤b.path.length+r.path.length+1:=by
 unfold zdF
 split
 ·have:=zgH r.path;omega
 ·split
  ·omega
  ·have:=zgH (zeG b.path b.hasA r.path)
   have:=ztZ b.path r.path b.hasA
   omega
theorem yjG {b r:PZ} (hA:b.hasA=true) (hb:b.path=[]∨b.path.head? =some 47) (hbs:isA [58,64,47] b.path=true) (hrs:isA [58,64,47] r.path=true) (hr:r.hasA=true→r.path=[]∨r.path.head? =some 47) (h:r.hasS=true→r.hasA=true):
  (zdF b r=[]∨(zdF b r).head? =some 47)∧isA [58,64,47] (zdF b r)=true:=by
 unfold zdF
 split
 ·rename_i hc
  refine zkC ?_ hrs
  rcases hc with hc|hc|hc
  ·exact hr (h hc)
  ·exact hr hc
  ·exact .inr hc
 ·split
  ·exact ⟨hb,hbs⟩
  ·rw [hA]
   have:=zyN (of:=[58,64,47]) (by decide) hb hbs hrs
   exact zkC (.inr this.1) this.2
theorem zzD (b r:PZ):(zbJ (zaV b r)).length≤(zbJ b).length+(zbJ r).length+1:=by
 have hp:=znJ b r
 have lS: ∀(c:Bool) (x:List UInt8),(if c=true then x else []).length≤x.length:=fun c x=>by split<;>simp
 unfold zaV
 split
 ·have:(zdF b r).length≤r.path.length:=by
   unfold zdF;rw [if_pos (.inl (by assumption))];exact zgH _
  unfold zbJ zwQ
  simp only [List.length_append]
  omega
 ·split
  ·have:(zdF b r).length≤r.path.length:=by
    unfold zdF;rw [if_pos (.inr (.inl (by assumption)))];exact zgH _
   unfold zbJ zwQ
   simp only [List.length_append]
   omega
  ·split
   ·unfold zbJ zwQ
    simp only [List.length_append]
    omega
   ·unfold zbJ zwQ
    simp only [List.length_append]
    omega
theorem zjP {six:List UInt8→Bool} {p:PZ} (hA:p.hasA=true) (h:zgJ six p=true):(isA [58] p.user&&zgP six p.host&&p.port.all zdL)=true∧isA [58,64,47] p.path=true∧isA [58,64,47,63] p.query=true∧isA [58,64,47,63] p.frag=true:=by
 unfold zgJ zpH at h
 rw [hA] at h
 simp only [Bool.not_true,Bool.false_or,Bool.and_eq_true] at h ⊢
 exact ⟨h.1.1.1,h.1.1.2.1,h.1.2,h.2⟩
theorem zzG {six:List UInt8→Bool} {p:PZ} (h:zgJ six p=true):isA [58,64,47] p.path=true∧isA [58,64,47,63] p.query=true∧isA [58,64,47,63] p.frag=true:=by
 unfold zgJ zpH at h
 simp only [Bool.and_eq_true] at h
 exact ⟨h.1.1.2.1,h.1.2,h.2⟩
theorem ziT {six:List UInt8→Bool} {p:PZ} (hA:p.hasA=true) (h1:(isA [58] p.user&&zgP six p.host&&p.port.all zdL)=true) (h2:isA [58,64,47] p.path=true) (h3:p.path=[]∨p.path.head? =some 47) (h4:isA [58,64,47,63] p.query=true) (h5:isA [58,64,47,63] p.frag=true):zgJ six p=true:=by
 unfold zgJ zpH
 rw [hA,h1,h2,h4,h5]
 rcases h3 with h3|h3<;>simp [h3]
theorem z5H {p:List UInt8} (h:isA [58,64,47] p=true): ∀c∈p,c≠63∧c≠35:=fun c hc=>
 ⟨by simpa using ydF h (b:=63) (by decide) c hc,by simpa using ydF h (b:=35) (by decide) c hc⟩
theorem zsR {six:List UInt8→Bool} {x s:List UInt8} {b r:PZ} (hb:zaW six x=(b,0)) (hr:zaW six s=(r,0)) (hS:b.hasS=true) (hA:b.hasA=true) (h:r.hasS=true→r.hasA=true) (hx:x.length+s.length<4096):
  zaW six (zbJ (zaV b r))=(zaV b r,0)∧(zaV b r).hasS=true∧(zaV b r).hasA=true:=by
 obtain ⟨_,b2,b3,b4⟩:=ziF (six:=six) (s:=x) (by rw [hb])
 obtain ⟨_,r2,r3,r4⟩:=ziF (six:=six) (s:=s) (by rw [hr])
 rw [b4] at hb
 rw [r4] at hr
 have wb:=zzM x
 have wr:=zzM s
 have tb:=zqP x
 have tr:=zqP s
 rw [show zbM x=b from congrArg Prod.fst hb] at b2 b3 wb tb
 rw [show zbM s=r from congrArg Prod.fst hr] at r2 r3 wr tr
 clear hb hr b4 r4
 obtain ⟨vb1,vb2,vb3,vb4⟩:=zjP hA b3
 obtain ⟨vr2,vr3,vr4⟩:=zzG r3
 obtain ⟨p1,p2⟩:=yjG hA (wb.slash hA) vb2 vr2 wr.slash h
 have pm:=z5H p2
 have hlen:=zzD b r
 rw [tb,tr] at hlen
 have key:WFA (zaV b r)∧(zaV b r).hasS=true∧(zaV b r).hasA=true∧((zaV b r).hasS&& !zdR (zaV b r).scheme)=false∧zgJ six (zaV b r)=true:=by
  unfold zaV
  split
  ·rename_i c1
   have rA:=h c1
   obtain ⟨vr1,_⟩:=zjP rA r3
   exact ⟨⟨wr.sch,wr.auth,wr.site,pm,fun _=>p1,wr.qry,wr.noQ,wr.noF⟩,c1,rA,r2,ziT rA vr1 p2 p1 vr3 vr4⟩
  ·split
   ·rename_i rA
    obtain ⟨vr1,_⟩:=zjP rA r3
    exact ⟨⟨wb.sch,wr.auth,wr.site,pm,fun _=>p1,wr.qry,wr.noQ,wr.noF⟩,hS,rA,b2,ziT rA vr1 p2 p1 vr3 vr4⟩
   ·split
    ·exact ⟨⟨wb.sch,wb.auth,wb.site,pm,fun _=>p1,wb.qry,wb.noQ,wr.noF⟩,hS,hA,b2,ziT hA vb1 p2 p1 vb3 vr4⟩
    ·exact ⟨⟨wb.sch,wb.auth,wb.site,pm,fun _=>p1,wr.qry,wr.noQ,wr.noF⟩,hS,hA,b2,ziT hA vb1 p2 p1 vr3 vr4⟩
 obtain ⟨k1,k2,k3,k4,k5⟩:=key
 exact ⟨ztT (zpQ k1 k2 k3) (by omega) k4 k5,k2,k3⟩
theorem zsW (b:PZ):zaV b zaS=ykG b:=by
 unfold zaV zaS zdF
 simp [ykG]
def zcH (u:UZ):PZ:=⟨u.scheme,true,if u.user=[]∧u.pass=[] then [] else upW u,!(u.user++u.pass).isEmpty,zdG u.host,true,if u.port= -1 then [] else Lib.itoa u.port,u.port != -1,zbK u.path,u.query,u.hasQ,u.frag,u.hasF⟩
theorem z1H {u:UZ} (h:u.user=[]∧u.pass=[]):(!(u.user++u.pass).isEmpty)=false:=by rw [h.1,h.2];rfl
theorem z1S {u:UZ} (h: ¬(u.user=[]∧u.pass=[])):(!(u.user++u.pass).isEmpty)=true:=by
 rw [Bool.not_eq_true',List.isEmpty_eq_false_iff]
 exact fun q=>h (List.append_eq_nil_iff.1 q)
theorem zxD (u:UZ):zeI (zcH u)=whoU u++zdD u:=by
 rw [zyE]
 unfold zeI zcH zdD
 simp only
 by_cases h:u.user=[]∧u.pass=[]
 ·rw [z1H h,if_pos h]
  by_cases hp:u.port= -1
  ·rw [if_pos hp,hp];simp [h.1,h.2]
  ·rw [if_neg hp,if_neg hp,bne_iff_ne.2 hp];simp [h.1,h.2]
 ·rw [z1S h,if_neg h,if_neg h]
  by_cases hp:u.port= -1
  ·rw [if_pos hp,hp];simp
  ·rw [if_neg hp,if_neg hp,bne_iff_ne.2 hp];simp
theorem z2H (u:UZ):zbJ (zcH u)=zfQ u:=by
 have h:=zxD u
 unfold zbJ zwQ
 unfold zeI at h
 unfold zfQ zcW yiK askU
 rw [show (zcH u).hasS=true from rfl,show (zcH u).hasA=true from rfl,h]
 unfold zcH
 simp [List.append_assoc]
theorem z4Z {a:List UInt8} (h: ∀c∈a,c≠58∧c≠93):zcM a=(a,false,[]):=by
 unfold zcM
 rw [zpL (fun c=>c==58||c==93) (a:=a.reverse) fun c hc=>by
  have:=h c (by simpa using hc)
  simp [this.1,this.2]]
theorem z4T (m:List UInt8):zcM (m++[93])=(m++[93],false,[]):=by
 unfold zcM
 rw [List.reverse_append]
 have e:zaO (fun c=>c==58||c==93) ([93].reverse++m.reverse)=([],93::m.reverse):=by
  show (if _ then _ else _)=_
  rw [if_pos (by decide)];rfl
 rw [e]
 rfl
theorem z4X (a:List UInt8) {d:List UInt8} (h: ∀c∈d,c≠58∧c≠93):zcM (a++58::d)=(a,true,d):=by
 unfold zcM
 have e:(a++58::d).reverse=d.reverse++58::a.reverse:=by simp
 rw [e,zeA (fun c=>c==58||c==93) (a:=d.reverse) (fun c hc=>by
  have:=h c (by simpa using hc)
  simp [this.1,this.2]) (.inr ⟨58,a.reverse,rfl,by decide⟩)]
 simp
theorem ydL {u:UZ} (h:zfE u):zcM (zdD u)=(zdG u.host,u.port != -1,if u.port= -1 then [] else Lib.itoa u.port):=by
 unfold zdD
 by_cases hp:u.port= -1
 ·rw [if_pos hp,if_pos hp,hp]
  rcases znU h.host with q|⟨m,q,_⟩
  ·exact z4Z fun c hc=>by have:=zuQ (q c hc);exact ⟨this.2.1,this.2.2.2.1⟩
  ·rw [q];exact z4T _
 ·rw [if_neg hp,if_neg hp,bne_iff_ne.2 hp,List.append_assoc]
  refine z4X _ fun c hc=> ?_
  have:=ztY (n:=u.port) (by have:=h.port.1;omega) c hc
  exact ⟨fun e=>by rw [e] at this;exact absurd this.2 (by decide),fun e=>by rw [e] at this;exact absurd this.2 (by decide)⟩
theorem yoB {u:UZ} (h:zfE u) (he:zhQ u):zdV (whoU u++zdD u)=((zcH u).hasU,(zcH u).user,(zcH u).host,(zcH u).hasP,(zcH u).port):=by
 have hn64: ∀c∈zdD u,(c==64)=false:=ziI (zxQ (ztW h) (by decide))
 rw [zyE]
 unfold zcH
 simp only
 by_cases g:u.user=[]∧u.pass=[]
 ·rw [if_pos g,if_pos g,List.nil_append,z1H g]
  unfold zdV
  rw [ziG hn64,ydL h]
 ·rw [if_neg g,if_neg g,z1S g]
  have hn: ∀c∈upW u,(c==64)=false:=by
   unfold upW
   refine ymT (ziI (zxQ (zmO he.user) (by decide))) fun c hc=> ?_
   split at hc
   ·cases hc
   ·rcases List.mem_cons.1 hc with rfl|hc
    ·rfl
    ·exact ziI (zxQ (zmO he.pass) (by decide)) c hc
  have e6:upW u++[64]++zdD u=upW u++64::zdD u:=by simp
  unfold zdV
  rw [e6,zsE hn]
  show (true,upW u,(zcM (zdD u)).1,(zcM (zdD u)).2.1,(zcM (zdD u)).2.2)=_
  rw [ydL h]
theorem ycN {u:UZ} (h:zfE u) (he:zhQ u):WFA (zcH u):=by
 have hA: ∀c∈whoU u++zdD u,hasB [47,92,63,35] c=false:=fun c hc=>by
  rcases List.mem_append.1 hc with hc|hc
  ·exact ygB he c hc
  ·exact zsV (ztW h) c hc
 refine ⟨fun _=> ?_,fun _=> ?_,fun _=> ?_,?_,fun _=> ?_,?_,h.noQ,h.noF⟩
 ·show ∀c∈u.scheme,zfO c=false
  rcases h.sch with e|e<;>rw [e]<;>decide
 ·rw [zxD];exact yoB h he
 ·rw [zxD]
  intro c hc
  exact ⟨by simpa using zrS hA (b:=47) (by decide) c hc,by simpa using zrS hA (b:=63) (by decide) c hc,by simpa using zrS hA (b:=35) (by decide) c hc⟩
 ·show ∀c∈zbK u.path,c≠63∧c≠35
  exact fun c hc=>⟨by simpa using ziI (z2S h.segs (c:=63) (by decide) (by decide)) c hc,by simpa using ziI (z2S h.segs (c:=35) (by decide) (by decide)) c hc⟩
 ·show zbK u.path=[]∨(zbK u.path).head? =some 47
  cases u.path with
  |nil=>exact .inl rfl
  |cons s t=>exact .inr rfl
 ·show ∀c∈u.query,c≠35
  exact fun c hc=>by simpa using ziI (zrE h.qry (c:=35) (by decide)) c hc
theorem yeO {u:UZ} (h:zfE u) (he:zhQ u):zbM (zfQ u)=zcH u:=by
 rw [←z2H]
 exact zpQ (ycN h he) rfl rfl
/-! ### sites -/
end
end Go.Proofs.YtmjappnpedjlnaaGreatDoor
