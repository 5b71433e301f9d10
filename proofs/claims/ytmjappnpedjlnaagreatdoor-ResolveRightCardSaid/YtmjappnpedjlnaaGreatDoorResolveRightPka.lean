/-
  What the law ResolveRight leans on, and its walk (26 of 42).
-/
import Derived.Test.YtmjappnpedjlnaaGreatDoorResolveRightPkM
import Derived.Test.YtmjappnpedjlnaaGreatDoorResolveRightPkN
import Derived.Test.YtmjappnpedjlnaaGreatDoorResolveRightPkZ
namespace Go.Proofs.YtmjappnpedjlnaaGreatDoor
set_option maxRecDepth 100000
set_option maxHeartbeats 16000000
section
open Go.RowKit
def zbZ (b r:PZ):List UInt8:=
 if r.hasS=true∨r.hasA=true∨r.path.head? =some 47 then zbG r.path
 else if r.path=[] then b.path
 else zbG (zcY b.path b.hasA r.path)
def zaG (b r:PZ):PZ:=
 if r.hasS=true then {r with path:=zbZ b r}
 else if r.hasA=true then {r with scheme:=b.scheme,hasS:=b.hasS,path:=zbZ b r}
 else if r.path=[]∧r.hasQ=false then {b with path:=zbZ b r,frag:=r.frag,hasF:=r.hasF}
 else {b with path:=zbZ b r,query:=r.query,hasQ:=r.hasQ,frag:=r.frag,hasF:=r.hasF}
/-! ### signs,step by step -/
theorem zqI (c:UInt8) (a r:List UInt8):pctA (c::(a++47::r))=pctA (c::a):=by
 match a with
 |[]=>
  match r with
  |[]=>rfl
  |e::r=>show (c==37&&hexA 47&&hexA e)=false;rw [show hexA 47=false by decide];simp
 |[d]=>show (c==37&&hexA d&&hexA 47)=false;rw [show hexA 47=false by decide];simp
 |d::e::a=>rfl
theorem zfC (of:List UInt8): ∀(a r:List UInt8),isA of (a++47::r)=(isA of a&&isA of (47::r))
 |[],r=>by simp [isA]
 |c::a,r=>by
  rw [List.cons_append,zdO,zdO,zqI,zfC of a r,Bool.and_assoc]
theorem ztM {of:List UInt8} (h:of.contains 47=true) (r:List UInt8):isA of (47::r)=isA of r:=by
 rw [zdO,h]
 simp
theorem zjB {of:List UInt8} (h:of.contains 47=true): ∀ps:List (List UInt8),isA of (zbE ps)=ps.all (isA of)
 |[]=>rfl
 |s::r=>by
  show isA of (47::(s++zbE r))=_
  rw [ztM h,List.all_cons,←zjB h r]
  cases r with
  |nil=>simp [zbE,isA]
  |cons t r=>exact zfC of s (t++zbE r)
theorem zrR {of:List UInt8}: ∀{l:List UInt8},isA of l=true→ ∀c∈l,zeN c=true∨of.contains c=true∨c=37
 |c::l,h,d,hd=>by
  rw [zdO,Bool.and_eq_true] at h
  rcases List.mem_cons.1 hd with rfl|hd
  ·have h:=h.1
   simp only [Bool.or_eq_true] at h
   rcases h with (h|h)|h
   ·exact .inl h
   ·refine .inr (.inr ?_)
    match l,h with
    |e::f::l,h=>
     simp only [pctA,Bool.and_eq_true,beq_iff_eq] at h
     exact h.1.1
   ·exact .inr (.inl h)
  ·exact zrR h.2 d hd
theorem zqQ {of l:List UInt8} (h:isA of l=true) {b:UInt8} (hb:(zeN b||of.contains b||b==37)=false): ∀c∈l,(c==b)=false:=fun c hc=>by
 rw [beq_eq_false_iff_ne]
 rintro rfl
 simp only [Bool.or_eq_false_iff] at hb
 rcases zrR h c hc with q|q|q
 ·rw [hb.1.1] at q;cases q
 ·rw [hb.1.2] at q;cases q
 ·rw [q] at hb;exact absurd hb.2 (by decide)
theorem zgI {P:List UInt8→Prop} (h0:P []): ∀{r o:List (List UInt8)},(∀s∈r,P s)→(∀s∈o,P s)→ ∃q:List (List UInt8),goD r (o.map (47:: ·))=q.map (47:: ·)∧ ∀s∈q,P s
 |[],o,_,ho=>⟨o,rfl,ho⟩
 |[s],o,hr,ho=>by
  have hd:(o.map (47:: ·)).dropLast=o.dropLast.map (47:: ·):=(List.map_dropLast ..).symm
  have push: ∀(o:List (List UInt8)) (t:List UInt8),(∀s∈o,P s)→P t→ ∃q:List (List UInt8),o.map (47:: ·)++[47::t]=q.map (47:: ·)∧ ∀s∈q,P s:=fun o t ho ht=>⟨o++[t],by simp,fun s hs=>by
   rcases List.mem_append.1 hs with hs|hs
   ·exact ho s hs
   ·simp at hs;exact hs▸ht⟩
  unfold goD
  split
  ·exact push o [] ho h0
  ·split
   ·rw [hd]
    exact push _ [] (fun s hs=>ho s (List.dropLast_subset _ hs)) h0
   ·exact push o s ho (hr s (by simp))
 |s::t::r,o,hr,ho=>by
  have hd:(o.map (47:: ·)).dropLast=o.dropLast.map (47:: ·):=(List.map_dropLast ..).symm
  have hr': ∀x∈t::r,P x:=fun x hx=>hr x (by simp at hx ⊢;exact .inr hx)
  rw [zwP]
  split
  ·exact zgI h0 hr' ho
  ·split
   ·rw [hd]
    exact zgI h0 hr' fun s hs=>ho s (List.dropLast_subset _ hs)
   ·have:=zgI h0 (r:=t::r) (o:=o++[s]) hr' fun x hx=>by
     rcases List.mem_append.1 hx with hx|hx
     ·exact ho x hx
     ·simp at hx;exact hx▸hr s (by simp)
    simpa using this
theorem zjR {of:List UInt8} (h47:of.contains 47=true) {l:List UInt8} (h:isA of (47::l)=true):isA of (zbG (47::l))=true:=by
 obtain ⟨h1,h2,h3⟩:=zrF l
 have hj:(47::l:List UInt8)=zbE ((cutD l).1::(cutD l).2):=by show 47::l=47::(cutD l).1++zbE (cutD l).2;rw [List.cons_append,←h1]
 have hpl: ∀s∈(cutD l).1::(cutD l).2,zgQ s:=fun s hs=>by
  rcases List.mem_cons.1 hs with rfl|hs
  ·exact h2
  ·exact h3 s hs
 rw [hj,zjB h47,List.all_eq_true] at h
 unfold zbG
 rw [hj,zrY _ [] hpl]
 obtain ⟨q,e,hq⟩:=zgI (P:=fun s=>isA of s=true) rfl (o:=[]) h fun _ h=>by cases h
 rw [List.map_nil] at e
 rw [e,zmW,zjB h47,List.all_eq_true]
 exact hq
theorem zmE:zbG []=[]:=by unfold zbG;rw [zeK];rfl
theorem zeX {p:List UInt8} (h:p=[]∨p.head? =some 47) (hs:isA [58,64,47] p=true):(zbG p=[]∨(zbG p).head? =some 47)∧isA [58,64,47] (zbG p)=true:=by
 rcases h with rfl|h
 ·rw [zmE];exact ⟨.inl rfl,rfl⟩
 ·cases p with
  |nil=>cases h
  |cons c l=>
   simp only [List.head?_cons,Option.some.injEq] at h
   subst h
   obtain ⟨m,hm⟩:=zjW l
   exact ⟨.inr (by rw [hm];rfl),zjR (by decide) hs⟩
/-! ### parts that are put together,and cut again -/
structure WFA (p:PZ):Prop where
 sch:p.hasS=true→ ∀c∈p.scheme,zbF c=false
 auth:p.hasA=true→zcM (zcT p)=(p.hasU,p.user,p.host,p.hasP,p.port)
 site:p.hasA=true→ ∀c∈zcT p,c≠47∧c≠63∧c≠35
 path: ∀c∈p.path,c≠63∧c≠35
 slash:p.hasA=true→p.path=[]∨p.path.head? =some 47
 qry: ∀c∈p.query,c≠35
 noQ:p.hasQ=false→p.query=[]
 noF:p.hasF=false→p.frag=[]
theorem znJ {l:List UInt8} {b:UInt8} (h: ∀c∈l,c≠b): ∀c∈l,(c==b)=false:=fun c hc=>beq_eq_false_iff_ne.2 (h c hc)
theorem zpN {p:PZ} (h:WFA p) (hS:p.hasS=true) (hA:p.hasA=true):zaP (zaN p)=p:=by
 have e0:zaN p=p.scheme++58::((47::47::(zcT p++p.path))++(if p.hasQ then 63::p.query else [])++(if p.hasF then 35::p.frag else [])):=by
  unfold zaN zhO zcT
  rw [hS,hA]
  simp [List.append_assoc]
 have e1:zaB (zaN p)=(true,p.scheme,(47::47::(zcT p++p.path))++(if p.hasQ then 63::p.query else [])++(if p.hasF then 35::p.frag else [])):=by
  unfold zaB
  rw [e0,zbS zbF (h.sch hS) (.inr ⟨58,_,rfl,by decide⟩)]
  rfl
 have hsite:=h.site hA
 have hpre: ∀b:UInt8,b=63∨b=35→ ∀c∈(47::47::(zcT p++p.path)),c≠b:=fun b hb c hc=>by
  rcases List.mem_cons.1 hc with rfl|hc
  ·rcases hb with rfl|rfl<;>decide
  rcases List.mem_cons.1 hc with rfl|hc
  ·rcases hb with rfl|rfl<;>decide
  rcases List.mem_append.1 hc with hc|hc
  ·have:=hsite c hc
   rcases hb with rfl|rfl
   ·exact this.2.1
   ·exact this.2.2
  ·have:=h.path c hc
   rcases hb with rfl|rfl
   ·exact this.1
   ·exact this.2
 have hq35: ∀c∈(47::47::(zcT p++p.path))++(if p.hasQ then 63::p.query else []),(c==35)=false:=znJ fun c hc=>by
  rcases List.mem_append.1 hc with hc|hc
  ·exact hpre 35 (.inr rfl) c hc
  ·split at hc
   ·rcases List.mem_cons.1 hc with rfl|hc
    ·decide
    ·exact h.qry c hc
   ·cases hc
 have e2:cutA 35 ((47::47::(zcT p++p.path))++(if p.hasQ then 63::p.query else [])++(if p.hasF then 35::p.frag else []))=((47::47::(zcT p++p.path))++(if p.hasQ then 63::p.query else []),p.hasF,p.frag):=by
  cases hf:p.hasF with
  |true=>rw [if_pos rfl];exact zmQ hq35 _
  |false=>rw [h.noF hf];simp only [Bool.false_eq_true,if_false,List.append_nil];exact zeB hq35
 have e3:cutA 63 ((47::47::(zcT p++p.path))++(if p.hasQ then 63::p.query else []))=(47::47::(zcT p++p.path),p.hasQ,p.query):=by
  cases hf:p.hasQ with
  |true=>rw [if_pos rfl];exact zmQ (znJ (hpre 63 (.inl rfl))) _
  |false=>rw [h.noQ hf];simp only [Bool.false_eq_true,if_false,List.append_nil];exact zeB (znJ (hpre 63 (.inl rfl)))
 have e4:zbR (47::47::(zcT p++p.path))=(p.path,true,(p.hasU,p.user,p.host,p.hasP,p.port)):=by
  show ((zaH (· ==47) (zcT p++p.path)).2,true,zcM (zaH (· ==47) (zcT p++p.path)).1)=_
  rw [zbS (· ==47) (znJ fun c hc=>(hsite c hc).1),h.auth hA]
  rcases h.slash hA with q|q
  ·exact .inl q
  ·right
   cases hp:p.path with
   |nil=>rw [hp] at q;cases q
   |cons c r=>
    rw [hp] at q
    simp only [List.head?_cons,Option.some.injEq] at q
    exact ⟨c,r,rfl,by simp [q]⟩
 unfold zaP
 simp only [e1,e2,e3,e4]
 cases p
 simp only at hS hA ⊢
 rw [hS,hA]
theorem znB (s:List UInt8):WFA (zaP s):=by
 obtain ⟨_,f2,f3⟩:=zcA 35 (zaB s).2.2
 obtain ⟨q1,q2,q3⟩:=zcA 63 (cutA 35 (zaB s).2.2).1
 have hin: ∀c∈(cutA 63 (cutA 35 (zaB s).2.2).1).1,c≠63∧c≠35:=fun c hc=>⟨by simpa using q2 c hc,by simpa using f2 c (by rw [q1];exact List.mem_append.2 (.inl hc))⟩
 have hx:=zgC (cutA 63 (cutA 35 (zaB s).2.2).1).1
 refine ⟨?_,?_,?_,?_,?_,?_,?_,?_⟩
 ·intro h
  have n:=zbP zbF s
  unfold zaP at h ⊢
  simp only at h ⊢
  unfold zaB at h ⊢
  split at h
  ·exact n
  ·cases h
 ·intro h
  unfold zaP at h ⊢
  unfold zcT
  simp only at h ⊢
  unfold zbR at h ⊢
  split at h
  ·simp only
   rw [←ziY]
  ·cases h
 ·intro h c hc
  have hc2:c∈(cutA 63 (cutA 35 (zaB s).2.2).1).1∧c≠47:=by
   unfold zaP at h hc
   unfold zcT at hc
   simp only at h hc
   generalize (cutA 63 (cutA 35 (zaB s).2.2).1).1=P at*
   unfold zbR at h hc
   split at h
   ·rename_i r
    simp only at hc
    rw [←ziY] at hc
    have a:=zbO (· ==47) r
    have n:=zbP (· ==47) r c hc
    refine ⟨?_,by simpa using n⟩
    rw [a]
    simp [hc]
   ·cases h
  have:=hin c hc2.1
  exact ⟨hc2.2,this⟩
 ·intro c hc
  refine hin c ?_
  rw [hx]
  exact List.mem_append.2 (.inr hc)
 ·intro h
  unfold zaP at h ⊢
  simp only at h ⊢
  unfold zbR at h ⊢
  split at h
  ·rename_i r _
   rcases zdA (· ==47) r with q|⟨c,t,q,hc⟩
   ·exact .inl q
   ·right
    have hc:c=47:=by simpa using hc
    simp only
    rw [q,hc];rfl
  ·cases h
 ·intro c hc
  have:c∈(cutA 35 (zaB s).2.2).1:=by
   unfold zaP at hc
   simp only at hc
   rw [q1]
   cases hb:(cutA 63 (cutA 35 (zaB s).2.2).1).2.1 with
   |true=>simp [hc]
   |false=>rw [q3 hb] at hc;cases hc
  simpa using f2 c this
 ·exact q3
 ·exact f3
theorem zpV {l:List UInt8} (h:l.head? =some 47): ∃x y,l=x++47::y∧l.take (zfJ l)=x++[47]:=by
 rcases Lib.lastIdx_spec ⟨l.toArray⟩ 47 l.length with ⟨_,h2⟩|⟨i,hi,e,h3,_⟩
 ·cases l with
  |nil=>cases h
  |cons c l=>
   simp only [List.head?_cons,Option.some.injEq] at h
   subst h
   have:=h2 0 (by simp)
   rw [zoX _ _ (by simp)] at this
   exact absurd rfl this
 ·rw [zoX _ _ hi] at h3
  have h47:l[i]=47:=u8A h3
  have hf:zfJ l=i+1:=by unfold zfJ zmN;rw [e];omega
  refine ⟨l.take i,l.drop (i+1),?_,?_⟩
  ·rw [←h47,←List.drop_eq_getElem_cons hi,List.take_append_drop]
  ·rw [hf,List.take_add_one,List.getElem?_eq_getElem hi,h47];rfl
theorem zlS {of b p:List UInt8} (h47:of.contains 47=true) (hb:b=[]∨b.head? =some 47) (h1:isA of b=true) (h2:isA of p=true):(zcY b true p).head? =some 47∧isA of (zcY b true p)=true:=by
 unfold zcY
 rcases hb with rfl|hb
 ·exact ⟨rfl,by show isA of (47::p)=true;rw [ztM h47];exact h2⟩
 ·have hne:b.isEmpty=false:=by cases b with|nil=>cases hb|cons c b=>rfl
  rw [hne]
  obtain ⟨x,y,e1,e2⟩:=zpV hb
  rw [if_neg (by simp),e2]
  have e3:x++[47]++p=x++47::p:=by simp
  rw [e1,zfC,Bool.and_eq_true] at h1
  rw [e3,zfC,h1.1,ztM h47,h2]
  refine ⟨?_,rfl⟩
  cases x with
  |nil=>rfl
  |cons c x=>rw [e1] at hb;exact hb
theorem zkC (b p:List UInt8) (r:Bool):(zcY b r p).length≤b.length+p.length+1:=by
 unfold zcY
 split
 ·simp
 ·rw [List.length_append,List.length_take];omega
theorem zhM (b r:PZ):(zbZ b r).length≤b.path.length+r.path.length+1:=by
 unfold zbZ
 split
 ·have:=zdJ r.path;omega
 ·split
  ·omega
  ·have:=zdJ (zcY b.path b.hasA r.path)
   have:=zkC b.path r.path b.hasA
   omega
theorem zuQ {b r:PZ} (hA:b.hasA=true) (hb:b.path=[]∨b.path.head? =some 47) (hbs:isA [58,64,47] b.path=true) (hrs:isA [58,64,47] r.path=true) (hr:r.hasA=true→r.path=[]∨r.path.head? =some 47) (h:r.hasS=true→r.hasA=true):
  (zbZ b r=[]∨(zbZ b r).head? =some 47)∧isA [58,64,47] (zbZ b r)=true:=by
 unfold zbZ
 split
 ·rename_i hc
  refine zeX ?_ hrs
  rcases hc with hc|hc|hc
  ·exact hr (h hc)
  ·exact hr hc
  ·exact .inr hc
 ·split
  ·exact ⟨hb,hbs⟩
  ·rw [hA]
   have:=zlS (of:=[58,64,47]) (by decide) hb hbs hrs
   exact zeX (.inr this.1) this.2
theorem zmJ (b r:PZ):(zaN (zaG b r)).length≤(zaN b).length+(zaN r).length+1:=by
 have hp:=zhM b r
 have lS: ∀(c:Bool) (x:List UInt8),(if c=true then x else []).length≤x.length:=fun c x=>by split<;>simp
 unfold zaG
 split
 ·have:(zbZ b r).length≤r.path.length:=by
   unfold zbZ;rw [if_pos (.inl (by assumption))];exact zdJ _
  unfold zaN zhO
  simp only [List.length_append]
  omega
 ·split
  ·have:(zbZ b r).length≤r.path.length:=by
    unfold zbZ;rw [if_pos (.inr (.inl (by assumption)))];exact zdJ _
   unfold zaN zhO
   simp only [List.length_append]
   omega
  ·split
   ·unfold zaN zhO
    simp only [List.length_append]
    omega
   ·unfold zaN zhO
    simp only [List.length_append]
    omega
theorem zeR {six:List UInt8→Bool} {p:PZ} (hA:p.hasA=true) (h:zcC six p=true):(isA [58] p.user&&zdK six p.host&&p.port.all zbT)=true∧isA [58,64,47] p.path=true∧isA [58,64,47,63] p.query=true∧isA [58,64,47,63] p.frag=true:=by
 unfold zcC zjY at h
 rw [hA] at h
 simp only [Bool.not_true,Bool.false_or,Bool.and_eq_true] at h ⊢
 exact ⟨h.1.1.1,h.1.1.2.1,h.1.2,h.2⟩
theorem zlV {six:List UInt8→Bool} {p:PZ} (h:zcC six p=true):isA [58,64,47] p.path=true∧isA [58,64,47,63] p.query=true∧isA [58,64,47,63] p.frag=true:=by
 unfold zcC zjY at h
 simp only [Bool.and_eq_true] at h
 exact ⟨h.1.1.2.1,h.1.2,h.2⟩
theorem zeG {six:List UInt8→Bool} {p:PZ} (hA:p.hasA=true) (h1:(isA [58] p.user&&zdK six p.host&&p.port.all zbT)=true) (h2:isA [58,64,47] p.path=true) (h3:p.path=[]∨p.path.head? =some 47) (h4:isA [58,64,47,63] p.query=true) (h5:isA [58,64,47,63] p.frag=true):zcC six p=true:=by
 unfold zcC zjY
 rw [hA,h1,h2,h4,h5]
 rcases h3 with h3|h3<;>simp [h3]
theorem zpL {p:List UInt8} (h:isA [58,64,47] p=true): ∀c∈p,c≠63∧c≠35:=fun c hc=>
 ⟨by simpa using zqQ h (b:=63) (by decide) c hc,by simpa using zqQ h (b:=35) (by decide) c hc⟩
theorem ziP {six:List UInt8→Bool} {x s:List UInt8} {b r:PZ} (hb:zaO six x=(b,0)) (hr:zaO six s=(r,0)) (hS:b.hasS=true) (hA:b.hasA=true) (h:r.hasS=true→r.hasA=true) (hx:x.length+s.length<4096):
  zaO six (zaN (zaG b r))=(zaG b r,0)∧(zaG b r).hasS=true∧(zaG b r).hasA=true:=by
 obtain ⟨_,b2,b3,b4⟩:=zfA (six:=six) (s:=x) (by rw [hb])
 obtain ⟨_,r2,r3,r4⟩:=zfA (six:=six) (s:=s) (by rw [hr])
 rw [b4] at hb
 rw [r4] at hr
 have wb:=znB x
 have wr:=znB s
 have tb:=zeJ x
 have tr:=zeJ s
 rw [show zaP x=b from congrArg Prod.fst hb] at b2 b3 wb tb
 rw [show zaP s=r from congrArg Prod.fst hr] at r2 r3 wr tr
 clear hb hr b4 r4
 obtain ⟨vb1,vb2,vb3,vb4⟩:=zeR hA b3
 obtain ⟨vr2,vr3,vr4⟩:=zlV r3
 obtain ⟨p1,p2⟩:=zuQ hA (wb.slash hA) vb2 vr2 wr.slash h
 have pm:=zpL p2
 have hlen:=zmJ b r
 rw [tb,tr] at hlen
 have key:WFA (zaG b r)∧(zaG b r).hasS=true∧(zaG b r).hasA=true∧((zaG b r).hasS&& !zbY (zaG b r).scheme)=false∧zcC six (zaG b r)=true:=by
  unfold zaG
  split
  ·rename_i c1
   have rA:=h c1
   obtain ⟨vr1,_⟩:=zeR rA r3
   exact ⟨⟨wr.sch,wr.auth,wr.site,pm,fun _=>p1,wr.qry,wr.noQ,wr.noF⟩,c1,rA,r2,zeG rA vr1 p2 p1 vr3 vr4⟩
  ·split
   ·rename_i rA
    obtain ⟨vr1,_⟩:=zeR rA r3
    exact ⟨⟨wb.sch,wr.auth,wr.site,pm,fun _=>p1,wr.qry,wr.noQ,wr.noF⟩,hS,rA,b2,zeG rA vr1 p2 p1 vr3 vr4⟩
   ·split
    ·exact ⟨⟨wb.sch,wb.auth,wb.site,pm,fun _=>p1,wb.qry,wb.noQ,wr.noF⟩,hS,hA,b2,zeG hA vb1 p2 p1 vb3 vr4⟩
    ·exact ⟨⟨wb.sch,wb.auth,wb.site,pm,fun _=>p1,wr.qry,wr.noQ,wr.noF⟩,hS,hA,b2,zeG hA vb1 p2 p1 vr3 vr4⟩
 obtain ⟨k1,k2,k3,k4,k5⟩:=key
 exact ⟨zhG (zpN k1 k2 k3) (by omega) k4 k5,k2,k3⟩
theorem zfH (b:PZ):zaG b zaM=zaR b:=by
 unfold zaG zaM zbZ
 simp [zaR]
theorem ztW (six:List UInt8→Bool):zaO six []=(zaM,0):=rfl
theorem zmF {b r:PZ} (hS:b.hasS=true) (hA:b.hasA=true):(zaG b r).hasS=true∧(r.hasS=false→(zaG b r).hasA=true):=by
 unfold zaG
 split
 ·rename_i h;exact ⟨h,fun q=>by rw [h] at q;cases q⟩
 ·split
  ·rename_i h;exact ⟨hS,fun _=>h⟩
  ·split<;>exact ⟨hS,fun _=>hA⟩
end
end Go.Proofs.YtmjappnpedjlnaaGreatDoor
