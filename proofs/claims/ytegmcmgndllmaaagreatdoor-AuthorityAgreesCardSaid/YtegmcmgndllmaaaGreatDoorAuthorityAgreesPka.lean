/-
  What the law AuthorityAgrees leans on, and its walk (26 of 43).
-/
import Derived.Test.YtegmcmgndllmaaaGreatDoorAuthorityAgreesPkM
import Derived.Test.YtegmcmgndllmaaaGreatDoorAuthorityAgreesPkV
import Derived.Test.YtegmcmgndllmaaaGreatDoorAuthorityAgreesPkZ
import Derived.Test.YtegmcmgndllmaaaGreatDoorAuthorityAgreesPkU
namespace Go.Proofs.YtegmcmgndllmaaaGreatDoor
set_option maxRecDepth 100000
set_option maxHeartbeats 16000000
section
open Go.RowKit
/-! ### signs,step by step -/
/-! ### parts that are put together,and cut again -/
structure WFA (p:PZ):Prop where
 sch:p.hasS=true→ ∀c∈p.scheme,zfJ c=false
 auth:p.hasA=true→zeT (zhC p)=(p.hasU,p.user,p.host,p.hasP,p.port)
 site:p.hasA=true→ ∀c∈zhC p,c≠47∧c≠63∧c≠35
 path: ∀c∈p.path,c≠63∧c≠35
 slash:p.hasA=true→p.path=[]∨p.path.head? =some 47
 qry: ∀c∈p.query,c≠35
 noQ:p.hasQ=false→p.query=[]
 noF:p.hasF=false→p.frag=[]
theorem z0U {l:List UInt8} {b:UInt8} (h: ∀c∈l,c≠b): ∀c∈l,(c==b)=false:=fun c d=>beq_eq_false_iff_ne.2 (h c d)
theorem z1Q {p:PZ} (h:WFA p) (m:p.hasS=true) (i:p.hasA=true):zcJ (zpK p)=p:=by
 have E:zpK p=p.scheme++58::((47::47::(zhC p++p.path))++(if p.hasQ then 63::p.query else [])++(if p.hasF then 35::p.frag else [])):=by
  unfold zpK ykW zhC
  rw [m,i]
  simp [List.append_assoc]
 have B:zaO (zpK p)=(true,p.scheme,(47::47::(zhC p++p.path))++(if p.hasQ then 63::p.query else [])++(if p.hasF then 35::p.frag else [])):=by
  unfold zaO
  rw [E,zdM zfJ (h.sch m) (.inr ⟨58,_,rfl,by decide⟩)]
  rfl
 have f:=h.site i
 have e: ∀b:UInt8,b=63∨b=35→ ∀c∈(47::47::(zhC p++p.path)),c≠b:=fun b j c d=>by
  rcases List.mem_cons.1 d with rfl|d
  ·rcases j with rfl|rfl<;>decide
  rcases List.mem_cons.1 d with rfl|d
  ·rcases j with rfl|rfl<;>decide
  rcases List.mem_append.1 d with d|d
  ·have:=f c d
   rcases j with rfl|rfl
   ·exact this.2.1
   ·exact this.2.2
  ·have:=h.path c d
   rcases j with rfl|rfl
   ·exact this.1
   ·exact this.2
 have g: ∀c∈(47::47::(zhC p++p.path))++(if p.hasQ then 63::p.query else []),(c==35)=false:=z0U fun c d=>by
  rcases List.mem_append.1 d with d|d
  ·exact e 35 (.inr rfl) c d
  ·split at d
   ·rcases List.mem_cons.1 d with rfl|d
    ·decide
    ·exact h.qry c d
   ·cases d
 have D:cutA 35 ((47::47::(zhC p++p.path))++(if p.hasQ then 63::p.query else [])++(if p.hasF then 35::p.frag else []))=((47::47::(zhC p++p.path))++(if p.hasQ then 63::p.query else []),p.hasF,p.frag):=by
  cases o:p.hasF with
  |true=>rw [if_pos rfl];exact zqW g _
  |false=>rw [h.noF o];simp only [Bool.false_eq_true,if_false,List.append_nil];exact zmE g
 have G:cutA 63 ((47::47::(zhC p++p.path))++(if p.hasQ then 63::p.query else []))=(47::47::(zhC p++p.path),p.hasQ,p.query):=by
  cases o:p.hasQ with
  |true=>rw [if_pos rfl];exact zqW (z0U (e 63 (.inl rfl))) _
  |false=>rw [h.noQ o];simp only [Bool.false_eq_true,if_false,List.append_nil];exact zmE (z0U (e 63 (.inl rfl)))
 have C:zfL (47::47::(zhC p++p.path))=(p.path,true,(p.hasU,p.user,p.host,p.hasP,p.port)):=by
  show ((zaR (· ==47) (zhC p++p.path)).2,true,zeT (zaR (· ==47) (zhC p++p.path)).1)=_
  rw [zdM (· ==47) (z0U fun c d=>(f c d).1),h.auth i]
  rcases h.slash i with q|q
  ·exact .inl q
  ·right
   cases A:p.path with
   |nil=>rw [A] at q;cases q
   |cons c r=>
    rw [A] at q
    simp only [List.head?_cons,Option.some.injEq] at q
    exact ⟨c,r,rfl,by simp [q]⟩
 unfold zcJ
 simp only [B,D,G,C]
 cases p
 simp only at m i ⊢
 rw [m,i]
def zcQ (u:UZ):PZ:=⟨u.scheme,true,if u.user=[]∧u.pass=[] then [] else upW u,!(u.user++u.pass).isEmpty,zbD u.host,true,if u.port= -1 then [] else Lib.itoa u.port,u.port != -1,zbC u.path,u.query,u.hasQ,u.frag,u.hasF⟩
theorem zyV {u:UZ} (h:u.user=[]∧u.pass=[]):(!(u.user++u.pass).isEmpty)=false:=by rw [h.1,h.2];rfl
theorem zyX {u:UZ} (h: ¬(u.user=[]∧u.pass=[])):(!(u.user++u.pass).isEmpty)=true:=by
 rw [Bool.not_eq_true',List.isEmpty_eq_false_iff]
 exact fun q=>h (List.append_eq_nil_iff.1 q)
theorem zxF (u:UZ):zhC (zcQ u)=whoU u++zaX u:=by
 rw [znK]
 unfold zhC zcQ zaX
 simp only
 by_cases h:u.user=[]∧u.pass=[]
 ·rw [zyV h,if_pos h]
  by_cases d:u.port= -1
  ·rw [if_pos d,d];simp [h.1,h.2]
  ·rw [if_neg d,if_neg d,bne_iff_ne.2 d];simp [h.1,h.2]
 ·rw [zyX h,if_neg h,if_neg h]
  by_cases d:u.port= -1
  ·rw [if_pos d,d];simp
  ·rw [if_neg d,if_neg d,bne_iff_ne.2 d];simp
theorem yiK (u:UZ):zpK (zcQ u)=zhG u:=by
 have h:=zxF u
 unfold zpK ykW
 unfold zhC at h
 unfold zhG zfI zqX askU
 rw [show (zcQ u).hasS=true from rfl,show (zcQ u).hasA=true from rfl,h]
 unfold zcQ
 simp [List.append_assoc]
theorem z1R {a:List UInt8} (h: ∀c∈a,c≠58∧c≠93):zcW a=(a,false,[]):=by
 unfold zcW
 rw [zpX (fun c=>c==58||c==93) (a:=a.reverse) fun c d=>by
  have:=h c (by simpa using d)
  simp [this.1,this.2]]
theorem z3Z (m:List UInt8):zcW (m++[93])=(m++[93],false,[]):=by
 unfold zcW
 rw [List.reverse_append]
 have e:zaR (fun c=>c==58||c==93) ([93].reverse++m.reverse)=([],93::m.reverse):=by
  show (if _ then _ else _)=_
  rw [if_pos (by decide)];rfl
 rw [e]
 rfl
theorem z1Y (a:List UInt8) {d:List UInt8} (h: ∀c∈d,c≠58∧c≠93):zcW (a++58::d)=(a,true,d):=by
 unfold zcW
 have e:(a++58::d).reverse=d.reverse++58::a.reverse:=by simp
 rw [e,zdM (fun c=>c==58||c==93) (a:=d.reverse) (fun c f=>by
  have:=h c (by simpa using f)
  simp [this.1,this.2]) (.inr ⟨58,a.reverse,rfl,by decide⟩)]
 simp
theorem ybT {u:UZ} (h:zcI u):zcW (zaX u)=(zbD u.host,u.port != -1,if u.port= -1 then [] else Lib.itoa u.port):=by
 unfold zaX
 by_cases d:u.port= -1
 ·rw [if_pos d,if_pos d,d]
  rcases zgG h.host with q|⟨m,q,_⟩
  ·exact z1R fun c f=>by have:=zjK (q c f);exact ⟨this.2.1,this.2.2.2.1⟩
  ·rw [q];exact z3Z _
 ·rw [if_neg d,if_neg d,bne_iff_ne.2 d,List.append_assoc]
  refine z1Y _ fun c f=> ?_
  have:=zoH (n:=u.port) (by have:=h.port.1;omega) c f
  exact ⟨fun e=>by rw [e] at this;exact absurd this.2 (by decide),fun e=>by rw [e] at this;exact absurd this.2 (by decide)⟩
theorem ykN {u:UZ} (h:zcI u) (f:zdR u):zeT (whoU u++zaX u)=((zcQ u).hasU,(zcQ u).user,(zcQ u).host,(zcQ u).hasP,(zcQ u).port):=by
 have e: ∀c∈zaX u,(c==64)=false:=zkY (zrV (zhV h) (by decide))
 rw [znK]
 unfold zcQ
 simp only
 by_cases g:u.user=[]∧u.pass=[]
 ·rw [if_pos g,if_pos g,List.nil_append,zyV g]
  unfold zeT
  rw [zmE e,ybT h]
 ·rw [if_neg g,if_neg g,zyX g]
  have i: ∀c∈upW u,(c==64)=false:=by
   unfold upW
   refine yjW (zkY (zrV (zlO f.user) (by decide))) fun c d=> ?_
   split at d
   ·cases d
   ·rcases List.mem_cons.1 d with rfl|d
    ·rfl
    ·exact zkY (zrV (zlO f.pass) (by decide)) c d
  have j:upW u++[64]++zaX u=upW u++64::zaX u:=by simp
  unfold zeT
  rw [j,zqW i]
  show (true,upW u,(zcW (zaX u)).1,(zcW (zaX u)).2.1,(zcW (zaX u)).2.2)=_
  rw [ybT h]
theorem ybR {u:UZ} (h:zcI u) (g:zdR u):WFA (zcQ u):=by
 have f: ∀c∈whoU u++zaX u,hasB [47,92,63,35] c=false:=fun c d=>by
  rcases List.mem_append.1 d with d|d
  ·exact zrL g c d
  ·exact zjN (zhV h) c d
 refine ⟨fun _=> ?_,fun _=> ?_,fun _=> ?_,?_,fun _=> ?_,?_,h.noQ,h.noF⟩
 ·show ∀c∈u.scheme,zfJ c=false
  rcases h.sch with e|e<;>rw [e]<;>decide
 ·rw [zxF];exact ykN h g
 ·rw [zxF]
  intro c d
  exact ⟨by simpa using zqV f (b:=47) (by decide) c d,by simpa using zqV f (b:=63) (by decide) c d,by simpa using zqV f (b:=35) (by decide) c d⟩
 ·show ∀c∈zbC u.path,c≠63∧c≠35
  exact fun c d=>⟨by simpa using zkY (zlS h.segs (c:=63) (by decide) (by decide)) c d,by simpa using zkY (zlS h.segs (c:=35) (by decide) (by decide)) c d⟩
 ·show zbC u.path=[]∨(zbC u.path).head? =some 47
  cases u.path with
  |nil=>exact .inl rfl
  |cons s t=>exact .inr rfl
 ·show ∀c∈u.query,c≠35
  exact fun c d=>by simpa using zkY (zrI h.qry (c:=35) (by decide)) c d
theorem z6F {u:UZ} (h:zcI u) (d:zdR u):zcJ (zhG u)=zcQ u:=by
 rw [←yiK]
 exact z1Q (ybR h d) rfl rfl
/-! ### sites -/
structure SZ where
 scheme:List UInt8
 host:HZ
 port:Int
 user:Bool
def zkL:SZ:=⟨[],.none,0,false⟩
def zlC (p:PZ):SZ×Int:=
 if p.hasS=false∨ownZ (zaI p.scheme)=0 then (zkL,5)
 else if p.hasA=false then (zkL,6)
 else if (zcN p.host).2≠0 then (zkL,(zcN p.host).2)
 else if p.hasP=true∧zdJ p.port= -2 then (zkL,8)
 else (⟨zaI p.scheme,(zcN p.host).1,if p.hasP=true∧p.port≠[] then zdJ p.port else ownZ (zaI p.scheme),p.hasU⟩,0)
def zfN (u:UZ):SZ:=⟨u.scheme,u.host,effZ u,!(u.user++u.pass).isEmpty⟩
def zgU (s:SZ):List UInt8:=if s.port=ownZ s.scheme then zbD s.host else zbD s.host++[58]++Lib.itoa s.port
theorem yiD {s:List UInt8} (h:s=ziL∨s=zdX):zaI s=s:=by rcases h with rfl|rfl<;>decide
theorem z8K {n:Int} (f:0≤n) (d:n≤65535):Lib.itoa n≠[]:=fun e=>by
 have:=zlE f d
 rw [e] at this
 have h:(-1:Int)=n:=this
 omega
theorem z3B {u:UZ} (h:zcI u):zlC (zcQ u)=(zfN u,0):=by
 have g:ownZ u.scheme≠0:=by rcases zvS h.sch with e|e<;>rw [e]<;>decide
 have D:=znQ h.host
 have o:=yiD h.sch
 unfold zlC zfN effZ
 have m:(zcQ u).scheme=u.scheme:=rfl
 have A:(zcQ u).host=zbD u.host:=rfl
 have B:(zcQ u).hasU= !(u.user++u.pass).isEmpty:=rfl
 rw [m,A,B,o,D,if_neg (by rintro (q|q);exact absurd q (by simp [zcQ]);exact g q),if_neg (by simp [zcQ]),if_neg (by simp)]
 have i:(zcQ u).hasP=(u.port != -1):=rfl
 have C:(zcQ u).port=if u.port= -1 then [] else Lib.itoa u.port:=rfl
 rw [i,C]
 by_cases d:u.port= -1
 ·rw [if_neg (by rw [d];simp),if_neg (by rw [d];simp),if_pos d]
 ·have f:0≤u.port:=by have:=h.port.1;omega
  have j:=zlE f h.port.2.1
  rw [if_neg d,j,if_neg (by omega),if_pos ⟨bne_iff_ne.2 d,z8K f h.port.2.1⟩,if_neg d]
theorem z2C {u:UZ} (h:zcI u):zgU (zfN u)=zaX u:=by
 unfold zgU zfN effZ zaX
 simp only
 by_cases d:u.port= -1
 ·rw [if_pos d,if_pos rfl,if_pos d]
 ·rw [if_neg d,if_neg h.port.2.2,if_neg d]
def zoR (u:UZ):UZ:={zcL with scheme:=u.scheme,host:=u.host,port:=u.port,path:=[[]]}
theorem z9S {u:UZ} (h:zcI u):zcI (zoR u)∧zdR (zoR u):=by
 refine ⟨⟨h.sch,h.host,h.port,by simp [zoR],rfl,rfl,fun _=>rfl,fun _=>rfl⟩,⟨Out.nil 5,Out.nil 5,fun s d=> ?_,Out.nil 3,Out.nil 1⟩⟩
 have:s=[]:=by simpa [zoR] using d
 subst this
 exact ⟨Out.nil 4,rfl⟩
theorem z3G (u:UZ):zhG (zoR u)=u.scheme++[58,47,47]++zaX u++[47]:=by
 unfold zhG zfI zqX askU whoU zoR zcL zaX
 simp [zbC]
end
end Go.Proofs.YtegmcmgndllmaaaGreatDoor
