/-
  What the law AuthorityAgrees leans on, and its walk (19 of 43).
-/
import Derived.Test.YtegmcmgndllmaaaGreatDoorAuthorityAgreesPkO
import Derived.Test.YtegmcmgndllmaaaGreatDoorAuthorityAgreesPkR
import Derived.Test.YtegmcmgndllmaaaGreatDoorAuthorityAgreesPkH
import Derived.Test.YtegmcmgndllmaaaGreatDoorAuthorityAgreesPkB
namespace Go.Proofs.YtegmcmgndllmaaaGreatDoor
set_option maxRecDepth 100000
set_option maxHeartbeats 16000000
abbrev yoE := @beq_eq_false_iff_ne
abbrev yoF := @decide_eq_false
abbrev yoG := @List.mem_singleton
abbrev yoH := @List.mem_cons_self
section
open Go.RowKit
structure UZ where
 scheme:List UInt8
 user:List UInt8
 pass:List UInt8
 host:HZ
 port:Int
 path:List (List UInt8)
 query:List UInt8
 hasQ:Bool
 frag:List UInt8
 hasF:Bool
def ziL:List UInt8:=[104,116,116,112]
def zdX:List UInt8:=[104,116,116,112,115]
def ownZ (s:List UInt8):Int:=if s=ziL then 80 else if s=zdX then 443 else 0
def z2U (s of:List UInt8):Bool:=s.all fun c=> !hasB of c
def effZ (u:UZ):Int:=if u.port= -1 then ownZ u.scheme else u.port
def zaX (u:UZ):List UInt8:=if u.port= -1 then zbD u.host else zbD u.host++[58]++Lib.itoa u.port
def zbC:List (List UInt8)→List UInt8
 |[]=>[]
 |s::r=>47::s++zbC r
def askU (u:UZ):List UInt8:=zbC u.path++(if u.hasQ=true then 63::u.query else [])
def whoU (u:UZ):List UInt8:=u.user++(if u.pass=[] then [] else 58::u.pass)++(if u.user=[]∧u.pass=[] then [] else [64])
def zqX (u:UZ):List UInt8:=u.scheme++[58,47,47]
def zfI (u:UZ):List UInt8:=zqX u++whoU u++zaX u++askU u
def zhG (u:UZ):List UInt8:=zfI u++(if u.hasF=true then 35::u.frag else [])
theorem ybL {b:UInt8}: ∀{l:List UInt8},b∉l→Lib.index l [b]= -1
 |[],_=>rfl
 |c::l,h=>by
  have d: ¬b=c:=fun e=>h (e▸yoH ..)
  have f:=ybL (l:=l) (fun g=>h (List.mem_cons_of_mem _ g))
  unfold Lib.index
  rw [f]
  simp [List.isPrefixOf,d]
theorem z6N {b:UInt8}: ∀{a:List UInt8} (d:List UInt8),b∉a→Lib.index (a++b::d) [b]=a.length
 |[],d,_=>by
  show Lib.index (b::d) [b]=_
  unfold Lib.index;simp [List.isPrefixOf]
 |c::a,d,h=>by
  have m: ¬b=c:=fun e=>h (e▸yoH ..)
  have i:=z6N (a:=a) d (fun g=>h (List.mem_cons_of_mem _ g))
  show Lib.index (c::(a++b::d)) [b]=_
  unfold Lib.index
  rw [i]
  have f:(([b]:List UInt8).isPrefixOf (c::(a++b::d)))=false:=by simp [List.isPrefixOf,m]
  have j:((a.length:Int)== -1)=false:=by rw [yoE];omega
  rw [f,j]
  simp
theorem z0G {b:UInt8} {l:List UInt8} (h:b∉l):Lib.cut l [b]=(l,[],false):=by
 unfold Lib.cut;rw [ybL h];rfl
theorem z0V {b:UInt8} {a:List UInt8} (d:List UInt8) (h:b∉a):Lib.cut (a++b::d) [b]=(a,d,true):=by
 unfold Lib.cut;rw [z6N d h,if_pos (by omega)]
 simp
theorem yjG: ∀d:Fin 10,48≤(UInt8.ofNat (48+d.val)).toNat∧(UInt8.ofNat (48+d.val)).toNat≤57:=by decide+kernel
theorem yiW (u:Nat): ∀c∈Lib.decDigits u,48≤c.toNat∧c.toNat≤57:=by
 induction u using Nat.strongRecOn with
 |ind u e=>
  intro c d
  rw [Lib.decDigits] at d
  split at d
  ·rename_i h
   rw [yoG] at d;subst d;exact yjG ⟨u,h⟩
  ·rcases List.mem_append.1 d with d|d
   ·exact e (u/10) (by omega) c d
   ·rw [yoG] at d;subst d;exact yjG ⟨u % 10,Nat.mod_lt _ (by decide)⟩
theorem zoH {n:Int} (h:0≤n): ∀c∈Lib.itoa n,48≤c.toNat∧c.toNat≤57:=by
 unfold Lib.itoa
 rw [if_neg (by omega)]
 exact yiW _
theorem z1Z (l:List (List UInt8)) (s:List UInt8):zbC (l++[s])=zbC l++(47::s):=by
 induction l with
 |nil=>simp [zbC]
 |cons a r d=>simp [zbC,d]
theorem zrI {s of:List UInt8} {c:UInt8} (h:z2U s of=true) (d:hasB of c=true):c∉s:=fun g=>by
 have:=List.all_eq_true.1 h c g
 rw [d] at this;cases this
theorem zlS {l:List (List UInt8)} {of:List UInt8} {c:UInt8} (h:l.all (fun s=>z2U s of)=true) (e:hasB of c=true) (d:c≠47):c∉zbC l:=by
 induction l with
 |nil=>simp [zbC]
 |cons s r f=>
  rw [List.all_cons,Bool.and_eq_true_iff] at h
  unfold zbC
  intro g
  rcases List.mem_append.1 g with g|g
  ·rcases List.mem_cons.1 g with g|g
   ·exact d g
   ·exact zrI h.1 e g
  ·exact f h.2 g
theorem zrV {l:List UInt8} {c:UInt8} (h: ∀x∈l,endC x=false) (d:endC c=true):c∉l:=fun g=>by
 have:=h c g;rw [d] at this;cases this
structure zcI (u:UZ):Prop where
 sch:u.scheme=ziL∨u.scheme=zdX
 host:u.host.Ok
 port: -1≤u.port∧u.port≤65535∧u.port≠ownZ u.scheme
 some:u.path≠[]
 segs:u.path.all (fun s=>z2U s [47,63,35,92])=true
 qry:z2U u.query [35]=true
 noQ:u.hasQ=false→u.query=[]
 noF:u.hasF=false→u.frag=[]
theorem zhV {u:UZ} (h:zcI u): ∀c∈zaX u,endC c=false:=by
 unfold zaX
 intro c d
 split at d
 ·exact zpR h.host c d
 ·rcases List.mem_append.1 d with d|d
  ·rcases List.mem_append.1 d with d|d
   ·exact zpR h.host c d
   ·simp at d;subst d;decide
  ·have:=zoH (by have:=h.port.1;omega) c d
   exact (zvW (zrP (by unfold hexC;simp;omega))).1
def zqZ (u:UZ):List UInt8:=whoU u++zaX u++askU u++(if u.hasF=true then 35::u.frag else [])
theorem zpV (u:UZ):zhG u=zqX u++zqZ u:=by
 unfold zhG zfI zqZ;simp only [List.append_assoc]
theorem z3T {u:UZ} (h:zcI u): ∃r,askU u=47::r:=by
 unfold askU
 have d:=h.some
 cases e:u.path with
 |nil=>exact absurd e d
 |cons s r=>exact ⟨_,by unfold zbC;rfl⟩
theorem z6W (u:UZ):zhG {u with frag:=[],hasF:=false}=zfI u:=by
 show zfI u++(if false=true then 35::[] else [])=_
 simp
def encW (s:Int) (l:List UInt8):List UInt8:=encB s (scal ⟨l.toArray⟩)
def zcB (c:UInt8):Bool:=c==47||c==92
def schC (c:UInt8):Bool:=zbY c.toNat||zaU c.toNat||c==43||c==45||c==46
def schW (l:List UInt8):Option (List UInt8×List UInt8):=
 if (match l with|[]=>false|c::_=>zbY c.toNat)=true∧l[l.findIdx fun c=> !schC c]? =some 58 then
  some (zaI (l.take (l.findIdx fun c=> !schC c)),l.drop ((l.findIdx fun c=> !schC c)+1)) else none
def zhB (l:List UInt8):List UInt8:=l.dropWhile zcB
def ptsN:List UInt8→Option Nat
 |[]=>some 0
 |[c]=>if c=46 then some 1 else none
 |[c,d]=>if c=46∧d=46 then some 2 else none
 |c::d::e::r=>if c=46 then (ptsN (d::e::r)).map (· +1) else if c=37∧d=50∧(e=101∨e=69) then (ptsN r).map (· +1) else none
def ptsW (l:List UInt8):Nat:=match ptsN l with
 |some n=>if n>2 then 0 else n
 |none=>0
def zeE (last:Bool) (out:List (List UInt8)) (q:List UInt8):List (List UInt8):=
 if ptsW q=0 then out++[q] else if last=true then (if ptsW q=2 then out.dropLast else out)++[[]] else if ptsW q=2 then out.dropLast else out
def goW:List (List UInt8)→List (List UInt8)→List (List UInt8)
 |out,[]=>out
 |out,p::r=>goW (zeE r.isEmpty out (encW 4 p)) r
def znS (d:List (List UInt8)) (l:List UInt8):List (List UInt8):=goW d (zbF (hasB [47,92]) l)
def qryW (u:UZ) (l:List UInt8):UZ:=if l.head? =some 63 then {u with query:=encW 3 ((l.take (l.findIdx (· ==35))).drop 1),hasQ:=true} else u
def frgW (u:UZ) (l:List UInt8):UZ:=if l.findIdx (· ==35)<l.length then {u with frag:=encW 1 (l.drop (l.findIdx (· ==35)+1)),hasF:=true} else u
def zkH (u:UZ) (l:List UInt8):UZ:=frgW (qryW u l) l
def zdQ (u:UZ) (d:List (List UInt8)) (l:List UInt8):UZ:=
 zkH {u with path:=znS d (l.take (l.findIdx (hasB [63,35])))} (l.drop (l.findIdx (hasB [63,35])))
def hpW:Bool→List UInt8→List UInt8×List UInt8
 |_,[]=>([],[])
 |d,c::r=>
  if c=58∧d=false then ([],r)
  else (c::(hpW (if c=91 then true else if c=93 then false else d) r).1,(hpW (if c=91 then true else if c=93 then false else d) r).2)
def zgL:Int→List UInt8→Option Int
 |n,[]=>some n
 |n,c::r=>if zaU c.toNat=true then zgL (if n≤65535 then 10*n+(c.toNat:Int) - 48 else n) r else none
def zdJ (l:List UInt8):Int:=if l=[] then -1 else match zgL 0 l with
 |none=> -2
 |some n=>if n>65535 then -2 else n
def zcL:UZ:=⟨[],[],[],.none,0,[],[],false,[],false⟩
def atW (l:List UInt8):Option Nat:=if l.reverse.findIdx (· ==64)<l.length then some (l.length - 1 - l.reverse.findIdx (· ==64)) else none
def ziJ (l:List UInt8):List UInt8:=match atW l with
 |none=>[]
 |some k=>encW 5 ((l.take k).take ((l.take k).findIdx (· ==58)))
def ziN (l:List UInt8):List UInt8:=match atW l with
 |none=>[]
 |some k=>if (l.take k).findIdx (· ==58)<(l.take k).length then encW 5 ((l.take k).drop ((l.take k).findIdx (· ==58)+1)) else []
def zcO (l:List UInt8):List UInt8:=match atW l with
 |none=>l
 |some k=>l.drop (k+1)
def offW (l:List UInt8):List UInt8:=match l with
 |[]=>[]
 |c::r=>if zcB c=true then r else c::r
def zeG (name l:List UInt8):UZ×Int:=
 let a:=l.take (l.findIdx (hasB [47,92,63,35]))
 let e:=l.drop (l.findIdx (hasB [47,92,63,35]))
 let d:=hpW false (zcO a)
 if d.1=[] then (zcL,6)
 else if (zcN d.1).2≠0 then (zcL,(zcN d.1).2)
 else if zdJ d.2= -2 then (zcL,8)
 else (zdQ {zcL with scheme:=name,user:=ziJ a,pass:=ziN a,host:=(zcN d.1).1,port:=if zdJ d.2=ownZ name then -1 else zdJ d.2} [] (offW e),0)
def zeU (l:List UInt8):Bool:=match l with
 |[]=>false
 |c::_=>zcB c
def relW (b:UZ) (l:List UInt8):UZ×Int:=
 if zeU l=true∧zeU (l.drop 1)=true then zeG b.scheme (zhB l)
 else
  let u:UZ:={zcL with scheme:=b.scheme,user:=b.user,pass:=b.pass,host:=b.host,port:=b.port}
  if zeU l=true then (zdQ u [] (l.drop 1),0)
  else if l=[]∨l.head? =some 35 then (zkH {u with path:=b.path,query:=b.query,hasQ:=b.hasQ} l,0)
  else if l.head? =some 63 then (zkH {u with path:=b.path} l,0)
  else (zdQ u b.path.dropLast l,0)
def znE (s:List UInt8) (b:Option UZ):UZ×Int:=
 match schW s,b with
 |none,none=>(zcL,5)
 |none,some b=>relW b s
 |some (n,r),none=>if n=ziL∨n=zdX then zeG n (zhB r) else (zcL,5)
 |some (n,r),some b=>if n=ziL∨n=zdX then (if b.scheme≠n∨r.take 2=[47,47] then zeG n (zhB r) else relW b r) else (zcL,5)
def zbL (t:List UInt8) (b:Option UZ):UZ×Int:=if 4096<t.length then (zcL,3) else znE (zgX (zgP t)) b
theorem yfP (u:UZ) (l:List UInt8):(frgW u l).scheme=u.scheme∧(frgW u l).user=u.user∧(frgW u l).pass=u.pass∧(frgW u l).host=u.host∧(frgW u l).port=u.port∧(frgW u l).path=u.path∧(frgW u l).query=u.query∧(frgW u l).hasQ=u.hasQ:=by
 unfold frgW;split<;>exact ⟨rfl,rfl,rfl,rfl,rfl,rfl,rfl,rfl⟩
theorem ygN (u:UZ) (l:List UInt8):(qryW u l).scheme=u.scheme∧(qryW u l).user=u.user∧(qryW u l).pass=u.pass∧(qryW u l).host=u.host∧(qryW u l).port=u.port∧(qryW u l).path=u.path∧(qryW u l).frag=u.frag∧(qryW u l).hasF=u.hasF:=by
 unfold qryW;split<;>exact ⟨rfl,rfl,rfl,rfl,rfl,rfl,rfl,rfl⟩
theorem ylV (b:Nat) (m:b<128) (s:ByteArray) (h: ∀k (h:k<s.size),s[k].toNat≠b): ∀r∈scal s,r≠(b:Int):=by
 have g: ∀f p,∀r∈zkO s f p,r≠(b:Int):=by
  intro f
  induction f with
  |zero=>intro p x d;simp [zkO] at d
  |succ f i=>
   intro p x d
   by_cases e:p<s.size
   ·rw [zhZ s f p e] at d
    rcases List.mem_cons.1 d with rfl|d
    ·by_cases j:(s[p]'e).toNat<128
     ·rw [decode_ascii s p e j]
      have:=h p e
      simp only
      omega
     ·have:=(decode_high s p e (by omega)).1
      omega
    ·exact i _ x d
   ·rw [zjP s _ p e] at d;simp at d
 exact g _ _
theorem yeZ {p:List UInt8} {c:UInt8} (d:c.toNat<128) (h:c∉p): ∀r∈scal ⟨p.toArray⟩,r≠(c.toNat:Int):=by
 refine ylV c.toNat d _ (fun k g e=>h ?_)
 have f:(ByteArray.mk p.toArray)[k]=p[k]'(by simpa [ByteArray.size] using g):=rfl
 rw [f] at e
 rw [←UInt8.toNat_inj.1 e]
 exact List.getElem_mem _
theorem yeF (st:Int) (j:0≤st) (g:st≤5) (l:List Int): ∀b∈encB st l,b=37∨(∃n,n<16∧b=hexN n)∨(b.toNat:Int)∈l:=by
 intro b d
 obtain ⟨r,i,d⟩:=List.mem_flatMap.1 d
 cases f:inB st r with
 |true=>
  have e:encP st r=pctL (Lib.encodeRune r):=by unfold encP;rw [f];rfl
  rw [e] at d
  obtain ⟨c,_,d⟩:=List.mem_flatMap.1 d
  have m:=c.toNat_lt
  simp only [pctB,List.mem_cons,List.not_mem_nil,or_false] at d
  rcases d with rfl|rfl|rfl
  ·exact .inl rfl
  ·exact .inr (.inl ⟨_,by omega,rfl⟩)
  ·exact .inr (.inl ⟨_,by omega,rfl⟩)
 |false=>
  have e:encP st r=Lib.encodeRune r:=by unfold encP;rw [f];rfl
  have o:=zmQ j g f
  rw [e,zfD (by omega) (by omega)] at d
  simp only [List.mem_cons,List.not_mem_nil,or_false] at d
  subst d
  rw [z3V r (by omega) (by omega),Int.toNat_of_nonneg (by omega)]
  exact .inr (.inr i)
theorem z5Q: ∀n:Fin 16,hexN n.val≠47∧hexN n.val≠92:=by decide+kernel
theorem ybO {st:Int} (j:0≤st) (f:st≤5) {p:List UInt8} {c:UInt8} (d:c=47∨c=92) (h:c∉p):c∉encW st p:=by
 intro g
 rcases yeF st j f _ c g with e|⟨n,i,e⟩|e
 ·rcases d with rfl|rfl<;>cases e
 ·have:=z5Q ⟨n,i⟩
  rcases d with rfl|rfl
  ·exact this.1 e.symm
  ·exact this.2 e.symm
 ·exact yeZ (by rcases d with rfl|rfl<;>decide) h _ e rfl
theorem zrE {st:Int} (f:0≤st) (d:st≤5) {p:List UInt8} {c:UInt8} (e:inB st (c.toNat:Int)=true):c∉encW st p:=fun g=>by
 have:=(zsD st f d _ c g).2
 rw [e] at this;cases this
theorem yaR (p:UInt8→Bool) (l:List UInt8):(∀x∈(spl p l).1,∀c∈x,p c=false)∧ ∀c∈(spl p l).2,p c=false:=by
 have j: ∀(l:List UInt8) (st:List (List UInt8)×List UInt8),(∀x∈st.1,∀c∈x,p c=false)→(∀c∈st.2,p c=false)→(∀x∈(l.foldl (zaP p) st).1,∀c∈x,p c=false)∧ ∀c∈(l.foldl (zaP p) st).2,p c=false:=by
  intro l
  induction l with
  |nil=>intro st g i;exact ⟨g,i⟩
  |cons c l o=>
   intro st g i
   rw [List.foldl_cons]
   refine o _ ?_ ?_
   ·intro x e
    unfold zaP at e
    split at e
    ·rcases List.mem_append.1 e with e|e
     ·exact g x e
     ·rw [yoG] at e;rw [e];exact i
    ·exact g x e
   ·intro d f
    unfold zaP at f
    split at f
    ·cases f
    ·rename_i q
     rcases List.mem_append.1 f with f|f
     ·exact i d f
     ·rw [yoG] at f;rw [f];simpa using q
 exact j l ([],[]) (by intro x e;cases e) (by intro c m;cases m)
theorem z6Q {p:UInt8→Bool} {l x:List UInt8} (h:x∈zbF p l): ∀c∈x,p c=false:=by
 unfold zbF at h
 rcases List.mem_append.1 h with h|h
 ·exact (yaR p l).1 x h
 ·rw [yoG] at h;rw [h];exact (yaR p l).2
theorem zqH (p:UInt8→Bool) (l:List UInt8):zbF p l≠[]:=by simp [zbF]
/-! a path that is read -/
def segB (s:List UInt8):Bool:=z2U s [47,63,35,92]
theorem yeW {p:List UInt8} (h: ∀c∈p,hasB [47,92] c=false):segB (encW 4 p)=true:=by
 refine List.all_eq_true.2 fun c d=> ?_
 have j:c≠47:=fun e=>by
  subst e
  exact ybO (by decide) (by decide) (.inl rfl) (fun g=>by have:=h _ g;revert this;decide) d
 have i:c≠92:=fun e=>by
  subst e
  exact ybO (by decide) (by decide) (.inr rfl) (fun g=>by have:=h _ g;revert this;decide) d
 have m:c≠63:=fun e=>by subst e;exact zrE (by decide) (by decide) (by decide) d
 have f:c≠35:=fun e=>by subst e;exact zrE (by decide) (by decide) (by decide) d
 simp [hasB,Ne.symm j,Ne.symm i,Ne.symm m,Ne.symm f]
theorem z5H {b:Bool} {out:List (List UInt8)} {q:List UInt8} (d:out.all segB=true) (f:segB q=true):(zeE b out q).all segB=true:=by
 have e:out.dropLast.all segB=true:=List.all_eq_true.2 fun x g=>List.all_eq_true.1 d x ((List.dropLast_sublist out).subset g)
 unfold zeE
 split
 ·rw [List.all_append,d];simp [f]
 ·split
  ·rw [List.all_append]
   split
   ·rw [e];rfl
   ·rw [d];rfl
  ·split
   ·exact e
   ·exact d
theorem z9C: ∀(ps out:List (List UInt8)),out.all segB=true→(∀p∈ps,segB (encW 4 p)=true)→(goW out ps).all segB=true
 |[],_,d,_=>d
 |p::r,_,d,e=>z9C r _ (z5H d (e p (yoH ..))) (fun x f=>e x (List.mem_cons_of_mem _ f))
theorem zzB: ∀(ps out:List (List UInt8)),ps≠[]→goW out ps≠[]
 |[],_,h=>absurd rfl h
 |[p],out,_=>by
  show zeE true out _≠[]
  unfold zeE
  split
  ·simp
  ·rw [if_pos rfl];simp
 |p::q::r,out,_=>zzB (q::r) _ (by simp)
theorem yiQ {d:List (List UInt8)} (f:d.all segB=true) (l:List UInt8):(znS d l).all segB=true∧znS d l≠[]:=
 ⟨z9C _ _ f (fun _ e=>yeW (z6Q e)),zzB _ _ (zqH _ _)⟩
/-! a port that is read -/
theorem zzZ: ∀(l:List UInt8) (n m:Int),0≤n→zgL n l=some m→0≤m
 |[],n,m,h,e=>by rw [show zgL n []=some n from rfl] at e;rw [←Option.some.inj e];exact h
 |c::r,n,m,h,e=>by
  unfold zgL at e
  split at e
  ·rename_i d
   have d:=of_decide_eq_true d
   exact zzZ r _ m (by split<;>omega) e
  ·cases e
theorem yfJ (l:List UInt8) (h:zdJ l≠ -2): -1≤zdJ l∧zdJ l≤65535:=by
 unfold zdJ at*
 split
 ·omega
 ·rename_i d
  rw [if_neg d] at h
  cases e:zgL 0 l with
  |none=>rw [e] at h;exact absurd rfl h
  |some n=>
   rw [e] at h
   have:=zzZ l 0 n (by omega) e
   simp only at h ⊢
   split
   ·rename_i g;rw [if_pos g] at h;exact absurd rfl h
   ·omega
structure zzR (u:UZ):Prop where
 sch:u.scheme=ziL∨u.scheme=zdX
 host:u.host.Ok
 port: -1≤u.port∧u.port≤65535∧u.port≠ownZ u.scheme
 qry:z2U u.query [35]=true
 noQ:u.hasQ=false→u.query=[]
 noF:u.hasF=false→u.frag=[]
theorem zzR.url {u:UZ} (h:zzR u) {p:List (List UInt8)} (d:p.all segB=true∧p≠[]):zcI {u with path:=p}:=
 ⟨h.sch,h.host,h.port,d.2,d.1,h.qry,h.noQ,h.noF⟩
theorem ykU {u:UZ} (h:zcI u) (l:List UInt8):zcI (qryW u l):=by
 unfold qryW
 split
 ·refine ⟨h.sch,h.host,h.port,h.some,h.segs,?_,fun e=>(by cases e),h.noF⟩
  refine List.all_eq_true.2 fun c d=> ?_
  have n:c≠35:=fun e=>by subst e;exact zrE (by decide) (by decide) (by decide) d
  simp [hasB,Ne.symm n]
 ·exact h
theorem ykS {u:UZ} (h:zcI u) (l:List UInt8):zcI (frgW u l):=by
 unfold frgW
 split
 ·exact ⟨h.sch,h.host,h.port,h.some,h.segs,h.qry,h.noQ,fun e=>by cases e⟩
 ·exact h
theorem zqY {u:UZ} (h:zcI u) (l:List UInt8):zcI (zkH u l):=ykS (ykU h l) l
theorem zmO {u:UZ} (h:zzR u) {f:List (List UInt8)} (d:f.all segB=true) (l:List UInt8):zcI (zdQ u f l):=
 zqY (h.url (yiQ d _)) _
theorem zvS {s:List UInt8} (h:s=ziL∨s=zdX):ownZ s=80∨ownZ s=443:=by
 rcases h with rfl|rfl
 ·exact .inl rfl
 ·exact .inr rfl
theorem ymE {q n:Int} (d: -1≤q∧q≤65535) (e:n=80∨n=443): -1≤(if q=n then -1 else q)∧(if q=n then -1 else q)≤65535∧(if q=n then -1 else q)≠n:=by
 split
 ·omega
 ·rename_i g;exact ⟨d.1,d.2,g⟩
theorem zqT {name:List UInt8} (f:name=ziL∨name=zdX) (l:List UInt8) (h:(zeG name l).2=0):zcI (zeG name l).1:=by
 unfold zeG at h ⊢
 simp only at h ⊢
 split at h
 ·cases h
 rename_i j
 rw [if_neg j]
 split at h
 ·rename_i g;exact absurd h g
 rename_i e
 rw [if_neg e]
 split at h
 ·cases h
 rename_i d
 rw [if_neg d]
 have m:=yfJ _ d
 have i:=zvS f
 refine zmO ⟨f,zlZ (Decidable.not_not.1 e),?_,rfl,fun _=>rfl,fun _=>rfl⟩ rfl _
 exact ymE m i
theorem ydU {b:UZ} (d:zcI b) (l:List UInt8) (h:(relW b l).2=0):zcI (relW b l).1:=by
 have e:zzR {zcL with scheme:=b.scheme,user:=b.user,pass:=b.pass,host:=b.host,port:=b.port}:=⟨d.sch,d.host,d.port,rfl,fun _=>rfl,fun _=>rfl⟩
 have f:b.path.dropLast.all segB=true:=List.all_eq_true.2 fun x i=>List.all_eq_true.1 d.segs x ((List.dropLast_sublist _).subset i)
 unfold relW at h ⊢
 simp only at h ⊢
 split
 ·rename_i g;rw [if_pos g] at h;exact zqT d.sch _ h
 split
 ·exact zmO e rfl _
 split
 ·refine zqY ?_ _
  exact ⟨d.sch,d.host,d.port,d.some,d.segs,d.qry,d.noQ,fun _=>rfl⟩
 split
 ·refine zqY ?_ _
  exact ⟨d.sch,d.host,d.port,d.some,d.segs,rfl,fun _=>rfl,fun _=>rfl⟩
 ·exact zmO e f _
theorem yeS (s:List UInt8) (b:Option UZ) (e: ∀u,b=some u→zcI u) (h:(znE s b).2=0):zcI (znE s b).1:=by
 unfold znE at h ⊢
 split at h
 ·cases h
 ·exact ydU (e _ rfl) _ h
 ·split at h
  ·rename_i g;rw [if_pos g];exact zqT g _ h
  ·cases h
 ·split at h
  ·rename_i g
   rw [if_pos g]
   split at h
   ·rename_i d;rw [if_pos d];exact zqT g _ h
   ·rename_i d;rw [if_neg d];exact ydU (e _ rfl) _ h
  ·cases h
theorem zmX (t:List UInt8) (b:Option UZ) (d: ∀u,b=some u→zcI u) (h:(zbL t b).2=0):zcI (zbL t b).1:=by
 unfold zbL at h ⊢
 split at h
 ·cases h
 ·rename_i g;rw [if_neg g];exact yeS _ b d h
def Out (st:Int) (l:List UInt8):Prop:= ∀b∈l,b.toNat<128∧inB st (b.toNat:Int)=false
theorem Out.enc {st:Int} (d:0≤st) (e:st≤5) (l:List UInt8):Out st (encW st l):=zsD st d e _
theorem Out.same {st:Int} {l:List UInt8} (h:Out st l):encW st l=l:=by
 unfold encW
 rw [z4C l (fun b d=>(h b d).1)]
 exact ygO st l h
theorem Out.nil (st:Int):Out st []:=fun _ h=>by cases h
theorem Out.not {st:Int} {l:List UInt8} (h:Out st l) {c:UInt8} (d:inB st (c.toNat:Int)=true):c∉l:=fun g=>by
 have:=(h c g).2;rw [d] at this;cases this
def zrK (s:List UInt8):Prop:=Out 4 s∧ptsW s=0
structure zdR (u:UZ):Prop where
 user:Out 5 u.user
 pass:Out 5 u.pass
 path: ∀s∈u.path,zrK s
 qry:Out 3 u.query
 frag:Out 1 u.frag
theorem z5C {b:Bool} {out:List (List UInt8)} {q:List UInt8} (e: ∀s∈out,zrK s) (i:Out 4 q): ∀s∈zeE b out q,zrK s:=by
 have f: ∀s∈out.dropLast,zrK s:=fun s d=>e s ((List.dropLast_sublist out).subset d)
 have j:zrK []:=⟨Out.nil 4,rfl⟩
 intro s d
 unfold zeE at d
 split at d
 ·rename_i g
  rcases List.mem_append.1 d with d|d
  ·exact e s d
  ·rw [yoG] at d;rw [d];exact ⟨i,g⟩
 ·split at d
  ·rcases List.mem_append.1 d with d|d
   ·split at d
    ·exact f s d
    ·exact e s d
   ·rw [yoG] at d;rw [d];exact j
  ·split at d
   ·exact f s d
   ·exact e s d
theorem ydR: ∀(ps out:List (List UInt8)),(∀s∈out,zrK s)→ ∀s∈goW out ps,zrK s
 |[],_,d=>d
 |_::r,_,d=>ydR r _ (z5C d (Out.enc (by decide) (by decide) _))
theorem zmH {u:UZ} (h:zdR u) (l:List UInt8):zdR (zkH u l):=by
 have d:zdR (qryW u l):=by
  unfold qryW
  split
  ·exact ⟨h.user,h.pass,h.path,Out.enc (by decide) (by decide) _,h.frag⟩
  ·exact h
 unfold zkH frgW
 split
 ·exact ⟨d.user,d.pass,d.path,d.qry,Out.enc (by decide) (by decide) _⟩
 ·exact d
theorem zkT {u:UZ} (h:zdR u) {f:List (List UInt8)} (d: ∀s∈f,zrK s) (l:List UInt8):zdR (zdQ u f l):=by
 refine zmH ?_ _
 exact ⟨h.user,h.pass,ydR _ _ d,h.qry,h.frag⟩
theorem z5L (l:List UInt8):Out 5 (ziJ l):=by
 unfold ziJ
 split
 ·exact Out.nil 5
 ·exact Out.enc (by decide) (by decide) _
theorem z7U (l:List UInt8):Out 5 (ziN l):=by
 unfold ziN
 split
 ·exact Out.nil 5
 ·split
  ·exact Out.enc (by decide) (by decide) _
  ·exact Out.nil 5
theorem zeN:zdR zcL:=⟨Out.nil 5,Out.nil 5,fun _ h=>(by cases h),Out.nil 3,Out.nil 1⟩
theorem zmY (name l:List UInt8):zdR (zeG name l).1:=by
 unfold zeG
 simp only
 split
 ·exact zeN
 split
 ·exact zeN
 split
 ·exact zeN
 refine zkT ?_ (fun _ h=>by cases h) _
 exact ⟨z5L _,z7U _,fun _ h=>(by cases h),Out.nil 3,Out.nil 1⟩
theorem zyC {b:UZ} (d:zdR b) (l:List UInt8):zdR (relW b l).1:=by
 have e:zdR {zcL with scheme:=b.scheme,user:=b.user,pass:=b.pass,host:=b.host,port:=b.port}:=⟨d.user,d.pass,fun _ h=>(by cases h),Out.nil 3,Out.nil 1⟩
 unfold relW
 simp only
 split
 ·exact zmY _ _
 split
 ·exact zkT e (fun _ h=>by cases h) _
 split
 ·refine zmH ?_ _
  exact ⟨d.user,d.pass,d.path,d.qry,Out.nil 1⟩
 split
 ·refine zmH ?_ _
  exact ⟨d.user,d.pass,d.path,Out.nil 3,Out.nil 1⟩
 ·exact zkT e (fun s f=>d.path s ((List.dropLast_sublist _).subset f)) _
theorem z4J (t:List UInt8) (b:Option UZ) (d: ∀u,b=some u→zdR u):zdR (zbL t b).1:=by
 unfold zbL
 split
 ·exact zeN
 unfold znE
 split
 ·exact zeN
 ·exact zyC (d _ rfl) _
 ·split
  ·exact zmY _ _
  ·exact zeN
 ·split
  ·split
   ·exact zmY _ _
   ·exact zyC (d _ rfl) _
  ·exact zeN
def Vis (l:List UInt8):Prop:= ∀c∈l,33≤c.toNat∧c.toNat≤126
theorem Out.vis {st:Int} (i:0≤st) (f:st≤5) (d:inB st 32=true) {l:List UInt8} (h:Out st l):Vis l:=fun c g=>by
 have hi:=(h c g).2
 have:=zmQ i f hi
 have j:(c.toNat:Int)≠32:=fun e=>by rw [e,d] at hi;cases hi
 omega
theorem Vis.app {a b:List UInt8} (f:Vis a) (e:Vis b):Vis (a++b):=fun c d=>by
 rcases List.mem_append.1 d with d|d
 ·exact f c d
 ·exact e c d
theorem Vis.cons {c:UInt8} {l:List UInt8} (e:33≤c.toNat∧c.toNat≤126) (h:Vis l):Vis (c::l):=fun x d=>by
 rcases List.mem_cons.1 d with rfl|d
 ·exact e
 ·exact h x d
theorem Vis.nil:Vis []:=fun _ h=>by cases h
theorem ziR {p:UInt8→Bool} {l:List UInt8} (h: ∀c∈l,p c=false):l.dropWhile p=l:=by
 cases l with
 |nil=>rfl
 |cons c r=>rw [List.dropWhile_cons,h c (yoH ..)];rfl
theorem z7K {l:List UInt8} (h:Vis l):zgX (zgP l)=l:=by
 have g: ∀c∈l,zcM c=false:=fun c d=>zeX (by have:=h c d;omega)
 unfold zgP
 rw [ziR g,ziR (fun c d=>g c (List.mem_reverse.1 d)),List.reverse_reverse]
 unfold zgX
 refine List.filter_eq_self.2 fun c d=> ?_
 have f:=h c d
 have j:c≠9:=fun e=>by subst e;revert f;decide
 have i:c≠10:=fun e=>by subst e;revert f;decide
 have m:c≠13:=fun e=>by subst e;revert f;decide
 simp [zxM,j,i,m]
theorem zgV {p:UInt8→Bool} {a r:List UInt8} (f: ∀c∈a,p c=false) (i: ∀d e,r=d::e→p d=true):(a++r).findIdx p=a.length:=by
 induction a with
 |nil=>
  cases r with
  |nil=>rfl
  |cons d e=>rw [List.nil_append,List.findIdx_cons,i d e rfl];rfl
 |cons c a g=>
  rw [List.cons_append,List.findIdx_cons,f c (yoH ..),g (fun x j=>f x (List.mem_cons_of_mem _ j))]
  rfl
theorem z9T {n:List UInt8} (f:n=ziL∨n=zdX) (r:List UInt8):schW (n++58::r)=some (n,r):=by
 have e:(n++58::r).findIdx (fun c=> !schC c)=n.length:=zgV (by rcases f with rfl|rfl<;>decide) (fun d g e=>by rw [←(List.cons.inj e).1];decide)
 unfold schW
 rw [e,if_pos]
 ·congr 1
  rw [List.take_left,show n.length+1=(n++[58]).length from by simp,show n++58::r=(n++[58])++r from by simp,List.drop_left]
  rcases f with rfl|rfl<;>rfl
 ·refine ⟨?_,by simp⟩
  rcases f with rfl|rfl<;>rfl
theorem zsQ {l:List UInt8} (h:zeU l=false):zhB (47::47::l)=l:=by
 unfold zhB
 rw [List.dropWhile_cons,show zcB 47=true from rfl,if_pos rfl,List.dropWhile_cons,show zcB 47=true from rfl,if_pos rfl]
 cases l with
 |nil=>rfl
 |cons c r=>rw [List.dropWhile_cons,show zcB c=false from h];rfl
theorem zzA {l:List UInt8} (h:(64:UInt8)∉l):atW l=none:=by
 unfold atW
 have:l.reverse.findIdx (· ==64)=l.reverse.length:=by
  have:=zgV (p:=(· ==64)) (a:=l.reverse) (r:=[]) (fun c f=>by simp only [yoE];exact fun e=>h (e▸List.mem_reverse.1 f)) (fun d g e=>by cases e)
  rwa [List.append_nil] at this
 rw [this,List.length_reverse,if_neg (by omega)]
theorem zzQ {a d:List UInt8} (h:(64:UInt8)∉d):atW (a++64::d)=some a.length:=by
 unfold atW
 have:(a++64::d).reverse.findIdx (· ==64)=d.reverse.length:=by
  rw [List.reverse_append,List.reverse_cons,List.append_assoc]
  exact zgV (fun c f=>by simp only [yoE];exact fun e=>h (e▸List.mem_reverse.1 f)) (fun x g e=>by rw [List.singleton_append] at e;rw [←(List.cons.inj e).1];rfl)
 rw [this,List.length_reverse,if_pos (by simp;omega)]
 congr 1
 simp
theorem zgA (d:Bool) (c:UInt8) (r:List UInt8):hpW d (c::r)=if c=58∧d=false then ([],r) else (c::(hpW (if c=91 then true else if c=93 then false else d) r).1,(hpW (if c=91 then true else if c=93 then false else d) r).2):=by rw [hpW]
theorem z9R {a:List UInt8} (h: ∀c∈a,c≠58∧c≠91):hpW false a=(a,[])∧ ∀d,hpW false (a++58::d)=(a,d):=by
 induction a with
 |nil=>exact ⟨rfl,fun d=>by rw [List.nil_append,zgA,if_pos ⟨rfl,rfl⟩]⟩
 |cons c a f=>
  have i:=h c (yoH ..)
  have f:=f (fun x j=>h x (List.mem_cons_of_mem _ j))
  have e:(if c=91 then true else if c=93 then false else false)=false:=by rw [if_neg i.2];split<;>rfl
  refine ⟨?_,fun d=> ?_⟩
  ·rw [zgA,if_neg (fun g=>i.1 g.1),e,f.1]
  ·rw [List.cons_append,zgA,if_neg (fun g=>i.1 g.1),e,f.2]
theorem hpW_in {m:List UInt8} (h: ∀c∈m,c≠93) (r:List UInt8):hpW true (m++93::r)=(m++93::(hpW false r).1,(hpW false r).2):=by
 induction m with
 |nil=>rw [List.nil_append,zgA,if_neg (fun g=>by cases g.2)];rfl
 |cons c m d=>
  have d:=d (fun x f=>h x (List.mem_cons_of_mem _ f))
  have e:(if c=91 then true else if c=93 then false else true)=true:=by rw [if_neg (h c (yoH ..))];split<;>rfl
  rw [List.cons_append,zgA,if_neg (fun g=>by cases g.2),e,d]
  rfl
theorem ycE {m:List UInt8} (h: ∀c∈m,c≠93) (r:List UInt8):hpW false ([91]++m++[93]++r)=([91]++m++[93]++(hpW false r).1,(hpW false r).2):=by
 rw [show [91]++m++[93]++r=91::(m++93::r) from by simp]
 rw [zgA,if_neg (fun g=>by cases g.1),show (if (91:UInt8)=91 then true else if (91:UInt8)=93 then false else false)=true from rfl,hpW_in h]
 simp
theorem zoZ (c:UInt8): ∀(a:List UInt8) (n m:Int),zgL n a=some m→zgL n (a++[c])=zgL m [c]
 |[],n,m,h=>by rw [show zgL n []=some n from rfl] at h;rw [←Option.some.inj h];rfl
 |x::r,n,m,h=>by
  unfold zgL at h
  rw [List.cons_append];unfold zgL
  split at h
  ·rename_i g;rw [if_pos g];rw [zoZ c r _ m h];rfl
  ·cases h
theorem zuK {n:Int} {d:Nat} (h:d<10) (f:n≤65535):zgL n [UInt8.ofNat (48+d)]=some (10*n+d):=by
 have e:(UInt8.ofNat (48+d)).toNat=48+d:=by rw [UInt8.toNat_ofNat'];omega
 unfold zgL
 rw [e,if_pos (show zaU ((48+d:Nat):Int)=true from decide_eq_true (by omega)),if_pos f]
 show some _=_
 congr 1;omega
theorem ycV (u:Nat):u≤65535→zgL 0 (Lib.decDigits u)=some (u:Int):=by
 induction u using Nat.strongRecOn with
 |ind u d=>
  intro e
  rw [Lib.decDigits]
  split
  ·rename_i h;rw [zuK h (by omega)];congr 1;omega
  ·rw [zoZ _ _ _ _ (d (u/10) (by omega) (by omega)),zuK (Nat.mod_lt _ (by decide)) (by omega)]
   congr 1;omega
theorem zlE {p:Int} (f:0≤p) (g:p≤65535):zdJ (Lib.itoa p)=p:=by
 obtain ⟨k,rfl⟩:=Int.eq_ofNat_of_zero_le f
 rw [Lib.itoa_nonneg]
 have d:=ycV k (by omega)
 unfold zdJ
 rw [if_neg (fun e=>by rw [e] at d;revert d;have:=Lib.decDigits_length k;rw [e] at this;intro _;unfold Lib.nDigits at this;split at this<;>simp at this),d]
 show (if (k:Int)>65535 then _ else _)=_
 rw [if_neg (by omega)]
theorem ybV {p:UInt8→Bool} {a:List UInt8} (h: ∀c∈a,p c=false):zbF p a=[a]:=by
 unfold zbF spl
 rw [zmP _ a [] h]
 simp
theorem z2Q {p:UInt8→Bool} {a:List UInt8} {c:UInt8} (d:List UInt8) (h: ∀c∈a,p c=false) (e:p c=true):zbF p (a++c::d)=a::zbF p d:=by
 unfold zbF spl
 rw [List.foldl_append,zmP _ a [] h,List.foldl_cons]
 have:zaP p ([],[]++a) c=([a]++[],[]):=by unfold zaP;simp [e]
 rw [this,zqI]
 simp
theorem zoT: ∀(r:List (List UInt8)) (s:List UInt8),(∀x∈s::r,∀c∈x,hasB [47,92] c=false)→zbF (hasB [47,92]) (s++zbC r)=s::r
 |[],s,h=>by rw [show zbC []=[] from rfl,List.append_nil,ybV (h s (yoH ..))]
 |t::r,s,h=>by
  rw [show zbC (t::r)=47::(t++zbC r) from rfl,z2Q _ (h s (yoH ..)) rfl,zoT r t (fun x d=>h x (List.mem_cons_of_mem _ d))]
theorem z0X: ∀(r out:List (List UInt8)),(∀s∈r,zrK s)→goW out r=out++r
 |[],out,_=>by simp [goW]
 |s::r,out,h=>by
  have d:=h s (yoH ..)
  show goW (zeE r.isEmpty out (encW 4 s)) r=_
  rw [d.1.same,show zeE r.isEmpty out s=out++[s] from by unfold zeE;rw [if_pos d.2],z0X r _ (fun x e=>h x (List.mem_cons_of_mem _ e))]
  simp
theorem zjN {l:List UInt8} (h: ∀c∈l,endC c=false): ∀c∈l,hasB [47,92,63,35] c=false:=fun c g=>by
 have f: ∀d:UInt8,endC d=true→c≠d:=fun d o e=>by have:=h c g;rw [e,o] at this;cases this
 have m:=f 47 rfl
 have j:=f 92 rfl
 have q:=f 63 rfl
 have i:=f 35 rfl
 simp [hasB,Ne.symm m,Ne.symm j,Ne.symm q,Ne.symm i]
theorem zlO {l:List UInt8} (h:Out 5 l): ∀c∈l,endC c=false:=fun c g=>by
 have f: ∀d:UInt8,inB 5 (d.toNat:Int)=true→c≠d:=fun d q e=>h.not q (e▸g)
 have o:=f 47 rfl
 have j:=f 92 rfl
 have A:=f 63 rfl
 have i:=f 35 rfl
 have m:=f 64 rfl
 simp [endC,hasB,Ne.symm o,Ne.symm j,Ne.symm A,Ne.symm i,Ne.symm m]
theorem znA {h:HZ} (d:h.Ok):zbD h≠[]:=fun e=>by
 have:=znQ d
 rw [e] at this
 have f:(zcN []).2=0:=congrArg Prod.snd this
 exact absurd f (by decide+kernel)
theorem z0Z {u:UZ} (h:zcI u):zaX u≠[]:=by
 have:=znA h.host
 unfold zaX
 split
 ·exact this
 ·simp
theorem yhQ {u:UZ} (h:zcI u):hpW false (zaX u)=(zbD u.host,if u.port= -1 then [] else Lib.itoa u.port):=by
 unfold zaX
 rcases zgG h.host with g|⟨m,e,g⟩
 ·have f:=z9R (a:=zbD u.host) (fun c d=>⟨(zjK (g c d)).2.1,(zjK (g c d)).2.2.1⟩)
  split
  ·exact f.1
  ·rw [List.append_assoc];exact f.2 _
 ·have i: ∀c∈m,c≠93:=fun c d=>(zvW (g c d)).2.2.1
  rw [e]
  split
  ·have:=ycE i []
   rw [List.append_nil] at this
   rw [this];simp [hpW]
  ·rw [List.append_assoc _ [58],ycE i]
   simp [zgA]
theorem z5P {u:UZ} (h:zcI u):zdJ (if u.port= -1 then [] else Lib.itoa u.port)=u.port:=by
 split
 ·rename_i g;rw [g];rfl
 ·rename_i g;exact zlE (by have:=h.port.1;omega) h.port.2.1
def upW (u:UZ):List UInt8:=u.user++(if u.pass=[] then [] else 58::u.pass)
theorem znK (u:UZ):whoU u=if u.user=[]∧u.pass=[] then [] else upW u++[64]:=by
 unfold whoU upW
 by_cases g:u.user=[]∧u.pass=[]
 ·rw [if_pos g,if_pos g,g.1,g.2];rfl
 ·rw [if_neg g,if_neg g]
theorem yiM {u:UZ} (f:zdR u) {a:List UInt8} (i:(64:UInt8)∉a):ziJ (whoU u++a)=u.user∧ziN (whoU u++a)=u.pass∧zcO (whoU u++a)=a:=by
 rw [znK]
 split
 ·rename_i g
  rw [List.nil_append]
  unfold ziJ ziN zcO
  rw [zzA i,g.1,g.2]
  exact ⟨rfl,rfl,rfl⟩
 ·have e:upW u++[64]++a=upW u++64::a:=by simp
  have j:(upW u).findIdx (· ==58)=u.user.length:=by
   unfold upW
   refine zgV (fun c m=>by simp only [yoE];exact fun e=>f.user.not (c:=58) rfl (e▸m)) (fun d q e=> ?_)
   split at e
   ·cases e
   ·rw [←(List.cons.inj e).1];rfl
  have o:(upW u++64::a).drop ((upW u).length+1)=a:=by
   rw [show (upW u).length+1=(upW u++[64]).length from by simp,show upW u++64::a=(upW u++[64])++a from by simp,List.drop_left]
  rw [e]
  unfold ziJ ziN zcO
  rw [zzQ i]
  simp only [List.take_left,j,o]
  refine ⟨?_,?_,trivial⟩
  ·unfold upW;rw [List.take_left,f.user.same]
  ·unfold upW
   by_cases g:u.pass=[]
   ·rw [if_pos g,List.append_nil,if_neg (by omega),g]
   ·rw [if_neg g,if_pos (by simp),show u.user.length+1=(u.user++[58]).length from by simp,show u.user++58::u.pass=(u.user++[58])++u.pass from by simp,List.drop_left,f.pass.same]
theorem zrL {u:UZ} (e:zdR u): ∀c∈whoU u,hasB [47,92,63,35] c=false:=by
 rw [znK]
 intro c d
 split at d
 ·cases d
 ·unfold upW at d
  rcases List.mem_append.1 d with d|d
  ·rcases List.mem_append.1 d with d|d
   ·exact zjN (zlO e.user) c d
   ·split at d
    ·cases d
    ·rcases List.mem_cons.1 d with rfl|d
     ·rfl
     ·exact zjN (zlO e.pass) c d
  ·rw [yoG] at d;subst d;rfl
/-! the path,and what stands behind it -/
def qryL (u:UZ):List UInt8:=if u.hasQ=true then 63::u.query else []
def frgL (u:UZ):List UInt8:=if u.hasF=true then 35::u.frag else []
theorem yaI {u v:UZ} (h:zcI u) (C:zdR u) (i:v.query=[]∧v.hasQ=false∧v.frag=[]∧v.hasF=false):
  zkH v (qryL u++frgL u)={v with query:=u.query,hasQ:=u.hasQ,frag:=u.frag,hasF:=u.hasF}:=by
 obtain ⟨q,o,A,B,m,j,G,J,I,D⟩:=v
 simp only at i ⊢
 obtain ⟨rfl,rfl,rfl,rfl⟩:=i
 have g:(35:UInt8)∉u.query:=zrI h.qry (by decide)
 have hi:(qryL u++frgL u).findIdx (· ==35)=(qryL u).length:=by
  refine zgV (fun c f=> ?_) (fun d H e=> ?_)
  ·unfold qryL at f
   split at f
   ·rcases List.mem_cons.1 f with rfl|f
    ·rfl
    ·simp only [yoE];exact fun e=>g (e▸f)
   ·cases f
  ·unfold frgL at e
   split at e
   ·rw [←(List.cons.inj e).1];rfl
   ·cases e
 have E:qryW ⟨q,o,A,B,m,j,[],false,[],false⟩ (qryL u++frgL u)=⟨q,o,A,B,m,j,u.query,u.hasQ,[],false⟩:=by
  unfold qryW
  rw [hi,List.take_left]
  cases e:u.hasQ with
  |true=>
   rw [show qryL u=63::u.query from by unfold qryL;rw [if_pos e],if_pos (show (63::u.query++frgL u).head? =some 63 from rfl),List.drop_one,List.tail_cons,C.qry.same]
  |false=>
   rw [show qryL u=[] from by unfold qryL;rw [if_neg (by rw [e];decide)],h.noQ e,if_neg]
   unfold frgL
   split<;>simp
 unfold zkH
 rw [E]
 unfold frgW
 rw [hi]
 cases e:u.hasF with
 |true=>
  rw [show frgL u=35::u.frag from by unfold frgL;rw [if_pos e],if_pos (by simp),show (qryL u).length+1=(qryL u++[35]).length from by simp,show qryL u++35::u.frag=(qryL u++[35])++u.frag from by simp,List.drop_left,C.frag.same]
 |false=>
  rw [show frgL u=[] from by unfold frgL;rw [if_neg (by rw [e];decide)],List.append_nil,if_neg (by omega),h.noF e]
theorem z3N {u v:UZ} (h:zcI u) (q:zdR u) (B:v.query=[]∧v.hasQ=false∧v.frag=[]∧v.hasF=false):
  zdQ v [] (offW (zbC u.path++(qryL u++frgL u)))={v with path:=u.path,query:=u.query,hasQ:=u.hasQ,frag:=u.frag,hasF:=u.hasF}:=by
 have j:=h.segs
 have A:=q.path
 cases e:u.path with
 |nil=>exact absurd e h.some
 |cons s r=>
  rw [e] at j A
  have m: ∀x∈s::r,∀c∈x,hasB [47,63,35,92] c=false:=fun x i c f=>by
   have:=List.all_eq_true.1 (List.all_eq_true.1 j x i) c f
   simpa using this
  have E: ∀c∈s++zbC r,hasB [63,35] c=false:=fun c f=>by
   have D:c≠63:=fun g=>by
    subst g
    rcases List.mem_append.1 f with f|f
    ·have:=m s (yoH ..) _ f;revert this;decide
    ·exact zlS (of:=[47,63,35,92]) (List.all_eq_true.2 fun x i=>List.all_eq_true.1 j x (List.mem_cons_of_mem _ i)) (by decide) (by decide) f
   have C:c≠35:=fun g=>by
    subst g
    rcases List.mem_append.1 f with f|f
    ·have:=m s (yoH ..) _ f;revert this;decide
    ·exact zlS (of:=[47,63,35,92]) (List.all_eq_true.2 fun x i=>List.all_eq_true.1 j x (List.mem_cons_of_mem _ i)) (by decide) (by decide) f
   simp [hasB,Ne.symm D,Ne.symm C]
  rw [show zbC (s::r)++(qryL u++frgL u)=47::((s++zbC r)++(qryL u++frgL u)) from by simp [zbC]]
  rw [show offW (47::((s++zbC r)++(qryL u++frgL u)))=(s++zbC r)++(qryL u++frgL u) from rfl]
  have hi:((s++zbC r)++(qryL u++frgL u)).findIdx (hasB [63,35])=(s++zbC r).length:=by
   refine zgV E (fun d G g=> ?_)
   unfold qryL frgL at g
   split at g
   ·rw [List.cons_append] at g;rw [←(List.cons.inj g).1];rfl
   ·rw [List.nil_append] at g
    split at g
    ·rw [←(List.cons.inj g).1];rfl
    ·cases g
  have o:zbF (hasB [47,92]) (s++zbC r)=s::r:=zoT r s (fun x i c f=>by
   have:=m x i c f
   simp only [hasB,List.any_cons,List.any_nil,Bool.or_false,Bool.or_eq_false_iff] at this ⊢
   exact ⟨this.1,this.2.2.2⟩)
  unfold zdQ
  rw [hi,List.take_left,List.drop_left]
  unfold znS
  rw [o,z0X _ _ A,List.nil_append,yaI h q (by exact B)]
theorem ztP {u:UZ} (h:zcI u) (g:zdR u):zeG u.scheme (zqZ u)=(u,0):=by
 obtain ⟨r,D⟩:=z3T h
 have B: ∀c∈whoU u++zaX u,hasB [47,92,63,35] c=false:=fun c f=>by
  rcases List.mem_append.1 f with f|f
  ·exact zrL g c f
  ·exact zjN (zhV h) c f
 have e:zqZ u=(whoU u++zaX u)++(zbC u.path++(qryL u++frgL u)):=by unfold zqZ askU qryL frgL;simp only [List.append_assoc]
 have hi:((whoU u++zaX u)++(zbC u.path++(qryL u++frgL u))).findIdx (hasB [47,92,63,35])=(whoU u++zaX u).length:=by
  refine zgV B (fun d G j=> ?_)
  have C:zbC u.path++(qryL u++frgL u)=47::(r++frgL u):=by
   have:zbC u.path++qryL u=47::r:=D
   rw [←List.append_assoc,this];rfl
  rw [C] at j
  rw [←(List.cons.inj j).1];rfl
 obtain ⟨A,o,m⟩:=yiM g (a:=zaX u) (zrV (zhV h) (by decide))
 have E:=z5P h
 have q:=znQ h.host
 have i:u.port≠ -2:=by have:=h.port.1;omega
 unfold zeG
 rw [e]
 simp only [hi,List.take_left,List.drop_left,A,o,m,yhQ h,E,q]
 rw [if_neg (znA h.host),if_neg (by decide),if_neg i,if_neg h.port.2.2,z3N h g ⟨rfl,rfl,rfl,rfl⟩]
theorem ylQ {u:UZ} (g:zdR u):Vis (zbC u.path):=by
 have d:=g.path
 generalize u.path=l at d
 induction l with
 |nil=>exact Vis.nil
 |cons s r e=>
  unfold zbC
  exact Vis.cons (by decide) (((d s (yoH ..)).1.vis (by decide) (by decide) (by decide)).app (e (fun x f=>d x (List.mem_cons_of_mem _ f))))
theorem z6R {c:UInt8} (h:zfH c=true):33≤c.toNat∧c.toNat≤126:=by
 unfold zfH at h
 exact of_decide_eq_true (Bool.and_eq_true_iff.1 h).1
theorem yeQ {c:UInt8} (h:sixC c=true):33≤c.toNat∧c.toNat≤126:=by
 unfold sixC hexC at h
 simp only [Bool.or_eq_true,decide_eq_true_eq,beq_iff_eq] at h
 rcases h with (h|h)|h
 ·omega
 ·omega
 ·subst h;decide
theorem ybS {u:UZ} (h:zcI u):Vis (zaX u):=by
 have f:Vis (zbD u.host):=fun c d=>by
  rcases zgG h.host with g|⟨m,e,g⟩
  ·exact z6R (g c d)
  ·rw [e] at d
   simp only [List.mem_append,yoG] at d
   rcases d with (rfl|d)|rfl
   ·decide
   ·exact yeQ (g c d)
   ·decide
 unfold zaX
 split
 ·exact f
 ·refine (f.app (Vis.cons (by decide) Vis.nil)).app fun c d=> ?_
  have:=zoH (by have:=h.port.1;omega) c d
  omega
theorem ybQ {u:UZ} (h:zcI u) (d:zdR u):Vis (zhG u):=by
 rw [zpV]
 have f:Vis (zqX u):=by
  unfold zqX
  rcases h.sch with e|e<;>rw [e]<;>(intro c j;revert c;decide)
 have i:Vis (whoU u):=by
  rw [znK]
  split
  ·exact Vis.nil
  ·refine Vis.app ?_ (Vis.cons (by decide) Vis.nil)
   unfold upW
   refine (d.user.vis (by decide) (by decide) (by decide)).app ?_
   split
   ·exact Vis.nil
   ·exact Vis.cons (by decide) (d.pass.vis (by decide) (by decide) (by decide))
 have g:Vis (askU u):=by
  unfold askU
  refine (ylQ d).app ?_
  split
  ·exact Vis.cons (by decide) (d.qry.vis (by decide) (by decide) (by decide))
  ·exact Vis.nil
 refine f.app (((i.app (ybS h)).app g).app ?_)
 split
 ·exact Vis.cons (by decide) (d.frag.vis (by decide) (by decide) (by decide))
 ·exact Vis.nil
theorem zmV {u:UZ} (h:zcI u) (j:zdR u):zeU (zqZ u)=false:=by
 have f: ∀c∈whoU u++zaX u,hasB [47,92,63,35] c=false:=fun c d=>by
  rcases List.mem_append.1 d with d|d
  ·exact zrL j c d
  ·exact zjN (zhV h) c d
 have i:whoU u++zaX u≠[]:=fun e=>z0Z h (List.append_eq_nil_iff.1 e).2
 unfold zqZ
 cases e:whoU u++zaX u with
 |nil=>exact absurd e i
 |cons c r=>
  rw [e] at f
  have:=f c (yoH ..)
  have o:c≠47:=fun g=>by subst g;revert this;decide
  have m:c≠92:=fun g=>by subst g;revert this;decide
  show zcB c=false
  simp [zcB,o,m]
theorem z6L {u:UZ} (h:zcI u) (d:zdR u) (g:(zhG u).length≤4096) (b:Option UZ):zbL (zhG u) b=(u,0):=by
 unfold zbL
 rw [if_neg (by omega),z7K (ybQ h d)]
 have e:zhG u=u.scheme++58::(47::47::zqZ u):=by rw [zpV];unfold zqX;simp
 have f:schW (zhG u)=some (u.scheme,47::47::zqZ u):=by rw [e];exact z9T h.sch _
 unfold znE
 rw [f]
 cases b with
 |none=>
  simp only
  rw [if_pos h.sch,zsQ (zmV h d),ztP h d]
 |some b=>
  simp only
  rw [if_pos h.sch,if_pos (.inr rfl),zsQ (zmV h d),ztP h d]
section
variable {σ:Type}
def zbX (st:σ→UInt8→Option σ):σ→List UInt8→Nat
 |_,[]=>0
 |s,c::l=>match st s c with
  |none=>0
  |some t=>zbX st t l+1
structure zvV (sr:σ→Nat→Bool×σ) (st:σ→UInt8→Option σ):Prop where
 low: ∀s c,c.toNat<128→st s c=if (sr s c.toNat).1=true then none else some (sr s c.toNat).2
 high:((∀s r,128≤r→(sr s r).1=true)∧ ∀s c,128≤c.toNat→st s c=none)∨((∀s r,128≤r→sr s r=(false,s))∧ ∀s c,128≤c.toNat→st s c=some s)
theorem zwJ (st:σ→UInt8→Option σ): ∀(l:List UInt8) (s:σ),zbX st s l≤l.length
 |[],_=>Nat.le_refl _
 |c::l,s=>by
  unfold zbX
  split
  ·omega
  ·have:=zwJ st l;simp only [List.length_cons];rename_i t _;have:=this t;omega
theorem zhR {st:σ→UInt8→Option σ} {s:σ} {c:UInt8} {l:List UInt8} (h:st s c=none):zbX st s (c::l)=0:=by unfold zbX;rw [h]
theorem zdB {st:σ→UInt8→Option σ} {s t:σ} {c:UInt8} {l:List UInt8} (h:st s c=some t):zbX st s (c::l)=zbX st t l+1:=by conv=>lhs;unfold zbX;rw [h]
theorem ztE {st:σ→UInt8→Option σ} {s:σ}: ∀(k:Nat) (l:List UInt8),(∀j,j<k→ ∃c,l[j]? =some c∧st s c=some s)→zbX st s l=k+zbX st s (l.drop k)
 |0,l,_=>by simp
 |k+1,[],h=>by obtain ⟨c,e,_⟩:=h 0 (by omega);simp at e
 |k+1,c::l,h=>by
  obtain ⟨d,e,f⟩:=h 0 (by omega)
  simp at e;subst e
  rw [zdB f,ztE k l (fun j g=>by have:=h (j+1) (by omega);simpa using this),List.drop_succ_cons]
  omega
theorem ymA {s:ByteArray} {i:Nat} (h:i<s.size) (d:128≤zaW s i): ∃c,s.data.toList[i]? =some c∧128≤c.toNat:=⟨s[i],zeH s i h,by rw [←zrS s i h];exact d⟩
theorem zmG (s:ByteArray) (p:Nat) (h:p<s.size) (m:128≤s[p].toNat): ∀j,j<(Utf8.decode s p).2→ ∃c,s.data.toList[p+j]? =some c∧128≤c.toNat:=by
 have o:=zrS s p h
 intro j e
 rw [zdC] at e
 have d: ∀n,j<n→(∀i,i<n→p+i<s.size∧128≤zaW s (p+i))→ ∃c,s.data.toList[p+j]? =some c∧128≤c.toNat:=fun n g H=>ymA (H j g).1 (H j g).2
 have f: ∀i,i<1→p+i<s.size∧128≤zaW s (p+i):=fun i hi=>by
  obtain rfl:i=0:=by omega
  exact ⟨h,by rw [Nat.add_zero];omega⟩
 split at e
 ·omega
 ·split at e
  ·rename_i a
   split at e
   ·refine d 2 e (fun i hi=> ?_)
    match i,hi with
    |0,_=>exact f 0 (by omega)
    |1,_=>exact ⟨a.2.1,by omega⟩
   ·exact d 1 e f
  ·split at e
   ·rename_i a
    split at e
    ·refine d 3 e (fun i hi=> ?_)
     match i,hi with
     |0,_=>exact f 0 (by omega)
     |1,_=>exact ⟨a.1.2.1,by omega⟩
     |2,_=>exact ⟨a.2.1,by omega⟩
    ·exact d 1 e f
   ·split at e
    ·rename_i a
     split at e
     ·refine d 4 e (fun i hi=> ?_)
      match i,hi with
      |0,_=>exact f 0 (by omega)
      |1,_=>exact ⟨a.1.1.2.1,by omega⟩
      |2,_=>exact ⟨a.1.2.1,by omega⟩
      |3,_=>exact ⟨a.2.1,by omega⟩
     ·exact d 1 e f
    ·exact d 1 e f
theorem z7W {sr:σ→Nat→Bool×σ} {st:σ→UInt8→Option σ} (H:zvV sr st) (s:ByteArray) (p:Nat) (h:p<s.size) (x:σ) (d:(sr x (Utf8.decode s p).1).1=true):zbX st x (s.data.toList.drop p)=0:=by
 rw [zcP s p h]
 apply zhR
 by_cases e:s[p].toNat<128
 ·rw [decode_ascii s p h e] at d
  rw [H.low x _ e,if_pos d]
 ·have f:=(decode_high s p h (by omega)).1
  rcases H.high with ⟨_,k⟩|⟨k,_⟩
  ·exact k x _ (by omega)
  ·rw [k x _ f] at d;cases d
theorem ylD {sr:σ→Nat→Bool×σ} {st:σ→UInt8→Option σ} (H:zvV sr st) (s:ByteArray) (p:Nat) (h:p<s.size) (x:σ) (d:(sr x (Utf8.decode s p).1).1=false):
  zbX st x (s.data.toList.drop p)=(Utf8.decode s p).2+zbX st (sr x (Utf8.decode s p).1).2 (s.data.toList.drop (p+(Utf8.decode s p).2)):=by
 by_cases g:s[p].toNat<128
 ·rw [decode_ascii s p h g] at d ⊢
  rw [zcP s p h,zdB (by rw [H.low x _ g,if_neg (by rw [d];decide)])]
  exact Nat.add_comm _ _
 ·have f:=(decode_high s p h (by omega)).1
  rcases H.high with ⟨k,_⟩|⟨k,m⟩
  ·rw [k x _ f] at d;cases d
  ·rw [k x _ f]
   have:=ztE (st:=st) (s:=x) (Utf8.decode s p).2 (s.data.toList.drop p) (fun j o=>by
    obtain ⟨c,e,i⟩:=zmG s p h (by omega) j o
    exact ⟨c,by rw [List.getElem?_drop];exact e,m x c i⟩)
   rw [this,List.drop_drop]
end
theorem zkE (q:UInt8→Bool): ∀l:List UInt8,zbX (fun (_:Unit) c=>if q c=true then none else some ()) () l=l.findIdx q
 |[]=>rfl
 |c::l=>by
  cases h:q c with
  |true=>rw [zhR (by rw [if_pos h]),List.findIdx_cons,h];rfl
  |false=>rw [zdB (t:=()) (by rw [if_neg (by rw [h];decide)]),zkE q l,List.findIdx_cons,h];rfl
theorem zpS (q:UInt8→Bool): ∀l:List UInt8,l.drop (l.findIdx fun c=> !q c)=l.dropWhile q
 |[]=>rfl
 |c::l=>by
  rw [List.findIdx_cons,List.dropWhile_cons]
  cases h:q c with
  |true=>simpa using zpS q l
  |false=>simp
theorem ycK (l:List UInt8):l.drop (zbX (fun (_:Unit) c=>if (!zcB c)=true then none else some ()) () l)=zhB l:=by
 rw [zkE (fun c=> !zcB c)];exact zpS zcB l
def schS (w:Bool) (c:UInt8):Option Bool:=if zbY c.toNat||(w&&(zaU c.toNat||(c==43||c==45||c==46))) then some true else none
theorem zvK: ∀l:List UInt8,zbX schS true l=l.findIdx fun c=> !schC c
 |[]=>rfl
 |c::l=>by
  have e:schS true c=if schC c=true then some true else none:=by unfold schS schC;simp only [Bool.true_and,Bool.or_assoc]
  cases h:schC c with
  |true=>rw [zdB (t:=true) (by rw [e,if_pos h]),zvK l,List.findIdx_cons,h];rfl
  |false=>rw [zhR (by rw [e,if_neg (by rw [h];decide)]),List.findIdx_cons,h];rfl
def schN (l:List UInt8):Nat:=zbX schS false l
theorem zsO (l:List UInt8):schW l=if schN l≠0∧l[schN l]? =some 58 then some (zaI (l.take (schN l)),l.drop (schN l+1)) else none:=by
 unfold schN
 match l with
 |[]=>simp [schW,zbX]
 |c::l=>
  cases h:zbY c.toNat with
  |true=>
   have d:schS false c=some true:=by unfold schS;rw [h];rfl
   have g:schC c=true:=by unfold schC;rw [h];rfl
   have f:(c::l).findIdx (fun c=> !schC c)=zbX schS false (c::l):=by rw [zdB d,zvK,List.findIdx_cons,g];rfl
   unfold schW
   rw [f]
   have e:zbX schS false (c::l)≠0:=by rw [zdB d];omega
   simp only [h,true_and,ne_eq,e,not_false_eq_true]
  |false=>
   have d:schS false c=none:=by unfold schS;rw [h];rfl
   unfold schW
   rw [zhR d]
   simp [h]
def zgW (i:Bool) (c:UInt8):Option Bool:=if c=91 then some true else if c=93 then some false else if c=58∧i=false then none else some i
theorem zhO (d:Bool) (c:UInt8) (r:List UInt8):hpW d (c::r)=if c=58∧d=false then ([],r) else (c::(hpW (if c=91 then true else if c=93 then false else d) r).1,(hpW (if c=91 then true else if c=93 then false else d) r).2):=by conv=>lhs;unfold hpW
theorem zfZ: ∀(l:List UInt8) (i:Bool),l.take (zbX zgW i l)=(hpW i l).1∧(l.drop (zbX zgW i l)).drop 1=(hpW i l).2∧(zbX zgW i l<l.length→l[zbX zgW i l]? =some 58)
 |[],i=>by simp [zbX,hpW]
 |c::l,i=>by
  by_cases d:c=91
  ·have m:=zfZ l true
   have e:zgW i c=some true:=if_pos d
   rw [zdB e,zhO,if_neg (by rw [d];exact fun g=>absurd g.1 (by decide)),if_pos d]
   simpa using m
  ·by_cases f:c=93
   ·have m:=zfZ l false
    have e:zgW i c=some false:=(if_neg d).trans (if_pos f)
    rw [zdB e,zhO,if_neg (by rw [f];exact fun g=>absurd g.1 (by decide)),if_neg d,if_pos f]
    simpa using m
   ·by_cases j:c=58∧i=false
    ·have e:zgW i c=none:=(if_neg d).trans ((if_neg f).trans (if_pos j))
     rw [zhR e,zhO,if_pos j]
     simp [j.1]
    ·have m:=zfZ l i
     have e:zgW i c=some i:=(if_neg d).trans ((if_neg f).trans (if_neg j))
     rw [zdB e,zhO,if_neg j,if_neg d,if_neg f]
     simpa using m
end
section
open Go.RowKit
theorem u8_nat (c:UInt8):UInt8.ofNat c.toNat=c:=by simp
def zpO (_:Unit) (r:Nat):Bool×Unit:=(!(decide (r=47)||decide (r=92)),())
def z5Z (_:Unit) (c:UInt8):Option Unit:=if (!zcB c)=true then none else some ()
theorem zqA (c:UInt8):zcB c=(decide (c.toNat=47)||decide (c.toNat=92)):=by
 unfold zcB
 rw [Bool.eq_iff_iff]
 simp only [Bool.or_eq_true,beq_iff_eq,decide_eq_true_eq,←UInt8.toNat_inj]
 exact Iff.rfl
theorem yaO:zvV zpO z5Z where
 low _ c _:=by unfold z5Z zpO;rw [zqA]
 high:= .inl ⟨fun _ r h=>by unfold zpO;simp;omega,fun _ c h=>by
  unfold z5Z
  rw [if_pos]
  rw [zqA,yoF (by omega),yoF (by omega)];rfl⟩
def ycP (of_:List UInt8) (_:Unit) (r:Nat):Bool×Unit:=(decide (r<128)&&hasB of_ (UInt8.ofNat r),())
def yfW (of_:List UInt8) (_:Unit) (c:UInt8):Option Unit:=if hasB of_ c=true then none else some ()
theorem yiO {of_:List UInt8} (h: ∀c∈of_,c.toNat<128):zvV (ycP of_) (yfW of_) where
 low _ c d:=by unfold yfW ycP;rw [decide_eq_true d,u8_nat];rfl
 high:= .inr ⟨fun _ r e=>by unfold ycP;rw [yoF (by omega)];rfl,fun _ c d=>by
  unfold yfW
  rw [if_neg]
  intro g
  have:c∈of_:=by simpa [hasB] using g
  have:=h c this
  omega⟩
theorem ygE (of_:List UInt8) (l:List UInt8):zbX (yfW of_) () l=l.findIdx (hasB of_):=zkE (hasB of_) l
def ztN (w:Bool) (r:Nat):Bool×Bool:=(!(zbY r||(w&&(zaU r||(decide (r=43)||decide (r=45)||decide (r=46))))),true)
theorem yfO:zvV ztN schS where
 low w c _:=by
  have e:(c==43||c==45||c==46)=(decide (c.toNat=43)||decide (c.toNat=45)||decide (c.toNat=46)):=by
   rw [Bool.eq_iff_iff]
   simp only [Bool.or_eq_true,beq_iff_eq,decide_eq_true_eq,←UInt8.toNat_inj]
   exact Iff.rfl
  unfold schS ztN
  rw [e]
  cases (zbY ↑c.toNat||w&&(zaU ↑c.toNat||(decide (c.toNat=43)||decide (c.toNat=45)||decide (c.toNat=46))))<;>rfl
 high:=by
  have d: ∀(w:Bool) (r:Nat),128≤r→(zbY r||(w&&(zaU r||(decide (r=43)||decide (r=45)||decide (r=46)))))=false:=fun w r h=>by
   rw [show zbY (r:Int)=false from yoF (by omega),show zaU (r:Int)=false from yoF (by omega),yoF (by omega),yoF (by omega),yoF (by omega)]
   cases w<;>rfl
  refine .inl ⟨fun w r h=>by unfold ztN;rw [d w r h];rfl,fun w c h=> ?_⟩
  have e:(c==43||c==45||c==46)=(decide (c.toNat=43)||decide (c.toNat=45)||decide (c.toNat=46)):=by
   rw [Bool.eq_iff_iff]
   simp only [Bool.or_eq_true,beq_iff_eq,decide_eq_true_eq,←UInt8.toNat_inj]
   exact Iff.rfl
  unfold schS
  rw [e,d w _ h]
  rfl
def inH (i:Bool) (r:Nat):Bool:=if r=91 then true else if r=93 then false else i
def zpN (i:Bool) (r:Nat):Bool×Bool:=(decide (r=58)&& !inH i r,inH i r)
theorem z8G:zvV zpN zgW where
 low i c _:=by
  have f:c=91↔c.toNat=91:=by rw [←UInt8.toNat_inj];exact Iff.rfl
  have m:c=93↔c.toNat=93:=by rw [←UInt8.toNat_inj];exact Iff.rfl
  have q:c=58↔c.toNat=58:=by rw [←UInt8.toNat_inj];exact Iff.rfl
  unfold zgW zpN inH
  by_cases j:c.toNat=91
  ·simp [f,j]
  ·by_cases o:c.toNat=93
   ·simp [f,m,o]
   ·simp only [f,m,q,j,o,if_false]
    cases i<;>by_cases A:c.toNat=58<;>simp [A]
 high:= .inr ⟨fun i r h=>by unfold zpN inH;rw [yoF (by omega),if_neg (by omega),if_neg (by omega)];rfl,fun i c h=>by
  have e: ∀d:UInt8,d.toNat<128→c≠d:=fun d B g=>by rw [g] at h;omega
  unfold zgW
  rw [if_neg (e 91 (by decide)),if_neg (e 93 (by decide)),if_neg (fun g=>e 58 (by decide) g.1)]⟩
theorem zyS (l:List UInt8):(zgP l).length≤(l.dropWhile zcM).length:=by
 unfold zgP
 rw [List.length_reverse]
 exact Nat.le_trans (List.dropWhile_sublist _).length_le (by rw [List.length_reverse];exact Nat.le_refl _)
theorem yeJ {u:UZ} (h:u.pass≠[]):whoU u=u.user++[58]++u.pass++[64]:=by
 unfold whoU;rw [if_neg h,if_neg (fun g=>h g.2)];simp
theorem yiL {u:UZ} (h:u.pass=[]) (d:u.user≠[]):whoU u=u.user++[64]:=by
 unfold whoU;rw [if_pos h,if_neg (fun g=>d g.1)];simp
theorem yfM {u:UZ} (h:u.pass=[]) (d:u.user=[]):whoU u=[]:=by
 unfold whoU;rw [if_pos h,if_pos ⟨d,h⟩,d];rfl
end
end Go.Proofs.YtegmcmgndllmaaaGreatDoor
