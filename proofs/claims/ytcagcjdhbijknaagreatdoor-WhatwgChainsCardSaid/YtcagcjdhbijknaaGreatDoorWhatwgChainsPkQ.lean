/-
  What the law WhatwgChains leans on, and its walk (17 of 33).
-/
import Derived.Test.YtcagcjdhbijknaaGreatDoorWhatwgChainsPkM
import Derived.Test.YtcagcjdhbijknaaGreatDoorWhatwgChainsPkP
import Derived.Test.YtcagcjdhbijknaaGreatDoorWhatwgChainsPkH
import Derived.Test.YtcagcjdhbijknaaGreatDoorWhatwgChainsPkB
namespace Go.Proofs.YtcagcjdhbijknaaGreatDoor
set_option maxRecDepth 100000
set_option maxHeartbeats 16000000
abbrev yhU := @decide_eq_false
abbrev yhV := @List.mem_cons_self
section
open Go.RowKit
structure UZ where
 scheme:List UInt8
 user:List UInt8
 pass:List UInt8
 host:HZ
 port:Int
 path:List (List UInt8)
 query:List UInt8
 hasQ:Bool
 frag:List UInt8
 hasF:Bool
def zdV:List UInt8:=[104,116,116,112]
def zcX:List UInt8:=[104,116,116,112,115]
def ownZ (s:List UInt8):Int:=if s=zdV then 80 else if s=zcX then 443 else 0
def ycO (s of:List UInt8):Bool:=s.all fun c=> !hasB of c
theorem z7A {b:UInt8}: ∀{l:List UInt8},b∉l→Lib.index l [b]= -1
 |[],_=>rfl
 |c::l,h=>by
  have hc: ¬b=c:=fun e=>h (e▸yhV ..)
  have ih:=z7A (l:=l) (fun g=>h (List.mem_cons_of_mem _ g))
  unfold Lib.index
  rw [ih]
  simp [List.isPrefixOf,hc]
theorem z8R {b:UInt8}: ∀{a:List UInt8} (d:List UInt8),b∉a→Lib.index (a++b::d) [b]=a.length
 |[],d,_=>by
  show Lib.index (b::d) [b]=_
  unfold Lib.index;simp [List.isPrefixOf]
 |c::a,d,h=>by
  have hc: ¬b=c:=fun e=>h (e▸yhV ..)
  have ih:=z8R (a:=a) d (fun g=>h (List.mem_cons_of_mem _ g))
  show Lib.index (c::(a++b::d)) [b]=_
  unfold Lib.index
  rw [ih]
  have h1:(([b]:List UInt8).isPrefixOf (c::(a++b::d)))=false:=by simp [List.isPrefixOf,hc]
  have h2:((a.length:Int)== -1)=false:=by rw [beq_eq_false_iff_ne];omega
  rw [h1,h2]
  simp
theorem ycS {b:UInt8} {l:List UInt8} (h:b∉l):Lib.cut l [b]=(l,[],false):=by
 unfold Lib.cut;rw [z7A h];rfl
theorem yaZ {b:UInt8} {a:List UInt8} (d:List UInt8) (h:b∉a):Lib.cut (a++b::d) [b]=(a,d,true):=by
 unfold Lib.cut;rw [z8R d h,if_pos (by omega)]
 simp
structure ziI (u:UZ):Prop where
 sch:u.scheme=zdV∨u.scheme=zcX
 host:u.host.Ok
 port: -1≤u.port∧u.port≤65535∧u.port≠ownZ u.scheme
 some:u.path≠[]
 segs:u.path.all (fun s=>ycO s [47,63,35,92])=true
 qry:ycO u.query [35]=true
 noQ:u.hasQ=false→u.query=[]
 noF:u.hasF=false→u.frag=[]
def encW (s:Int) (l:List UInt8):List UInt8:=encB s (scal ⟨l.toArray⟩)
def zcB (c:UInt8):Bool:=c==47||c==92
def schC (c:UInt8):Bool:=zcG c.toNat||zbD c.toNat||c==43||c==45||c==46
def schW (l:List UInt8):Option (List UInt8×List UInt8):=
 if (match l with|[]=>false|c::_=>zcG c.toNat)=true∧l[l.findIdx fun c=> !schC c]? =some 58 then
  some (zaX (l.take (l.findIdx fun c=> !schC c)),l.drop ((l.findIdx fun c=> !schC c)+1)) else none
def zbW (l:List UInt8):List UInt8:=l.dropWhile zcB
def ptsN:List UInt8→Option Nat
 |[]=>some 0
 |[c]=>if c=46 then some 1 else none
 |[c,d]=>if c=46∧d=46 then some 2 else none
 |c::d::e::r=>if c=46 then (ptsN (d::e::r)).map (· +1) else if c=37∧d=50∧(e=101∨e=69) then (ptsN r).map (· +1) else none
def ptsW (l:List UInt8):Nat:=match ptsN l with
 |some n=>if n>2 then 0 else n
 |none=>0
def zhJ (last:Bool) (out:List (List UInt8)) (q:List UInt8):List (List UInt8):=
 if ptsW q=0 then out++[q] else if last=true then (if ptsW q=2 then out.dropLast else out)++[[]] else if ptsW q=2 then out.dropLast else out
def goW:List (List UInt8)→List (List UInt8)→List (List UInt8)
 |out,[]=>out
 |out,p::r=>goW (zhJ r.isEmpty out (encW 4 p)) r
def zjC (from_:List (List UInt8)) (l:List UInt8):List (List UInt8):=goW from_ (zcL (hasB [47,92]) l)
def qryW (u:UZ) (l:List UInt8):UZ:=if l.head? =some 63 then {u with query:=encW 3 ((l.take (l.findIdx (· ==35))).drop 1),hasQ:=true} else u
def frgW (u:UZ) (l:List UInt8):UZ:=if l.findIdx (· ==35)<l.length then {u with frag:=encW 1 (l.drop (l.findIdx (· ==35)+1)),hasF:=true} else u
def zdC (u:UZ) (l:List UInt8):UZ:=frgW (qryW u l) l
def zcY (u:UZ) (from_:List (List UInt8)) (l:List UInt8):UZ:=
 zdC {u with path:=zjC from_ (l.take (l.findIdx (hasB [63,35])))} (l.drop (l.findIdx (hasB [63,35])))
def hpW:Bool→List UInt8→List UInt8×List UInt8
 |_,[]=>([],[])
 |ins,c::r=>
  if c=58∧ins=false then ([],r)
  else (c::(hpW (if c=91 then true else if c=93 then false else ins) r).1,(hpW (if c=91 then true else if c=93 then false else ins) r).2)
def zhX:Int→List UInt8→Option Int
 |n,[]=>some n
 |n,c::r=>if zbD c.toNat=true then zhX (if n≤65535 then 10*n+(c.toNat:Int) - 48 else n) r else none
def zfX (l:List UInt8):Int:=if l=[] then -1 else match zhX 0 l with
 |none=> -2
 |some n=>if n>65535 then -2 else n
def zbX:UZ:=⟨[],[],[],.none,0,[],[],false,[],false⟩
def atW (l:List UInt8):Option Nat:=if l.reverse.findIdx (· ==64)<l.length then some (l.length - 1 - l.reverse.findIdx (· ==64)) else none
def ziZ (l:List UInt8):List UInt8:=match atW l with
 |none=>[]
 |some k=>encW 5 ((l.take k).take ((l.take k).findIdx (· ==58)))
def zjB (l:List UInt8):List UInt8:=match atW l with
 |none=>[]
 |some k=>if (l.take k).findIdx (· ==58)<(l.take k).length then encW 5 ((l.take k).drop ((l.take k).findIdx (· ==58)+1)) else []
def zcH (l:List UInt8):List UInt8:=match atW l with
 |none=>l
 |some k=>l.drop (k+1)
def offW (l:List UInt8):List UInt8:=match l with
 |[]=>[]
 |c::r=>if zcB c=true then r else c::r
def zcU (name l:List UInt8):UZ×Int:=
 let a:=l.take (l.findIdx (hasB [47,92,63,35]))
 let rest:=l.drop (l.findIdx (hasB [47,92,63,35]))
 let hp:=hpW false (zcH a)
 if hp.1=[] then (zbX,6)
 else if (zeM hp.1).2≠0 then (zbX,(zeM hp.1).2)
 else if zfX hp.2= -2 then (zbX,8)
 else (zcY {zbX with scheme:=name,user:=ziZ a,pass:=zjB a,host:=(zeM hp.1).1,port:=if zfX hp.2=ownZ name then -1 else zfX hp.2} [] (offW rest),0)
def zaY (l:List UInt8):Bool:=match l with
 |[]=>false
 |c::_=>zcB c
def relW (b:UZ) (l:List UInt8):UZ×Int:=
 if zaY l=true∧zaY (l.drop 1)=true then zcU b.scheme (zbW l)
 else
  let u:UZ:={zbX with scheme:=b.scheme,user:=b.user,pass:=b.pass,host:=b.host,port:=b.port}
  if zaY l=true then (zcY u [] (l.drop 1),0)
  else if l=[]∨l.head? =some 35 then (zdC {u with path:=b.path,query:=b.query,hasQ:=b.hasQ} l,0)
  else if l.head? =some 63 then (zdC {u with path:=b.path} l,0)
  else (zcY u b.path.dropLast l,0)
def zeB (s:List UInt8) (b:Option UZ):UZ×Int:=
 match schW s,b with
 |none,none=>(zbX,5)
 |none,some b=>relW b s
 |some (n,r),none=>if n=zdV∨n=zcX then zcU n (zbW r) else (zbX,5)
 |some (n,r),some b=>if n=zdV∨n=zcX then (if b.scheme≠n∨r.take 2=[47,47] then zcU n (zbW r) else relW b r) else (zbX,5)
def zaQ (t:List UInt8) (b:Option UZ):UZ×Int:=if 4096<t.length then (zbX,3) else zeB (zcF (zaV t)) b
def zeD:UZ×Int→List (List UInt8)→UZ×Int
 |c,[]=>c
 |c,t::r=>if c.2=0 then zeD (zaQ t (some c.1)) r else c
theorem zkI (u:UZ) (l:List UInt8):(frgW u l).scheme=u.scheme∧(frgW u l).user=u.user∧(frgW u l).pass=u.pass∧(frgW u l).host=u.host∧(frgW u l).port=u.port∧(frgW u l).path=u.path∧(frgW u l).query=u.query∧(frgW u l).hasQ=u.hasQ:=by
 unfold frgW;split<;>exact ⟨rfl,rfl,rfl,rfl,rfl,rfl,rfl,rfl⟩
theorem zkA (u:UZ) (l:List UInt8):(qryW u l).scheme=u.scheme∧(qryW u l).user=u.user∧(qryW u l).pass=u.pass∧(qryW u l).host=u.host∧(qryW u l).port=u.port∧(qryW u l).path=u.path∧(qryW u l).frag=u.frag∧(qryW u l).hasF=u.hasF:=by
 unfold qryW;split<;>exact ⟨rfl,rfl,rfl,rfl,rfl,rfl,rfl,rfl⟩
theorem yeC (b:Nat) (hb:b<128) (s:ByteArray) (h: ∀k (h:k<s.size),s[k].toNat≠b): ∀r∈scal s,r≠(b:Int):=by
 have key: ∀f p,∀r∈zlA s f p,r≠(b:Int):=by
  intro f
  induction f with
  |zero=>intro p x hx;simp [zlA] at hx
  |succ f ih=>
   intro p x hx
   by_cases hp:p<s.size
   ·rw [ziT s f p hp] at hx
    rcases List.mem_cons.1 hx with rfl|hx
    ·by_cases ha:(s[p]'hp).toNat<128
     ·rw [decode_ascii s p hp ha]
      have:=h p hp
      simp only
      omega
     ·have:=(decode_high s p hp (by omega)).1
      omega
    ·exact ih _ x hx
   ·rw [zjT s _ p hp] at hx;simp at hx
 exact key _ _
theorem yaK {p:List UInt8} {c:UInt8} (hc:c.toNat<128) (h:c∉p): ∀r∈scal ⟨p.toArray⟩,r≠(c.toNat:Int):=by
 refine yeC c.toNat hc _ (fun k hk e=>h ?_)
 have e2:(ByteArray.mk p.toArray)[k]=p[k]'(by simpa [ByteArray.size] using hk):=rfl
 rw [e2] at e
 rw [←UInt8.toNat_inj.1 e]
 exact List.getElem_mem _
theorem yaH (st:Int) (h0:0≤st) (h1:st≤5) (l:List Int): ∀b∈encB st l,b=37∨(∃n,n<16∧b=hexN n)∨(b.toNat:Int)∈l:=by
 intro b hb
 obtain ⟨r,hr,hb⟩:=List.mem_flatMap.1 hb
 cases hin:inB st r with
 |true=>
  have e:encP st r=pctL (Lib.encodeRune r):=by unfold encP;rw [hin];rfl
  rw [e] at hb
  obtain ⟨c,_,hb⟩:=List.mem_flatMap.1 hb
  have hc:=c.toNat_lt
  simp only [pctB,List.mem_cons,List.not_mem_nil,or_false] at hb
  rcases hb with rfl|rfl|rfl
  ·exact .inl rfl
  ·exact .inr (.inl ⟨_,by omega,rfl⟩)
  ·exact .inr (.inl ⟨_,by omega,rfl⟩)
 |false=>
  have e:encP st r=Lib.encodeRune r:=by unfold encP;rw [hin];rfl
  have ha:=zvH h0 h1 hin
  rw [e,zlY (by omega) (by omega)] at hb
  simp only [List.mem_cons,List.not_mem_nil,or_false] at hb
  subst hb
  rw [yeM r (by omega) (by omega),Int.toNat_of_nonneg (by omega)]
  exact .inr (.inr hr)
theorem z6M: ∀n:Fin 16,hexN n.val≠47∧hexN n.val≠92:=by decide+kernel
theorem z7P {st:Int} (h0:0≤st) (h1:st≤5) {p:List UInt8} {c:UInt8} (hc:c=47∨c=92) (h:c∉p):c∉encW st p:=by
 intro g
 rcases yaH st h0 h1 _ c g with e|⟨n,hn,e⟩|e
 ·rcases hc with rfl|rfl<;>cases e
 ·have:=z6M ⟨n,hn⟩
  rcases hc with rfl|rfl
  ·exact this.1 e.symm
  ·exact this.2 e.symm
 ·exact yaK (by rcases hc with rfl|rfl<;>decide) h _ e rfl
theorem zqZ {st:Int} (h0:0≤st) (h1:st≤5) {p:List UInt8} {c:UInt8} (hc:inB st (c.toNat:Int)=true):c∉encW st p:=fun g=>by
 have:=(z9M st h0 h1 _ c g).2
 rw [hc] at this;cases this
theorem z6A (p:UInt8→Bool) (l:List UInt8):(∀x∈(spl p l).1,∀c∈x,p c=false)∧ ∀c∈(spl p l).2,p c=false:=by
 have key: ∀(l:List UInt8) (st:List (List UInt8)×List UInt8),(∀x∈st.1,∀c∈x,p c=false)→(∀c∈st.2,p c=false)→(∀x∈(l.foldl (zbY p) st).1,∀c∈x,p c=false)∧ ∀c∈(l.foldl (zbY p) st).2,p c=false:=by
  intro l
  induction l with
  |nil=>intro st h1 h2;exact ⟨h1,h2⟩
  |cons c l ih=>
   intro st h1 h2
   rw [List.foldl_cons]
   refine ih _ ?_ ?_
   ·intro x hx
    unfold zbY at hx
    split at hx
    ·rcases List.mem_append.1 hx with hx|hx
     ·exact h1 x hx
     ·rw [List.mem_singleton] at hx;rw [hx];exact h2
    ·exact h1 x hx
   ·intro d hd
    unfold zbY at hd
    split at hd
    ·cases hd
    ·rename_i hp
     rcases List.mem_append.1 hd with hd|hd
     ·exact h2 d hd
     ·rw [List.mem_singleton] at hd;rw [hd];simpa using hp
 exact key l ([],[]) (by intro x hx;cases hx) (by intro c hc;cases hc)
theorem z4M {p:UInt8→Bool} {l x:List UInt8} (h:x∈zcL p l): ∀c∈x,p c=false:=by
 unfold zcL at h
 rcases List.mem_append.1 h with h|h
 ·exact (z6A p l).1 x h
 ·rw [List.mem_singleton] at h;rw [h];exact (z6A p l).2
theorem zlL (p:UInt8→Bool) (l:List UInt8):zcL p l≠[]:=by simp [zcL]
/-! a path that is read -/
def segB (s:List UInt8):Bool:=ycO s [47,63,35,92]
theorem ybM {p:List UInt8} (h: ∀c∈p,hasB [47,92] c=false):segB (encW 4 p)=true:=by
 refine List.all_eq_true.2 fun c hc=> ?_
 have n1:c≠47:=fun e=>by
  subst e
  exact z7P (by decide) (by decide) (.inl rfl) (fun g=>by have:=h _ g;revert this;decide) hc
 have n2:c≠92:=fun e=>by
  subst e
  exact z7P (by decide) (by decide) (.inr rfl) (fun g=>by have:=h _ g;revert this;decide) hc
 have n3:c≠63:=fun e=>by subst e;exact zqZ (by decide) (by decide) (by decide) hc
 have n4:c≠35:=fun e=>by subst e;exact zqZ (by decide) (by decide) (by decide) hc
 simp [hasB,Ne.symm n1,Ne.symm n2,Ne.symm n3,Ne.symm n4]
theorem z5L {b:Bool} {out:List (List UInt8)} {q:List UInt8} (ho:out.all segB=true) (hq:segB q=true):(zhJ b out q).all segB=true:=by
 have hd:out.dropLast.all segB=true:=List.all_eq_true.2 fun x hx=>List.all_eq_true.1 ho x ((List.dropLast_sublist out).subset hx)
 unfold zhJ
 split
 ·rw [List.all_append,ho];simp [hq]
 ·split
  ·rw [List.all_append]
   split
   ·rw [hd];rfl
   ·rw [ho];rfl
  ·split
   ·exact hd
   ·exact ho
theorem z5J: ∀(ps out:List (List UInt8)),out.all segB=true→(∀p∈ps,segB (encW 4 p)=true)→(goW out ps).all segB=true
 |[],_,ho,_=>ho
 |p::r,_,ho,hp=>z5J r _ (z5L ho (hp p (yhV ..))) (fun x hx=>hp x (List.mem_cons_of_mem _ hx))
theorem z0O: ∀(ps out:List (List UInt8)),ps≠[]→goW out ps≠[]
 |[],_,h=>absurd rfl h
 |[p],out,_=>by
  show zhJ true out _≠[]
  unfold zhJ
  split
  ·simp
  ·rw [if_pos rfl];simp
 |p::q::r,out,_=>z0O (q::r) _ (by simp)
theorem ybU {from_:List (List UInt8)} (hf:from_.all segB=true) (l:List UInt8):(zjC from_ l).all segB=true∧zjC from_ l≠[]:=
 ⟨z5J _ _ hf (fun _ hp=>ybM (z4M hp)),z0O _ _ (zlL _ _)⟩
/-! a port that is read -/
theorem z0R: ∀(l:List UInt8) (n m:Int),0≤n→zhX n l=some m→0≤m
 |[],n,m,h,e=>by rw [show zhX n []=some n from rfl] at e;rw [←Option.some.inj e];exact h
 |c::r,n,m,h,e=>by
  unfold zhX at e
  split at e
  ·rename_i hd
   have hd:=of_decide_eq_true hd
   exact z0R r _ m (by split<;>omega) e
  ·cases e
theorem ybX (l:List UInt8) (h:zfX l≠ -2): -1≤zfX l∧zfX l≤65535:=by
 unfold zfX at*
 split
 ·omega
 ·rename_i hl
  rw [if_neg hl] at h
  cases e:zhX 0 l with
  |none=>rw [e] at h;exact absurd rfl h
  |some n=>
   rw [e] at h
   have:=z0R l 0 n (by omega) e
   simp only at h ⊢
   split
   ·rename_i g;rw [if_pos g] at h;exact absurd rfl h
   ·omega
structure zyK (u:UZ):Prop where
 sch:u.scheme=zdV∨u.scheme=zcX
 host:u.host.Ok
 port: -1≤u.port∧u.port≤65535∧u.port≠ownZ u.scheme
 qry:ycO u.query [35]=true
 noQ:u.hasQ=false→u.query=[]
 noF:u.hasF=false→u.frag=[]
theorem zyK.url {u:UZ} (h:zyK u) {p:List (List UInt8)} (hp:p.all segB=true∧p≠[]):ziI {u with path:=p}:=
 ⟨h.sch,h.host,h.port,hp.2,hp.1,h.qry,h.noQ,h.noF⟩
theorem yfI {u:UZ} (h:ziI u) (l:List UInt8):ziI (qryW u l):=by
 unfold qryW
 split
 ·refine ⟨h.sch,h.host,h.port,h.some,h.segs,?_,fun e=>(by cases e),h.noF⟩
  refine List.all_eq_true.2 fun c hc=> ?_
  have n:c≠35:=fun e=>by subst e;exact zqZ (by decide) (by decide) (by decide) hc
  simp [hasB,Ne.symm n]
 ·exact h
theorem yfW {u:UZ} (h:ziI u) (l:List UInt8):ziI (frgW u l):=by
 unfold frgW
 split
 ·exact ⟨h.sch,h.host,h.port,h.some,h.segs,h.qry,h.noQ,fun e=>by cases e⟩
 ·exact h
theorem zqX {u:UZ} (h:ziI u) (l:List UInt8):ziI (zdC u l):=yfW (yfI h l) l
theorem zoJ {u:UZ} (h:zyK u) {f:List (List UInt8)} (hf:f.all segB=true) (l:List UInt8):ziI (zcY u f l):=
 zqX (h.url (ybU hf _)) _
theorem ydY {s:List UInt8} (h:s=zdV∨s=zcX):ownZ s=80∨ownZ s=443:=by
 rcases h with rfl|rfl
 ·exact .inl rfl
 ·exact .inr rfl
theorem yeS {q n:Int} (hq: -1≤q∧q≤65535) (hn:n=80∨n=443): -1≤(if q=n then -1 else q)∧(if q=n then -1 else q)≤65535∧(if q=n then -1 else q)≠n:=by
 split
 ·omega
 ·rename_i g;exact ⟨hq.1,hq.2,g⟩
theorem zrK {name:List UInt8} (hn:name=zdV∨name=zcX) (l:List UInt8) (h:(zcU name l).2=0):ziI (zcU name l).1:=by
 unfold zcU at h ⊢
 simp only at h ⊢
 split at h
 ·cases h
 rename_i h1
 rw [if_neg h1]
 split at h
 ·rename_i g;exact absurd h g
 rename_i h2
 rw [if_neg h2]
 split at h
 ·cases h
 rename_i h3
 rw [if_neg h3]
 have hq:=ybX _ h3
 have ho:=ydY hn
 refine zoJ ⟨hn,znB (Decidable.not_not.1 h2),?_,rfl,fun _=>rfl,fun _=>rfl⟩ rfl _
 exact yeS hq ho
theorem z4Q {b:UZ} (hb:ziI b) (l:List UInt8) (h:(relW b l).2=0):ziI (relW b l).1:=by
 have hh:zyK {zbX with scheme:=b.scheme,user:=b.user,pass:=b.pass,host:=b.host,port:=b.port}:=⟨hb.sch,hb.host,hb.port,rfl,fun _=>rfl,fun _=>rfl⟩
 have hd:b.path.dropLast.all segB=true:=List.all_eq_true.2 fun x hx=>List.all_eq_true.1 hb.segs x ((List.dropLast_sublist _).subset hx)
 unfold relW at h ⊢
 simp only at h ⊢
 split
 ·rename_i g;rw [if_pos g] at h;exact zrK hb.sch _ h
 split
 ·exact zoJ hh rfl _
 split
 ·refine zqX ?_ _
  exact ⟨hb.sch,hb.host,hb.port,hb.some,hb.segs,hb.qry,hb.noQ,fun _=>rfl⟩
 split
 ·refine zqX ?_ _
  exact ⟨hb.sch,hb.host,hb.port,hb.some,hb.segs,rfl,fun _=>rfl,fun _=>rfl⟩
 ·exact zoJ hh hd _
theorem ybF (s:List UInt8) (b:Option UZ) (hb: ∀u,b=some u→ziI u) (h:(zeB s b).2=0):ziI (zeB s b).1:=by
 unfold zeB at h ⊢
 split at h
 ·cases h
 ·exact z4Q (hb _ rfl) _ h
 ·split at h
  ·rename_i g;rw [if_pos g];exact zrK g _ h
  ·cases h
 ·split at h
  ·rename_i g
   rw [if_pos g]
   split at h
   ·rename_i g2;rw [if_pos g2];exact zrK g _ h
   ·rename_i g2;rw [if_neg g2];exact z4Q (hb _ rfl) _ h
  ·cases h
theorem zkS (t:List UInt8) (b:Option UZ) (hb: ∀u,b=some u→ziI u) (h:(zaQ t b).2=0):ziI (zaQ t b).1:=by
 unfold zaQ at h ⊢
 split at h
 ·cases h
 ·rename_i g;rw [if_neg g];exact ybF _ b hb h
theorem z0G {p:UInt8→Bool} {a r:List UInt8} (ha: ∀c∈a,p c=false) (hr: ∀d r',r=d::r'→p d=true):(a++r).findIdx p=a.length:=by
 induction a with
 |nil=>
  cases r with
  |nil=>rfl
  |cons d r'=>rw [List.nil_append,List.findIdx_cons,hr d r' rfl];rfl
 |cons c a ih=>
  rw [List.cons_append,List.findIdx_cons,ha c (yhV ..),ih (fun x hx=>ha x (List.mem_cons_of_mem _ hx))]
  rfl
theorem zyF {l:List UInt8} (h:(64:UInt8)∉l):atW l=none:=by
 unfold atW
 have:l.reverse.findIdx (· ==64)=l.reverse.length:=by
  have:=z0G (p:=(· ==64)) (a:=l.reverse) (r:=[]) (fun c hc=>by simp only [beq_eq_false_iff_ne];exact fun e=>h (e▸List.mem_reverse.1 hc)) (fun d r' e=>by cases e)
  rwa [List.append_nil] at this
 rw [this,List.length_reverse,if_neg (by omega)]
theorem zzW {a d:List UInt8} (h:(64:UInt8)∉d):atW (a++64::d)=some a.length:=by
 unfold atW
 have:(a++64::d).reverse.findIdx (· ==64)=d.reverse.length:=by
  rw [List.reverse_append,List.reverse_cons,List.append_assoc]
  exact z0G (fun c hc=>by simp only [beq_eq_false_iff_ne];exact fun e=>h (e▸List.mem_reverse.1 hc)) (fun x r' e=>by rw [List.singleton_append] at e;rw [←(List.cons.inj e).1];rfl)
 rw [this,List.length_reverse,if_pos (by simp;omega)]
 congr 1
 simp
theorem zdS (l:List UInt8):(zaV l).length≤(l.dropWhile zcA).length:=by
 unfold zaV
 rw [List.length_reverse]
 exact Nat.le_trans (List.dropWhile_sublist _).length_le (by rw [List.length_reverse];exact Nat.le_refl _)
section
variable {σ:Type}
def zdJ (st:σ→UInt8→Option σ):σ→List UInt8→Nat
 |_,[]=>0
 |s,c::l=>match st s c with
  |none=>0
  |some t=>zdJ st t l+1
structure zwJ (sr:σ→Nat→Bool×σ) (st:σ→UInt8→Option σ):Prop where
 low: ∀s c,c.toNat<128→st s c=if (sr s c.toNat).1=true then none else some (sr s c.toNat).2
 high:((∀s r,128≤r→(sr s r).1=true)∧ ∀s c,128≤c.toNat→st s c=none)∨((∀s r,128≤r→sr s r=(false,s))∧ ∀s c,128≤c.toNat→st s c=some s)
theorem zsF (st:σ→UInt8→Option σ): ∀(l:List UInt8) (s:σ),zdJ st s l≤l.length
 |[],_=>Nat.le_refl _
 |c::l,s=>by
  unfold zdJ
  split
  ·omega
  ·have:=zsF st l;simp only [List.length_cons];rename_i t _;have:=this t;omega
theorem ziB {st:σ→UInt8→Option σ} {s:σ} {c:UInt8} {l:List UInt8} (h:st s c=none):zdJ st s (c::l)=0:=by unfold zdJ;rw [h]
theorem zeZ {st:σ→UInt8→Option σ} {s t:σ} {c:UInt8} {l:List UInt8} (h:st s c=some t):zdJ st s (c::l)=zdJ st t l+1:=by conv=>lhs;unfold zdJ;rw [h]
theorem ztJ {st:σ→UInt8→Option σ} {s:σ}: ∀(k:Nat) (l:List UInt8),(∀j,j<k→ ∃c,l[j]? =some c∧st s c=some s)→zdJ st s l=k+zdJ st s (l.drop k)
 |0,l,_=>by simp
 |k+1,[],h=>by obtain ⟨c,e,_⟩:=h 0 (by omega);simp at e
 |k+1,c::l,h=>by
  obtain ⟨d,e,hd⟩:=h 0 (by omega)
  simp at e;subst e
  rw [zeZ hd,ztJ k l (fun j hj=>by have:=h (j+1) (by omega);simpa using this),List.drop_succ_cons]
  omega
theorem yeN {s:ByteArray} {i:Nat} (h:i<s.size) (hc:128≤zaK s i): ∃c,s.data.toList[i]? =some c∧128≤c.toNat:=⟨s[i],zdL s i h,by rw [←zhR s i h];exact hc⟩
theorem z8U (s:ByteArray) (p:Nat) (h:p<s.size) (hc:128≤s[p].toNat): ∀j,j<(Utf8.decode s p).2→ ∃c,s.data.toList[p+j]? =some c∧128≤c.toNat:=by
 have h0:=zhR s p h
 intro j hj
 rw [zeI] at hj
 have key: ∀n,j<n→(∀i,i<n→p+i<s.size∧128≤zaK s (p+i))→ ∃c,s.data.toList[p+j]? =some c∧128≤c.toNat:=fun n hn H=>yeN (H j hn).1 (H j hn).2
 have k1: ∀i,i<1→p+i<s.size∧128≤zaK s (p+i):=fun i hi=>by
  obtain rfl:i=0:=by omega
  exact ⟨h,by rw [Nat.add_zero];omega⟩
 split at hj
 ·omega
 ·split at hj
  ·rename_i a
   split at hj
   ·refine key 2 hj (fun i hi=> ?_)
    match i,hi with
    |0,_=>exact k1 0 (by omega)
    |1,_=>exact ⟨a.2.1,by omega⟩
   ·exact key 1 hj k1
  ·split at hj
   ·rename_i a
    split at hj
    ·refine key 3 hj (fun i hi=> ?_)
     match i,hi with
     |0,_=>exact k1 0 (by omega)
     |1,_=>exact ⟨a.1.2.1,by omega⟩
     |2,_=>exact ⟨a.2.1,by omega⟩
    ·exact key 1 hj k1
   ·split at hj
    ·rename_i a
     split at hj
     ·refine key 4 hj (fun i hi=> ?_)
      match i,hi with
      |0,_=>exact k1 0 (by omega)
      |1,_=>exact ⟨a.1.1.2.1,by omega⟩
      |2,_=>exact ⟨a.1.2.1,by omega⟩
      |3,_=>exact ⟨a.2.1,by omega⟩
     ·exact key 1 hj k1
    ·exact key 1 hj k1
theorem z9A {sr:σ→Nat→Bool×σ} {st:σ→UInt8→Option σ} (H:zwJ sr st) (s:ByteArray) (p:Nat) (h:p<s.size) (x:σ) (hr:(sr x (Utf8.decode s p).1).1=true):zdJ st x (s.data.toList.drop p)=0:=by
 rw [zfL s p h]
 apply ziB
 by_cases hc:s[p].toNat<128
 ·rw [decode_ascii s p h hc] at hr
  rw [H.low x _ hc,if_pos hr]
 ·have hd:=(decode_high s p h (by omega)).1
  rcases H.high with ⟨_,k⟩|⟨k,_⟩
  ·exact k x _ (by omega)
  ·rw [k x _ hd] at hr;cases hr
theorem yeQ {sr:σ→Nat→Bool×σ} {st:σ→UInt8→Option σ} (H:zwJ sr st) (s:ByteArray) (p:Nat) (h:p<s.size) (x:σ) (hr:(sr x (Utf8.decode s p).1).1=false):
  zdJ st x (s.data.toList.drop p)=(Utf8.decode s p).2+zdJ st (sr x (Utf8.decode s p).1).2 (s.data.toList.drop (p+(Utf8.decode s p).2)):=by
 by_cases hc:s[p].toNat<128
 ·rw [decode_ascii s p h hc] at hr ⊢
  rw [zfL s p h,zeZ (by rw [H.low x _ hc,if_neg (by rw [hr];decide)])]
  exact Nat.add_comm _ _
 ·have hd:=(decode_high s p h (by omega)).1
  rcases H.high with ⟨k,_⟩|⟨k,kb⟩
  ·rw [k x _ hd] at hr;cases hr
  ·rw [k x _ hd]
   have:=ztJ (st:=st) (s:=x) (Utf8.decode s p).2 (s.data.toList.drop p) (fun j hj=>by
    obtain ⟨c,e,he⟩:=z8U s p h (by omega) j hj
    exact ⟨c,by rw [List.getElem?_drop];exact e,kb x c he⟩)
   rw [this,List.drop_drop]
end
theorem zjY (q:UInt8→Bool): ∀l:List UInt8,zdJ (fun (_:Unit) c=>if q c=true then none else some ()) () l=l.findIdx q
 |[]=>rfl
 |c::l=>by
  cases h:q c with
  |true=>rw [ziB (by rw [if_pos h]),List.findIdx_cons,h];rfl
  |false=>rw [zeZ (t:=()) (by rw [if_neg (by rw [h];decide)]),zjY q l,List.findIdx_cons,h];rfl
theorem zpR (q:UInt8→Bool): ∀l:List UInt8,l.drop (l.findIdx fun c=> !q c)=l.dropWhile q
 |[]=>rfl
 |c::l=>by
  rw [List.findIdx_cons,List.dropWhile_cons]
  cases h:q c with
  |true=>simpa using zpR q l
  |false=>simp
theorem z8T (l:List UInt8):l.drop (zdJ (fun (_:Unit) c=>if (!zcB c)=true then none else some ()) () l)=zbW l:=by
 rw [zjY (fun c=> !zcB c)];exact zpR zcB l
def schS (w:Bool) (c:UInt8):Option Bool:=if zcG c.toNat||(w&&(zbD c.toNat||(c==43||c==45||c==46))) then some true else none
theorem zvL: ∀l:List UInt8,zdJ schS true l=l.findIdx fun c=> !schC c
 |[]=>rfl
 |c::l=>by
  have e:schS true c=if schC c=true then some true else none:=by unfold schS schC;simp only [Bool.true_and,Bool.or_assoc]
  cases h:schC c with
  |true=>rw [zeZ (t:=true) (by rw [e,if_pos h]),zvL l,List.findIdx_cons,h];rfl
  |false=>rw [ziB (by rw [e,if_neg (by rw [h];decide)]),List.findIdx_cons,h];rfl
def schN (l:List UInt8):Nat:=zdJ schS false l
theorem zuI (l:List UInt8):schW l=if schN l≠0∧l[schN l]? =some 58 then some (zaX (l.take (schN l)),l.drop (schN l+1)) else none:=by
 unfold schN
 match l with
 |[]=>simp [schW,zdJ]
 |c::l=>
  cases h:zcG c.toNat with
  |true=>
   have e1:schS false c=some true:=by unfold schS;rw [h];rfl
   have e2:schC c=true:=by unfold schC;rw [h];rfl
   have e3:(c::l).findIdx (fun c=> !schC c)=zdJ schS false (c::l):=by rw [zeZ e1,zvL,List.findIdx_cons,e2];rfl
   unfold schW
   rw [e3]
   have e4:zdJ schS false (c::l)≠0:=by rw [zeZ e1];omega
   simp only [h,true_and,ne_eq,e4,not_false_eq_true]
  |false=>
   have e1:schS false c=none:=by unfold schS;rw [h];rfl
   unfold schW
   rw [ziB e1]
   simp [h]
def zhZ (i:Bool) (c:UInt8):Option Bool:=if c=91 then some true else if c=93 then some false else if c=58∧i=false then none else some i
theorem zhG (ins:Bool) (c:UInt8) (r:List UInt8):hpW ins (c::r)=if c=58∧ins=false then ([],r) else (c::(hpW (if c=91 then true else if c=93 then false else ins) r).1,(hpW (if c=91 then true else if c=93 then false else ins) r).2):=by conv=>lhs;unfold hpW
theorem zhE: ∀(l:List UInt8) (i:Bool),l.take (zdJ zhZ i l)=(hpW i l).1∧(l.drop (zdJ zhZ i l)).drop 1=(hpW i l).2∧(zdJ zhZ i l<l.length→l[zdJ zhZ i l]? =some 58)
 |[],i=>by simp [zdJ,hpW]
 |c::l,i=>by
  by_cases h91:c=91
  ·have ih:=zhE l true
   have e:zhZ i c=some true:=if_pos h91
   rw [zeZ e,zhG,if_neg (by rw [h91];exact fun g=>absurd g.1 (by decide)),if_pos h91]
   simpa using ih
  ·by_cases h93:c=93
   ·have ih:=zhE l false
    have e:zhZ i c=some false:=(if_neg h91).trans (if_pos h93)
    rw [zeZ e,zhG,if_neg (by rw [h93];exact fun g=>absurd g.1 (by decide)),if_neg h91,if_pos h93]
    simpa using ih
   ·by_cases h58:c=58∧i=false
    ·have e:zhZ i c=none:=(if_neg h91).trans ((if_neg h93).trans (if_pos h58))
     rw [ziB e,zhG,if_pos h58]
     simp [h58.1]
    ·have ih:=zhE l i
     have e:zhZ i c=some i:=(if_neg h91).trans ((if_neg h93).trans (if_neg h58))
     rw [zeZ e,zhG,if_neg h58,if_neg h91,if_neg h93]
     simpa using ih
end
section
open Go.RowKit
theorem u8_nat (c:UInt8):UInt8.ofNat c.toNat=c:=by simp
def zpL (_:Unit) (r:Nat):Bool×Unit:=(!(decide (r=47)||decide (r=92)),())
def z7H (_:Unit) (c:UInt8):Option Unit:=if (!zcB c)=true then none else some ()
theorem zqE (c:UInt8):zcB c=(decide (c.toNat=47)||decide (c.toNat=92)):=by
 unfold zcB
 rw [Bool.eq_iff_iff]
 simp only [Bool.or_eq_true,beq_iff_eq,decide_eq_true_eq,←UInt8.toNat_inj]
 exact Iff.rfl
theorem z3U:zwJ zpL z7H where
 low _ c _:=by unfold z7H zpL;rw [zqE]
 high:= .inl ⟨fun _ r h=>by unfold zpL;simp;omega,fun _ c h=>by
  unfold z7H
  rw [if_pos]
  rw [zqE,yhU (by omega),yhU (by omega)];rfl⟩
def z4K (of_:List UInt8) (_:Unit) (r:Nat):Bool×Unit:=(decide (r<128)&&hasB of_ (UInt8.ofNat r),())
def ycQ (of_:List UInt8) (_:Unit) (c:UInt8):Option Unit:=if hasB of_ c=true then none else some ()
theorem ybY {of_:List UInt8} (h: ∀c∈of_,c.toNat<128):zwJ (z4K of_) (ycQ of_) where
 low _ c hc:=by unfold ycQ z4K;rw [decide_eq_true hc,u8_nat];rfl
 high:= .inr ⟨fun _ r hr=>by unfold z4K;rw [yhU (by omega)];rfl,fun _ c hc=>by
  unfold ycQ
  rw [if_neg]
  intro g
  have:c∈of_:=by simpa [hasB] using g
  have:=h c this
  omega⟩
theorem ybQ (of_:List UInt8) (l:List UInt8):zdJ (ycQ of_) () l=l.findIdx (hasB of_):=zjY (hasB of_) l
def zsV (w:Bool) (r:Nat):Bool×Bool:=(!(zcG r||(w&&(zbD r||(decide (r=43)||decide (r=45)||decide (r=46))))),true)
theorem ybA:zwJ zsV schS where
 low w c _:=by
  have e:(c==43||c==45||c==46)=(decide (c.toNat=43)||decide (c.toNat=45)||decide (c.toNat=46)):=by
   rw [Bool.eq_iff_iff]
   simp only [Bool.or_eq_true,beq_iff_eq,decide_eq_true_eq,←UInt8.toNat_inj]
   exact Iff.rfl
  unfold schS zsV
  rw [e]
  cases (zcG ↑c.toNat||w&&(zbD ↑c.toNat||(decide (c.toNat=43)||decide (c.toNat=45)||decide (c.toNat=46))))<;>rfl
 high:=by
  have key: ∀(w:Bool) (r:Nat),128≤r→(zcG r||(w&&(zbD r||(decide (r=43)||decide (r=45)||decide (r=46)))))=false:=fun w r h=>by
   rw [show zcG (r:Int)=false from yhU (by omega),show zbD (r:Int)=false from yhU (by omega),yhU (by omega),yhU (by omega),yhU (by omega)]
   cases w<;>rfl
  refine .inl ⟨fun w r h=>by unfold zsV;rw [key w r h];rfl,fun w c h=> ?_⟩
  have e:(c==43||c==45||c==46)=(decide (c.toNat=43)||decide (c.toNat=45)||decide (c.toNat=46)):=by
   rw [Bool.eq_iff_iff]
   simp only [Bool.or_eq_true,beq_iff_eq,decide_eq_true_eq,←UInt8.toNat_inj]
   exact Iff.rfl
  unfold schS
  rw [e,key w _ h]
  rfl
def inH (i:Bool) (r:Nat):Bool:=if r=91 then true else if r=93 then false else i
def zpS (i:Bool) (r:Nat):Bool×Bool:=(decide (r=58)&& !inH i r,inH i r)
theorem z4B:zwJ zpS zhZ where
 low i c _:=by
  have e1:c=91↔c.toNat=91:=by rw [←UInt8.toNat_inj];exact Iff.rfl
  have e2:c=93↔c.toNat=93:=by rw [←UInt8.toNat_inj];exact Iff.rfl
  have e3:c=58↔c.toNat=58:=by rw [←UInt8.toNat_inj];exact Iff.rfl
  unfold zhZ zpS inH
  by_cases h1:c.toNat=91
  ·simp [e1,h1]
  ·by_cases h2:c.toNat=93
   ·simp [e1,e2,h2]
   ·simp only [e1,e2,e3,h1,h2,if_false]
    cases i<;>by_cases h3:c.toNat=58<;>simp [h3]
 high:= .inr ⟨fun i r h=>by unfold zpS inH;rw [yhU (by omega),if_neg (by omega),if_neg (by omega)];rfl,fun i c h=>by
  have e: ∀d:UInt8,d.toNat<128→c≠d:=fun d hd g=>by rw [g] at h;omega
  unfold zhZ
  rw [if_neg (e 91 (by decide)),if_neg (e 93 (by decide)),if_neg (fun g=>e 58 (by decide) g.1)]⟩
end
end Go.Proofs.YtcagcjdhbijknaaGreatDoor
