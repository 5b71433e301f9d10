/-
  What the law ResolveMeets leans on, and its walk (40 of 46).
-/
import Derived.Test.YtmjappnpedjlnaaGreatDoorResolveMeetsPkl
import Derived.Test.YtmjappnpedjlnaaGreatDoorResolveMeetsPka
import Derived.Test.YtmjappnpedjlnaaGreatDoorResolveMeetsPkn
import Derived.Test.YtmjappnpedjlnaaGreatDoorResolveMeetsPkh
namespace Go.Proofs.YtmjappnpedjlnaaGreatDoor
set_option maxRecDepth 100000
set_option maxHeartbeats 16000000
section
open Go.RowKit
/-! ### as browsers read it -/
theorem yhC {s:List UInt8} (h:zdB s):Vis s:=fun c hc=>by
 rcases h c hc with q|rfl|rfl
 ·omega
 ·decide
 ·decide
theorem zkG {s:List UInt8} (h:zdB s) {b:UInt8} (hb: ¬((97≤b.toNat∧b.toNat≤122)∨b=46∨b=47)):b∉s:=fun q=>hb (h b q)
theorem yfC {p:UInt8→Bool} {l:List UInt8} (h: ∀c∈l,p c=false):l.findIdx p=l.length:=by
 have:=zrP (p:=p) (a:=l) (r:=[]) h (fun d r' e=>by cases e)
 simpa using this
theorem zzT (u:UZ):ziY u []=u:=by
 unfold ziY frgW qryW
 simp
theorem ztH (u:UZ) (f:List (List UInt8)) {l:List UInt8} (h: ∀c∈l,hasB [63,35] c=false):zcV u f l={u with path:=zhO f l}:=by
 unfold zcV
 rw [yfC h,List.take_length,List.drop_length,zzT]
def lowU (u:UZ) (s:List UInt8):UZ:=
 if s=[] then {u with frag:=[],hasF:=false}
 else {u with path:=if s.head? =some 47 then zhO [] (s.drop 1) else zhO u.path.dropLast s,query:=[],hasQ:=false,frag:=[],hasF:=false}
theorem z8H {s:List UInt8} (h:zdB s): ∀c∈s,hasB [63,35] c=false:=fun c hc=>by
 have h1:c≠63:=fun e=>zkG h (b:=63) (by decide) (e▸hc)
 have h2:c≠35:=fun e=>zkG h (b:=35) (by decide) (e▸hc)
 rw [←zcF]
 simp [h1,h2]
theorem zwF {c:UInt8} (h:c≠92):zcJ c=(c==47):=by
 unfold zcJ
 rw [beq_eq_false_iff_ne.2 h,Bool.or_false]
theorem ylA {u:UZ} {s:List UInt8} (h:zdB s) (h2:s.take 2≠[47,47]):relW u s=(lowU u s,0):=by
 have hm:=z8H h
 have h92: ∀c∈s,c≠92:=fun c hc e=>zkG h (b:=92) (by decide) (e▸hc)
 unfold relW lowU
 match s,h2,hm,h92 with
 |[],_,_,_=>
  rw [if_neg (by simp [zeL]),if_neg (by simp [zeL]),if_pos (.inl rfl),if_pos rfl,zzT]
  rfl
 |c::t,h2,hm,h92=>
  have hc:=zwF (h92 c (by simp))
  have hmt: ∀d∈t,hasB [63,35] d=false:=fun d hd=>hm d (by simp [hd])
  rw [if_neg (by simp: ¬(c::t)=[])]
  by_cases h47:c=47
  ·subst h47
   have hs:zeL (47::t)=true:=rfl
   have hs2:zeL t=false:=by
    cases t with
    |nil=>rfl
    |cons d t=>
     show zcJ d=false
     rw [zwF (h92 d (by simp)),beq_eq_false_iff_ne]
     rintro rfl
     exact h2 rfl
   rw [if_neg (by rintro ⟨_,q⟩;rw [show (47::t).drop 1=t from rfl,hs2] at q;cases q),if_pos hs,if_pos (by rfl)]
   show (zcV _ [] t,(0:Int))=_
   rw [ztH _ _ hmt]
   rfl
  ·have hs:zeL (c::t)=false:=by
    show zcJ c=false
    rw [hc,beq_eq_false_iff_ne];exact h47
   have c35:c≠35:=fun e=>zkG h (b:=35) (by decide) (by simp [e])
   have c63:c≠63:=fun e=>zkG h (b:=63) (by decide) (by simp [e])
   rw [if_neg (by rw [hs];simp),if_neg (by rw [hs];simp),if_neg (by simp [c35]),if_neg (by simp [c63]),if_neg (by simp [h47]),ztH _ _ hm]
   rfl
theorem ydZ (u:UZ) {s:List UInt8} (h:zdB s) (h2:s.take 2≠[47,47]) (hl:s.length≤4096):zbF s (some u)=(lowU u s,0):=by
 have hs:schW s=none:=by
  unfold schW
  rw [if_neg]
  rintro ⟨_,q⟩
  exact zkG h (b:=58) (by decide) (List.mem_of_getElem? q)
 unfold zbF zsH
 rw [if_neg (by omega),z8M (yhC h),hs]
 exact ylA h h2
/-! ### by the strict grammar -/
theorem z0M {of:List UInt8} (h47:of.contains 47=true): ∀{s:List UInt8},zdB s→isA of s=true
 |[],_=>rfl
 |c::s,h=>by
  have hs:=z0M h47 (s:=s) fun d hd=>h d (by simp [hd])
  have key: ∀d:Fin 256,(97≤d.val∧d.val≤122)∨d.val=46→zhN (UInt8.ofNat d.val)=true:=by decide+kernel
  have hc:zhN c=true∨of.contains c=true:=by
   rcases h c (by simp) with q|q|q
   ·have:=key ⟨c.toNat,c.toNat_lt⟩ (.inl q)
    simp only [UInt8.ofNat_toNat] at this
    exact .inl this
   ·subst q;exact .inl (by decide)
   ·subst q;exact .inr h47
  rw [zgA,hs,Bool.and_true]
  rcases hc with q|q
  ·rw [q];rfl
  ·rw [q,Bool.or_true]
theorem z5U (six:List UInt8→Bool) {s:List UInt8} (h:zdB s) (h2:s.take 2≠[47,47]) (hl:s.length≤4096):zaW six s=({zaS with path:=s},0):=by
 have n58:(58:UInt8)∉s:=zkG h (by decide)
 have hsc:zaK s=(false,[],s):=by
  unfold zaK
  split
  ·rename_i r e
   have:=zcR zfO s
   rw [e] at this
   exact absurd (by rw [this];simp) n58
  ·rfl
 have hp:zbM s={zaS with path:=s}:=by
  have e1:=ziG (ziI (zkG h (b:=35) (by decide)))
  have e2:=ziG (ziI (zkG h (b:=63) (by decide)))
  have e3:zdA s=(s,false,(false,[],[],false,[])):=by
   unfold zdA
   split
   ·exact absurd rfl h2
   ·rfl
  unfold zbM
  simp only [hsc,e1,e2,e3]
  rfl
 refine ztT hp hl rfl ?_
 unfold zgJ zpH
 have e4:(zaO (fun c=>c==58||c==47) s).2.head? ≠some 58:=fun q=>by
  have:=zcR (fun c=>c==58||c==47) s
  generalize (zaO (fun c=>c==58||c==47) s).2=x at*
  cases x with
  |nil=>cases q
  |cons c x=>
   simp only [List.head?_cons,Option.some.injEq] at q
   subst q
   exact n58 (by rw [this];simp)
 simp only [zaS,Bool.not_false,Bool.true_or,z0M (of:=[58,64,47]) (by decide) h,Bool.false_or,if_false,Bool.false_eq_true,Bool.true_and,Bool.and_eq_true,bne_iff_ne]
 exact ⟨⟨⟨h2,e4⟩,rfl⟩,rfl⟩
theorem yfX {a x:List UInt8} (h:zgS x):(a++47::x).take (ziV (a++47::x))=a++[47]:=by
 have h1:=zrK a x 47 fun q=>h 47 q rfl
 have h2:=zwL (a++47::x)
 have h3:ziV (a++47::x)=a.length+1:=by
  have h1:Lib.lastIndexByte ⟨(a++47::x).toArray⟩ 47=(a.length:Nat):=h1
  omega
 rw [h3,show a++47::x=(a++[47])++x by simp,List.take_left' (by simp)]
theorem zzL {u:UZ} (h:zfE u) (he:zhQ u) {s:List UInt8} (hs:zdB s):zaV (zcH {u with frag:=[],hasF:=false}) {zaS with path:=s}=zcH (lowU u s):=by
 have hdot: ∀x∈u.path,ycK x:=fun x hx=>z8N (he.path x hx) (List.all_eq_true.1 h.segs x hx)
 unfold lowU
 by_cases h0:s=[]
 ·subst h0
  rw [if_pos rfl]
  exact (zsW _).trans rfl
 ·rw [if_neg h0]
  have hp:zdF (zcH {u with frag:=[],hasF:=false}) {zaS with path:=s}=zbK (if s.head? =some 47 then zhO [] (s.drop 1) else zhO u.path.dropLast s):=by
   unfold zdF
   simp only [zaS,Bool.false_eq_true,false_or]
   by_cases h47:s.head? =some 47
   ·rw [if_pos h47,if_pos h47]
    cases s with
    |nil=>exact absurd rfl h0
    |cons c t=>
     simp only [List.head?_cons,Option.some.injEq] at h47
     subst h47
     exact zpK (f:=[]) (fun _ q=>by cases q) (s:=t) fun d hd=>hs d (by simp [hd])
   ·rw [if_neg h47,if_neg h47,if_neg h0]
    obtain ⟨f,x,hx⟩: ∃f x,u.path=f++[x]:=by
     rcases List.eq_nil_or_concat u.path with q|⟨f,x,q⟩
     ·exact absurd q h.some
     ·exact ⟨f,x,by rw [q,List.concat_eq_append]⟩
    have e1:zbK u.path=zbK f++47::x:=by rw [hx,zoH];simp [zbK]
    have hd: ∀y∈f,ycK y:=fun y hy=>hdot y (by rw [hx];simp [hy])
    have hpx:zgS x:=(hdot x (by rw [hx];simp)).1
    show zbQ (zeG (zbK u.path) true s)=_
    rw [hx,List.dropLast_concat,←hx,e1]
    unfold zeG
    rw [if_neg (by simp),yfX hpx,List.append_assoc]
    exact zpK hd hs
  unfold zaV
  rw [if_neg (by simp [zaS]),if_neg (by simp [zaS]),if_neg (by simp [h0]),hp]
  rfl
/-! ### how long what is read is -/
theorem enc3 (st r:Int):(encP st r).length≤3*(Lib.encodeRune r).length:=by
 unfold encP
 split
 ·rw [zsA];omega
 ·omega
theorem ygE: ∀d:Fin 128,(Lib.encodeRune (d.val:Int)).length=1:=by decide+kernel
theorem dec9 (s:ByteArray) (p:Nat) (st:Int):(encP st ((Utf8.decode s p).1:Int)).length≤9*(Utf8.decode s p).2:=by
 have h3:=enc3 st ((Utf8.decode s p).1:Int)
 have h4:=zeS ((Utf8.decode s p).1:Int)
 have key:2≤(Utf8.decode s p).2∨((Utf8.decode s p).2=1∧((Utf8.decode s p).1<128∨(Utf8.decode s p).1=65533)):=by
  rw [zcP]
  repeat' split
  all_goals first
   |exact .inr ⟨rfl,.inr rfl⟩
   |exact .inl (Nat.le_refl 2)
   |exact .inl (show 2≤3 by decide)
   |exact .inl (show 2≤4 by decide)
   |exact .inr ⟨rfl,.inl (by assumption)⟩
 rcases key with hw|⟨k1,k2|k2⟩
 ·omega
 ·have:=ygE ⟨_,k2⟩
  simp only at this
  omega
 ·rw [k2] at h3
  have hb:(Lib.encodeRune ((65533:Nat):Int)).length=3:=by decide+kernel
  rw [k1,k2]
  omega
theorem scal9 (s:ByteArray) (st:Int): ∀f p,p≤s.size→(encB st (zjT s f p)).length≤9*(s.size - p)
 |0,_,_=>by simp [zjT,encB]
 |f+1,p,hp=>by
  by_cases h:p<s.size
  ·have hf:=ykS s p h
   have ih:=scal9 s st f (p+(Utf8.decode s p).2) hf
   have hd:=dec9 s p st
   rw [zgU s f p h,znN,List.length_append]
   omega
  ·rw [ziK s _ p h];simp [encB]
theorem enc9 (st:Int) (l:List UInt8):(encW st l).length≤9*l.length:=by
 have:=scal9 ⟨l.toArray⟩ st (ByteArray.mk l.toArray).size 0 (Nat.zero_le _)
 rw [zaB] at this
 unfold encW scal
 rw [zaB]
 omega
theorem z1D: ∀(ps out:List (List UInt8)),(zbK (goW out ps)).length≤(zbK out).length+9*zfA ps+ps.length
 |[],out=>by simp only [goW];omega
 |p::r,out=>by
  have h1:=z1D r (zeD r.isEmpty out (encW 4 p))
  have h2:=z6C r.isEmpty out (encW 4 p)
  have h3:=enc9 4 p
  have e:zfA (p::r)=p.length+zfA r:=by simp [zfA]
  rw [goW,e,List.length_cons]
  omega
theorem z4P (l:List UInt8):(zbK (zhO [] l)).length≤9*l.length+1:=by
 have h1:=z1D (zbG (hasB [47,92]) l) []
 obtain ⟨h2,h3,_⟩:=zoE (hasB [47,92]) l
 unfold zhO
 have h4:(zbK ([]:List (List UInt8))).length=0:=rfl
 omega
theorem yiZ (l:List UInt8):(zjK l).length+(zjR l).length≤9*l.length:=by
 unfold zjK zjR
 split
 ·simp
 ·rename_i k _
  generalize hx:l.take k=x
  have hxl:x.length≤l.length:=by rw [←hx,List.length_take];omega
  have h1:=enc9 5 (x.take (x.findIdx (· ==58)))
  rw [List.length_take] at h1
  split
  ·have h2:=enc9 5 (x.drop (x.findIdx (· ==58)+1))
   rw [List.length_drop] at h2
   omega
  ·simp only [List.length_nil];omega
theorem z3S (u:UZ) (l:List UInt8) (h3:u.query=[]):(zbK (zcV u [] l).path).length+(zcV u [] l).query.length≤9*l.length+1∧(zcV u [] l).user=u.user∧(zcV u [] l).pass=u.pass∧(zcV u [] l).host=u.host∧(zcV u [] l).scheme=u.scheme:=by
 unfold zcV ziY
 have hp:=z4P (l.take (l.findIdx (hasB [63,35])))
 have hd:(l.take (l.findIdx (hasB [63,35]))).length+(l.drop (l.findIdx (hasB [63,35]))).length=l.length:=by rw [List.length_take,List.length_drop];omega
 generalize l.take (l.findIdx (hasB [63,35]))=a at*
 generalize l.drop (l.findIdx (hasB [63,35]))=d at*
 have hq:=enc9 3 ((d.take (d.findIdx (· ==35))).drop 1)
 have hq2:((d.take (d.findIdx (· ==35))).drop 1).length≤d.length:=by rw [List.length_drop,List.length_take];omega
 unfold frgW qryW
 split<;>split<;>refine ⟨?_,rfl,rfl,rfl,rfl⟩<;>simp only [h3,List.length_nil]<;>omega
theorem yeU (m l:List UInt8):(zeR m l).1.user.length+(zeR m l).1.pass.length+((zbK (zeR m l).1.path).length+(zeR m l).1.query.length)≤9*l.length+1:=by
 unfold zeR
 simp only
 have hd:(l.take (l.findIdx (hasB [47,92,63,35]))).length+(l.drop (l.findIdx (hasB [47,92,63,35]))).length=l.length:=by rw [List.length_take,List.length_drop];omega
 generalize l.take (l.findIdx (hasB [47,92,63,35]))=a at*
 generalize l.drop (l.findIdx (hasB [47,92,63,35]))=d at*
 have hw:=yiZ a
 have ho:(offW d).length≤d.length:=by
  unfold offW
  split
  ·simp
  ·split
   ·simp
   ·simp
 have hz:zcD.user.length+zcD.pass.length+((zbK zcD.path).length+zcD.query.length)≤9*l.length+1:=by
  show 0≤_
  omega
 split
 ·exact hz
 ·split
  ·exact hz
  ·split
   ·exact hz
   ·rename_i h1 h2 h3
    simp only
    generalize hv:({zcD with scheme:=m,user:=zjK a,pass:=zjR a,host:=(zfI (hpW false (zcQ a)).1).1,port:=if zkX (hpW false (zcQ a)).2=ownZ m then -1 else zkX (hpW false (zcQ a)).2}:UZ)=v
    have hq:v.query=[]:=by rw [←hv];rfl
    have hu:v.user=zjK a:=by rw [←hv]
    have hp:v.pass=zjR a:=by rw [←hv]
    obtain ⟨w1,w2,w3,_,_⟩:=z3S v (offW d) hq
    rw [w2,w3,hu,hp]
    omega
theorem zuF (t:List UInt8):(zbF t none).1.user.length+(zbF t none).1.pass.length+((zbK (zbF t none).1.path).length+(zbF t none).1.query.length)≤9*t.length+1:=by
 have hz:zcD.user.length+zcD.pass.length+((zbK zcD.path).length+zcD.query.length)≤9*t.length+1:=by
  show 0≤_
  omega
 unfold zbF
 split
 ·exact hz
 ·have hc:=zkR t
  unfold zsH
  cases h:schW (zeQ (zdU t)) with
  |none=>exact hz
  |some x=>
   obtain ⟨n,r⟩:=x
   simp only
   split
   ·have:=zsC h
    have hb:=zkD r
    have:=yeU n (zeO r)
    omega
   ·exact hz
theorem zyQ {h:HZ} (ho:h.Ok):(zdG h).length≤254:=by
 match h,ho with
 | .name l,ho=>
  have:=zrQ l
  have:=ho.1.size
  show l.length≤_
  omega
 | .addr (.four n),_=>exact Nat.le_trans (yhN n) (by decide)
 | .addr (.six hi lo),ho=>
  have:=zwO ho.1.1 ho.1.2 ho.2.1 ho.2.2
  show ([91]++zfG hi lo++[93]).length≤_
  simp only [List.length_append,List.length_cons,List.length_nil]
  omega
theorem zwU {t:List UInt8} (h:(zbF t none).2=0):(zcW (zbF t none).1).length≤9*t.length+310:=by
 have hu:=zoJ t none (fun _ e=>by cases e) h
 have hn:=zuF t
 have hw:=zyQ hu.host
 have hs:(zbF t none).1.scheme.length≤5:=by rcases hu.sch with e|e<;>rw [e]<;>decide
 have hp:(zdD (zbF t none).1).length≤254+31:=by
  unfold zdD
  split
  ·omega
  ·have:=ygL (n:=(zbF t none).1.port) (by have:=hu.port.1;omega) hu.port.2.1
   simp only [List.length_append,List.length_cons,List.length_nil]
   omega
 generalize (zbF t none).1=u at*
 unfold zcW yiK askU
 have hwho:(whoU u).length≤u.user.length+u.pass.length+2:=by
  unfold whoU
  split<;>split<;>simp only [List.length_append,List.length_cons,List.length_nil]<;>omega
 split<;>simp only [List.length_append,List.length_cons,List.length_nil]<;>omega
theorem yeL {t s:List UInt8} (h:(zbF t none).2=0) (ht:t.length≤300) (hl:s.length≤300) (hs:zdB s) (h2:s.take 2≠[47,47]) (six:List UInt8→Bool) (hb:(zaW six (zcW (zbF t none).1)).2=0):
  zaW six (zcW (zbF t none).1)=(zcH {(zbF t none).1 with frag:=[],hasF:=false},0)∧zaW six s=({zaS with path:=s},0)∧
  zaV (zcH {(zbF t none).1 with frag:=[],hasF:=false}) {zaS with path:=s}=zcH (lowU (zbF t none).1 s)∧
  zaW six (zbJ (zcH (lowU (zbF t none).1 s)))=(zcH (lowU (zbF t none).1 s),0)∧
  zbJ (zcH (lowU (zbF t none).1 s))=zfQ (lowU (zbF t none).1 s)∧zbF s (some (zbF t none).1)=(lowU (zbF t none).1 s,0):=by
 have hu:=zoJ t none (fun _ e=>by cases e) h
 have he:=z6B t none (fun _ e=>by cases e)
 have hlen:=zwU h
 generalize (zbF t none).1=u at*
 obtain ⟨_,_,_,hb4⟩:=ziF hb
 have hu2:zfE {u with frag:=[],hasF:=false}:=⟨hu.sch,hu.host,hu.port,hu.some,hu.segs,hu.qry,hu.noQ,fun _=>rfl⟩
 have he2:zhQ {u with frag:=[],hasF:=false}:=⟨he.user,he.pass,he.path,he.qry,Out.nil 1⟩
 have e1:zbM (zcW u)=zcH {u with frag:=[],hasF:=false}:=by
  rw [←ybZ u]
  exact yeO hu2 he2
 rw [e1] at hb4
 have hp:=z5U six hs h2 (by omega)
 have hr:=zzL hu he hs
 have hok:=(zsR hb4 hp rfl rfl (fun q=>by cases q) (by omega)).1
 rw [hr] at hok
 exact ⟨hb4,hp,hr,hok,z2H _,ydZ u hs h2 (by omega)⟩
end
end Go.Proofs.YtmjappnpedjlnaaGreatDoor
