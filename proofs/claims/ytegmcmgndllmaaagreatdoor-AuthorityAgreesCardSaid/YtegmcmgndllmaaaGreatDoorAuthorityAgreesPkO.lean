/-
  What the law AuthorityAgrees leans on, and its walk (15 of 43).
-/
import Derived.Test.YtegmcmgndllmaaaGreatDoorAuthorityAgreesPkN
import Derived.Test.YtegmcmgndllmaaaGreatDoorAuthorityAgreesPkE
namespace Go.Proofs.YtegmcmgndllmaaaGreatDoor
set_option maxRecDepth 100000
set_option maxHeartbeats 16000000
section
open Go.RowKit
inductive HZ where
 |none
 |name (l:List UInt8)
 |addr (a:AZ)
def HZ.Ok:HZ→Prop
 | .none=>False
 | .name l=>zeR l∧zgN l=false
 | .addr a=>a.Ok
def ziM (r:List UInt8):HZ×Int:=if r.getLast? =some 93∧(sixZ r.dropLast).2=true then (.addr (.six (sixZ r.dropLast).1.1 (sixZ r.dropLast).1.2),0) else (.none,6)
def zfR (c:List UInt8×Int):HZ×Int:=if c.2≠0 then (.none,c.2) else if zgN c.1=true then (if (ziH c.1).2=true then (.addr (.four (ziH c.1).1),0) else (.none,6)) else (.name c.1,0)
def zcN:List UInt8→HZ×Int
 |[]=>zfR (zbK (decB []))
 |c::r=>if c=91 then ziM r else zfR (zbK (decB (c::r)))
def zbD:HZ→List UInt8
 | .none=>[]
 | .name l=>l
 | .addr (.four n)=>txtZ n
 | .addr (.six hi lo)=>[91]++zdH hi lo++[93]
def z6O (n i:Nat):Int:=if i=n then 1 else 256^(4 - i)
theorem z2W (n:Nat) (j:1≤n) (o:n≤4): ∀(ps:List (List UInt8)) (i:Nat) (A:Int),i+ps.length≤n→0≤A→A+z6O n i≤4294967296→0≤(goF n i A ps).1∧(goF n i A ps).1≤4294967295:=by
 intro ps
 induction ps with
 |nil=>
  intro i A _ e g
  have:1≤z6O n i:=by
   unfold z6O
   split
   ·omega
   ·exact Int.pow_pos (by decide)
  exact ⟨e,by show A≤_;omega⟩
 |cons p ps d=>
  intro i A hi e g
  rw [show goF n i A (p::ps)=if (zcK p).2=true∧(zcK p).1<limZ n i then goF n (i+1) (A+(zcK p).1*wtZ n i) ps else (0,false) from rfl]
  split
  ·rename_i h
   have f:=zkD p
   have m:=h.2
   generalize (zcK p).1=x at*
   simp only [List.length_cons] at hi
   refine d (i+1) _ (by omega) ?_ ?_
   ·have:0≤wtZ n i:=by unfold wtZ;split<;>first|decide|exact Int.le_of_lt (Int.pow_pos (by decide))
    have:=Int.mul_nonneg f.1 this
    omega
   ·clear d h
    rcases (show n=1∨n=2∨n=3∨n=4 from by omega) with rfl|rfl|rfl|rfl<;>
     rcases (show i=0∨i=1∨i=2∨i=3 from by omega) with rfl|rfl|rfl|rfl<;>
     first
     |omega
     |(simp [limZ,wtZ,z6O] at*;omega)
  ·exact ⟨Int.le_refl _,by decide⟩
theorem zuB (l:List UInt8):0≤(ziH l).1∧(ziH l).1≤4294967295:=by
 unfold ziH ybB
 split
 ·exact ⟨Int.le_refl _,by decide⟩
 ·rename_i h
  have d:=ybM (z7V l)
  refine z2W _ d (by omega) _ 0 0 ?_ (Int.le_refl _) ?_
  ·rw [List.length_take];omega
  ·unfold z6O
   rw [if_neg (by omega)]
   decide
theorem z6S (c:UInt8) (d:List UInt8) (f:Nat) (h:c.toNat≠37):decL (f+1) (c::d)=c::decL f d:=by
 have e:zfK (c::d)=none:=by
  unfold zfK
  split
  ·rename_i g
   injection g with g _
   subst g
   rw [if_neg fun i=>h i.1]
  ·rfl
 simp only [decL,e]
theorem yjP {l:List UInt8} (h: ∀c∈l,c.toNat≠37):decB l=l:=by
 have e: ∀(l:List UInt8) (f:Nat),l.length≤f→(∀c∈l,c.toNat≠37)→decL f l=l:=by
  intro l
  induction l with
  |nil=>intro f _ _;cases f<;>rfl
  |cons c l i=>
   intro f g h
   cases f with
   |zero=>simp at g
   |succ f=>rw [z6S c l f (h c (by simp)),i f (by simpa using g) fun d j=>h d (by simp [j])]
 exact e l _ (Nat.le_refl _) h
theorem ziE (c:UInt8) (r:List UInt8):zcN (c::r)=if c=91 then ziM r else zfR (zbK (decB (c::r))):=rfl
theorem z9V {l:List UInt8} (h:Lib.hasPrefix l [91]=true):zcN l=ziM (l.drop 1):=by
 cases l with
 |nil=>cases h
 |cons c r=>
  rw [ziE,if_pos]
  ·rfl
  ·have:(91==c)=true:=by simpa [Lib.hasPrefix] using h
   exact (eq_of_beq this).symm
theorem z7T {l:List UInt8} (h:Lib.hasPrefix l [91]=false):zcN l=zfR (zbK (decB l)):=by
 cases l with
 |nil=>rfl
 |cons c r=>
  rw [ziE,if_neg]
  rintro rfl
  simp [Lib.hasPrefix] at h
theorem yeI (l:List UInt8):(decB l).length≤l.length:=by
 have d: ∀(f:Nat) (l:List UInt8),(decL f l).length≤l.length:=by
  intro f
  induction f with
  |zero=>intro l;exact Nat.zero_le _
  |succ f e=>
   intro l
   cases l with
   |nil=>exact Nat.le_refl _
   |cons c r=>
    simp only [decL]
    split
    ·have:=e (r.drop 2)
     rw [List.length_drop] at this
     simp only [List.length_cons]
     omega
    ·have:=e r
     simp only [List.length_cons]
     omega
 exact d _ l
theorem ydF {l:List UInt8} (h: ∀c∈l,c.toNat≠91):zcN l=zfR (zbK (decB l)):=by
 cases l with
 |nil=>rfl
 |cons c r=>
  show (if c=91 then ziM r else _)=_
  rw [if_neg]
  exact fun e=>h c (by simp) (by rw [e];rfl)
theorem ztG {l:List UInt8} (h:zeR l):zcN l=zfR (l,0):=by
 rw [ydF fun c d=>(zxQ c (h.sign c d)).2.2,yjP fun c d=>(zxQ c (h.sign c d)).2.1,h.canon]
theorem zyU {c:List UInt8×Int} (f:c.2=0→zeR c.1) (h:(zfR c).2=0):(zfR c).1.Ok:=by
 unfold zfR at*
 split at h
 ·rename_i d;exact absurd h d
 ·rename_i d
  rw [if_neg d]
  split at h
  ·rename_i e
   rw [if_pos e]
   split at h
   ·rename_i g;rw [if_pos g];exact zuB _
   ·cases h
  ·rename_i e
   rw [if_neg e]
   exact ⟨f (by simpa using d),by simpa using e⟩
theorem ygW {r:List UInt8} (h:(ziM r).2=0):(ziM r).1.Ok:=by
 unfold ziM at*
 split at h
 ·rename_i d;rw [if_pos d];exact ymL _
 ·cases h
theorem zlZ {l:List UInt8} (h:(zcN l).2=0):(zcN l).1.Ok:=by
 cases l with
 |nil=>exact zyU zkW h
 |cons c r=>
  rw [ziE] at*
  split at h
  ·rename_i d;rw [if_pos d];exact ygW h
  ·rename_i d;rw [if_neg d];exact zyU zkW h
theorem zxW {c:List UInt8×Int} (h:(zfR c).2≠0):(zfR c).1= .none:=by
 unfold zfR at*
 repeat' split at h
 all_goals simp_all
theorem zyM {l:List UInt8} (h:(zcN l).2≠0):(zcN l).1= .none:=by
 cases l with
 |nil=>exact zxW h
 |cons c r=>
  rw [ziE] at*
  split at h
  ·rename_i d
   rw [if_pos d]
   unfold ziM at*
   split at h
   ·exact absurd rfl h
   ·rename_i e;rw [if_neg e]
  ·rename_i d;rw [if_neg d];exact zxW h
theorem z2L: ∀u:Fin 256,(dec3 u.val).all (fun c=>zfH c&&(lowC c==c))&&zoO (dec3 u.val)&& !zkF (dec3 u.val)&&decide (1≤(dec3 u.val).length)=true:=by decide+kernel
theorem zbZ (u:Nat) (h:u<256):(∀c∈dec3 u,zfH c=true∧lowC c=c)∧zoO (dec3 u)=true∧zkF (dec3 u)=false∧1≤(dec3 u).length:=by
 have:=z2L ⟨u,h⟩
 simp at this
 exact ⟨this.1.1.1,this.1.1.2,this.1.2,this.2⟩
theorem zzY (a b c d:Nat) (i:a<256) (m:b<256) (j:c<256) (f:d<256):zeR (txt a b c d)∧zgN (txt a b c d)=true:=by
 have A:=zoW a b c d i m j f
 have B:zcH (txt a b c d)=[dec3 a,dec3 b,dec3 c,dec3 d]:=by
  unfold zcH
  rw [A,zkS 3 [dec3 a,dec3 b,dec3 c,dec3 d] rfl (.inr (zwL d f))]
  rfl
 have q: ∀x∈txt a b c d,zfH x=true∧lowC x=x:=by
  have o:zfH 46=true∧lowC 46=46:=by decide
  intro x e
  unfold txt at e
  simp only [List.mem_append,List.mem_singleton] at e
  rcases e with (h|rfl)|(h|rfl)|(h|rfl)|h
  ·exact (zbZ a i).1 x h
  ·exact o
  ·exact (zbZ b m).1 x h
  ·exact o
  ·exact (zbZ c j).1 x h
  ·exact o
  ·exact (zbZ d f).1 x h
 have g: ∀w∈zcH (txt a b c d),(1≤w.length∧w.length≤63)∧zkF w=false:=by
  rw [B]
  intro w g
  simp only [List.mem_cons,List.not_mem_nil,or_false] at g
  rcases g with rfl|rfl|rfl|rfl
  ·exact ⟨⟨(zbZ _ i).2.2.2,Nat.le_trans (zbJ _) (by omega)⟩,(zbZ _ i).2.2.1⟩
  ·exact ⟨⟨(zbZ _ m).2.2.2,Nat.le_trans (zbJ _) (by omega)⟩,(zbZ _ m).2.2.1⟩
  ·exact ⟨⟨(zbZ _ j).2.2.2,Nat.le_trans (zbJ _) (by omega)⟩,(zbZ _ j).2.2.1⟩
  ·exact ⟨⟨(zbZ _ f).2.2.2,Nat.le_trans (zbJ _) (by omega)⟩,(zbZ _ f).2.2.1⟩
 refine ⟨⟨?_,Nat.le_trans (yeO _) ?_,fun w h=>(g w h).1,fun x e=>(q x e).1,fun w h=>(g w h).2⟩,?_⟩
 ·unfold zaI
  conv=>rhs;rw [←List.map_id (txt a b c d)]
  exact List.map_congr_left fun x e=>(q x e).2
 ·unfold txt
  have C:=zbJ a
  have E:=zbJ b
  have D:=zbJ c
  have G:=zbJ d
  simp only [List.length_append,List.length_cons,List.length_nil]
  omega
 ·unfold zgN
  rw [A,zmM 3 (dec3 d) _ rfl rfl (.inr (zwL d f))]
  exact (zbZ d f).2.1
theorem znQ {h:HZ} (d:h.Ok):zcN (zbD h)=(h,0):=by
 match h,d with
 | .name l,d=>
  rw [show zbD (.name l)=l from rfl,ztG d.1]
  unfold zfR
  rw [if_neg (by simp),if_neg (by simp [d.2])]
 | .addr (.four n),d=>
  obtain ⟨e,f⟩:=zzY (n/16777216).toNat (n/65536 % 256).toNat (n/256 % 256).toNat (n % 256).toNat (by have:=d.2;have:=d.1;omega) (by omega) (by omega) (by omega)
  rw [show zbD (.addr (.four n))=txtZ n from rfl,show txtZ n=txt (n/16777216).toNat (n/65536 % 256).toNat (n/256 % 256).toNat (n % 256).toNat from rfl,ztG e]
  unfold zfR
  rw [if_neg (by simp),if_pos f,show txt (n/16777216).toNat (n/65536 % 256).toNat (n/256 % 256).toNat (n % 256).toNat=txtZ n from rfl,ycM n d.1 d.2]
  rfl
 | .addr (.six hi lo),d=>
  show ziM (zdH hi lo++[93])=_
  unfold ziM
  rw [if_pos ⟨by simp,by rw [List.dropLast_concat,z0B d.1.1 d.1.2 d.2.1 d.2.2]⟩,List.dropLast_concat,z0B d.1.1 d.1.2 d.2.1 d.2.2]
def hexC (c:UInt8):Bool:=decide (48≤c.toNat∧c.toNat≤57)||decide (97≤c.toNat∧c.toNat≤102)
def sixC (c:UInt8):Bool:=hexC c||c==58
theorem yiF: ∀d:Fin 16,hexC (dgt d.val)=true:=by decide+kernel
theorem z7Q (d:Nat) (h:d<16):hexC (dgt d)=true:=yiF ⟨d,h⟩
theorem zzT (u:Nat): ∀c∈hexD u,hexC c=true:=by
 induction u using Nat.strongRecOn with
 |ind u e=>
  intro c d
  by_cases h:u<16
  ·rw [zjA u h] at d
   simp at d;subst d;exact z7Q u h
  ·rw [zlD u (by omega)] at d
   rcases List.mem_append.1 d with d|d
   ·exact e (u/16) (by omega) c d
   ·simp at d;subst d;exact z7Q _ (by omega)
theorem zrP {c:UInt8} (h:hexC c=true):sixC c=true:=by unfold sixC;rw [h];rfl
theorem zoG (l:List Int) (c:UInt8) (h:c∈zbB l):sixC c=true:=by
 induction l with
 |nil=>simp [zbB,Lib.join] at h
 |cons x r d=>
  cases r with
  |nil=>
   rw [show zbB [x]=hexI x from by simp [zbB,Lib.join]] at h
   exact zrP (zzT _ c h)
  |cons y r=>
   rw [show zbB (x::y::r)=hexI x++[58]++zbB (y::r) from join_cons _ _ _ _] at h
   rcases List.mem_append.1 h with h|h
   ·rcases List.mem_append.1 h with h|h
    ·exact zrP (zzT _ c h)
    ·simp at h;subst h;rfl
   ·exact d h
theorem z9O (hi lo:Int) (c:UInt8) (h:c∈zdH hi lo):sixC c=true:=by
 unfold zdH zsJ at h
 split at h
 ·exact zoG _ c h
 ·rcases List.mem_append.1 h with h|h
  ·rcases List.mem_append.1 h with h|h
   ·exact zoG _ c h
   ·simp at h;subst h;rfl
  ·exact zoG _ c h
def endC (c:UInt8):Bool:=hasB [35,47,63,64,92] c
theorem yiS: ∀d:Fin 256,sixC (UInt8.ofNat d.val)=true→endC (UInt8.ofNat d.val)=false∧UInt8.ofNat d.val≠91∧UInt8.ofNat d.val≠93∧UInt8.ofNat d.val≠37:=by decide+kernel
theorem zvW {c:UInt8} (h:sixC c=true):endC c=false∧c≠91∧c≠93∧c≠37:=by
 have e:UInt8.ofNat c.toNat=c:=by simp
 have:=yiS ⟨c.toNat,c.toNat_lt⟩
 rw [e] at this
 exact this h
theorem z5A: ∀d:Fin 256,zfH (UInt8.ofNat d.val)=true→endC (UInt8.ofNat d.val)=false∧UInt8.ofNat d.val≠58∧UInt8.ofNat d.val≠91∧UInt8.ofNat d.val≠93∧UInt8.ofNat d.val≠37:=by decide+kernel
theorem zjK {c:UInt8} (h:zfH c=true):endC c=false∧c≠58∧c≠91∧c≠93∧c≠37:=by
 have e:UInt8.ofNat c.toNat=c:=by simp
 have:=z5A ⟨c.toNat,c.toNat_lt⟩
 rw [e] at this
 exact this h
theorem yaN {n:Int} (d:0≤n) (e:n≤4294967295): ∀c∈txtZ n,zfH c=true:=by
 unfold txtZ
 exact (zzY _ _ _ _ (by omega) (by omega) (by omega) (by omega)).1.sign
theorem zgG {h:HZ} (d:h.Ok):(∀c∈zbD h,zfH c=true)∨ ∃m,zbD h=[91]++m++[93]∧ ∀c∈m,sixC c=true:=by
 match h,d with
 | .name l,d=>exact .inl d.1.sign
 | .addr (.four n),d=>exact .inl (yaN d.1 d.2)
 | .addr (.six hi lo),_=>exact .inr ⟨zdH hi lo,rfl,z9O hi lo⟩
theorem zpR {h:HZ} (f:h.Ok): ∀c∈zbD h,endC c=false:=by
 intro c d
 rcases zgG f with g|⟨m,e,g⟩
 ·exact (zjK (g c d)).1
 ·rw [e] at d
  simp only [List.mem_append,List.mem_singleton] at d
  rcases d with (rfl|d)|rfl
  ·decide
  ·exact (zvW (g c d)).1
  ·decide
end
end Go.Proofs.YtegmcmgndllmaaaGreatDoor
