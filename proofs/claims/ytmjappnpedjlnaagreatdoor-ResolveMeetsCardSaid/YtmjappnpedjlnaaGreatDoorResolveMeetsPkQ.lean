/-
  What the law ResolveMeets leans on, and its walk (17 of 46).
-/
import Derived.Test.YtmjappnpedjlnaaGreatDoorResolveMeetsPkP
import Derived.Test.YtmjappnpedjlnaaGreatDoorResolveMeetsPkE
namespace Go.Proofs.YtmjappnpedjlnaaGreatDoor
set_option maxRecDepth 100000
set_option maxHeartbeats 16000000
section
open Go.RowKit
inductive HZ where
 |none
 |name (l:List UInt8)
 |addr (a:AZ)
def HZ.Ok:HZ→Prop
 | .none=>False
 | .name l=>zmR l∧ziC l=false
 | .addr a=>a.Ok
def zlB (r:List UInt8):HZ×Int:=if r.getLast? =some 93∧(sixZ r.dropLast).2=true then (.addr (.six (sixZ r.dropLast).1.1 (sixZ r.dropLast).1.2),0) else (.none,6)
def ziW (c:List UInt8×Int):HZ×Int:=if c.2≠0 then (.none,c.2) else if ziC c.1=true then (if (zlP c.1).2=true then (.addr (.four (zlP c.1).1),0) else (.none,6)) else (.name c.1,0)
def zfI:List UInt8→HZ×Int
 |[]=>ziW (zcT (decB []))
 |c::r=>if c=91 then zlB r else ziW (zcT (decB (c::r)))
def zdG:HZ→List UInt8
 | .none=>[]
 | .name l=>l
 | .addr (.four n)=>txtZ n
 | .addr (.six hi lo)=>[91]++zfG hi lo++[93]
def ycC (n i:Nat):Int:=if i=n then 1 else 256^(4 - i)
theorem z2Y (n:Nat) (h1:1≤n) (h4:n≤4): ∀(ps:List (List UInt8)) (i:Nat) (A:Int),i+ps.length≤n→0≤A→A+ycC n i≤4294967296→0≤(goF n i A ps).1∧(goF n i A ps).1≤4294967295:=by
 intro ps
 induction ps with
 |nil=>
  intro i A _ h0 hA
  have:1≤ycC n i:=by
   unfold ycC
   split
   ·omega
   ·exact Int.pow_pos (by decide)
  exact ⟨h0,by show A≤_;omega⟩
 |cons p ps ih=>
  intro i A hi h0 hA
  rw [show goF n i A (p::ps)=if (zcZ p).2=true∧(zcZ p).1<limZ n i then goF n (i+1) (A+(zcZ p).1*wtZ n i) ps else (0,false) from rfl]
  split
  ·rename_i h
   have hb:=zkT p
   have hx:=h.2
   generalize (zcZ p).1=x at*
   simp only [List.length_cons] at hi
   refine ih (i+1) _ (by omega) ?_ ?_
   ·have:0≤wtZ n i:=by unfold wtZ;split<;>first|decide|exact Int.le_of_lt (Int.pow_pos (by decide))
    have:=Int.mul_nonneg hb.1 this
    omega
   ·clear ih h
    rcases (show n=1∨n=2∨n=3∨n=4 from by omega) with rfl|rfl|rfl|rfl<;>
     rcases (show i=0∨i=1∨i=2∨i=3 from by omega) with rfl|rfl|rfl|rfl<;>
     first
     |omega
     |(simp [limZ,wtZ,ycC] at*;omega)
  ·exact ⟨Int.le_refl _,by decide⟩
theorem ztP (l:List UInt8):0≤(zlP l).1∧(zlP l).1≤4294967295:=by
 unfold zlP yiB
 split
 ·exact ⟨Int.le_refl _,by decide⟩
 ·rename_i h
  have hp:=yaX (yeZ l)
  refine z2Y _ hp (by omega) _ 0 0 ?_ (Int.le_refl _) ?_
  ·rw [List.length_take];omega
  ·unfold ycC
   rw [if_neg (by omega)]
   decide
theorem ziP (c:UInt8) (r:List UInt8):zfI (c::r)=if c=91 then zlB r else ziW (zcT (decB (c::r))):=rfl
theorem z7P {l:List UInt8} (h:Lib.hasPrefix l [91]=true):zfI l=zlB (l.drop 1):=by
 cases l with
 |nil=>cases h
 |cons c r=>
  rw [ziP,if_pos]
  ·rfl
  ·have:(91==c)=true:=by simpa [Lib.hasPrefix] using h
   exact (eq_of_beq this).symm
theorem ydR {l:List UInt8} (h:Lib.hasPrefix l [91]=false):zfI l=ziW (zcT (decB l)):=by
 cases l with
 |nil=>rfl
 |cons c r=>
  rw [ziP,if_neg]
  rintro rfl
  simp [Lib.hasPrefix] at h
theorem yjU (l:List UInt8):(decB l).length≤l.length:=by
 have key: ∀(f:Nat) (l:List UInt8),(decL f l).length≤l.length:=by
  intro f
  induction f with
  |zero=>intro l;exact Nat.zero_le _
  |succ f ih=>
   intro l
   cases l with
   |nil=>exact Nat.le_refl _
   |cons c r=>
    simp only [decL]
    split
    ·have:=ih (r.drop 2)
     rw [List.length_drop] at this
     simp only [List.length_cons]
     omega
    ·have:=ih r
     simp only [List.length_cons]
     omega
 exact key _ l
theorem z1K {c:List UInt8×Int} (hc:c.2=0→zmR c.1) (h:(ziW c).2=0):(ziW c).1.Ok:=by
 unfold ziW at*
 split at h
 ·rename_i h0;exact absurd h h0
 ·rename_i h0
  rw [if_neg h0]
  split at h
  ·rename_i h1
   rw [if_pos h1]
   split at h
   ·rename_i h2;rw [if_pos h2];exact ztP _
   ·cases h
  ·rename_i h1
   rw [if_neg h1]
   exact ⟨hc (by simpa using h0),by simpa using h1⟩
theorem ygG {r:List UInt8} (h:(zlB r).2=0):(zlB r).1.Ok:=by
 unfold zlB at*
 split at h
 ·rename_i h0;rw [if_pos h0];exact ylW _
 ·cases h
theorem zsK {l:List UInt8} (h:(zfI l).2=0):(zfI l).1.Ok:=by
 cases l with
 |nil=>exact z1K zpP h
 |cons c r=>
  rw [ziP] at*
  split at h
  ·rename_i h0;rw [if_pos h0];exact ygG h
  ·rename_i h0;rw [if_neg h0];exact z1K zpP h
theorem z1Q {c:List UInt8×Int} (h:(ziW c).2≠0):(ziW c).1= .none:=by
 unfold ziW at*
 repeat' split at h
 all_goals simp_all
theorem yjZ {l:List UInt8} (h:(zfI l).2≠0):(zfI l).1= .none:=by
 cases l with
 |nil=>exact z1Q h
 |cons c r=>
  rw [ziP] at*
  split at h
  ·rename_i h0
   rw [if_pos h0]
   unfold zlB at*
   split at h
   ·exact absurd rfl h
   ·rename_i h1;rw [if_neg h1]
  ·rename_i h0;rw [if_neg h0];exact z1Q h
theorem z4E: ∀u:Fin 256,(dec3 u.val).all (fun c=>zjB c&&(lowC c==c))&&zpB (dec3 u.val)&& !zkF (dec3 u.val)&&decide (1≤(dec3 u.val).length)=true:=by decide+kernel
theorem zcE (u:Nat) (h:u<256):(∀c∈dec3 u,zjB c=true∧lowC c=c)∧zpB (dec3 u)=true∧zkF (dec3 u)=false∧1≤(dec3 u).length:=by
 have:=z4E ⟨u,h⟩
 simp at this
 exact ⟨this.1.1.1,this.1.1.2,this.1.2,this.2⟩
theorem yiU (a b c d:Nat) (ha:a<256) (hb:b<256) (hc:c<256) (hd:d<256):zmR (txt a b c d)∧ziC (txt a b c d)=true:=by
 have hD:=z3D a b c d ha hb hc hd
 have hl:zcN (txt a b c d)=[dec3 a,dec3 b,dec3 c,dec3 d]:=by
  unfold zcN
  rw [hD,zpN 3 [dec3 a,dec3 b,dec3 c,dec3 d] rfl (.inr (yeQ d hd))]
  rfl
 have hs: ∀x∈txt a b c d,zjB x=true∧lowC x=x:=by
  have hp:zjB 46=true∧lowC 46=46:=by decide
  intro x hx
  unfold txt at hx
  simp only [List.mem_append,List.mem_singleton] at hx
  rcases hx with (h|rfl)|(h|rfl)|(h|rfl)|h
  ·exact (zcE a ha).1 x h
  ·exact hp
  ·exact (zcE b hb).1 x h
  ·exact hp
  ·exact (zcE c hc).1 x h
  ·exact hp
  ·exact (zcE d hd).1 x h
 have hw: ∀w∈zcN (txt a b c d),(1≤w.length∧w.length≤63)∧zkF w=false:=by
  rw [hl]
  intro w hw
  simp only [List.mem_cons,List.not_mem_nil,or_false] at hw
  rcases hw with rfl|rfl|rfl|rfl
  ·exact ⟨⟨(zcE _ ha).2.2.2,Nat.le_trans (zbP _) (by omega)⟩,(zcE _ ha).2.2.1⟩
  ·exact ⟨⟨(zcE _ hb).2.2.2,Nat.le_trans (zbP _) (by omega)⟩,(zcE _ hb).2.2.1⟩
  ·exact ⟨⟨(zcE _ hc).2.2.2,Nat.le_trans (zbP _) (by omega)⟩,(zcE _ hc).2.2.1⟩
  ·exact ⟨⟨(zcE _ hd).2.2.2,Nat.le_trans (zbP _) (by omega)⟩,(zcE _ hd).2.2.1⟩
 refine ⟨⟨?_,Nat.le_trans (yiM _) ?_,fun w h=>(hw w h).1,fun x hx=>(hs x hx).1,fun w h=>(hw w h).2⟩,?_⟩
 ·unfold zaI
  conv=>rhs;rw [←List.map_id (txt a b c d)]
  exact List.map_congr_left fun x hx=>(hs x hx).2
 ·unfold txt
  have h1:=zbP a
  have h2:=zbP b
  have h3:=zbP c
  have h4:=zbP d
  simp only [List.length_append,List.length_cons,List.length_nil]
  omega
 ·unfold ziC
  rw [hD,znT 3 (dec3 d) _ rfl rfl (.inr (yeQ d hd))]
  exact (zcE d hd).2.1
def hexC (c:UInt8):Bool:=decide (48≤c.toNat∧c.toNat≤57)||decide (97≤c.toNat∧c.toNat≤102)
def sixC (c:UInt8):Bool:=hexC c||c==58
theorem yfO: ∀d:Fin 16,hexC (dgt d.val)=true:=by decide+kernel
theorem z7R (d:Nat) (h:d<16):hexC (dgt d)=true:=yfO ⟨d,h⟩
theorem z2K (u:Nat): ∀c∈hexD u,hexC c=true:=by
 induction u using Nat.strongRecOn with
 |ind u ih=>
  intro c hc
  by_cases h:u<16
  ·rw [zlO u h] at hc
   simp at hc;subst hc;exact z7R u h
  ·rw [zoK u (by omega)] at hc
   rcases List.mem_append.1 hc with hc|hc
   ·exact ih (u/16) (by omega) c hc
   ·simp at hc;subst hc;exact z7R _ (by omega)
theorem zsT {c:UInt8} (h:hexC c=true):sixC c=true:=by unfold sixC;rw [h];rfl
theorem zoF (l:List Int) (c:UInt8) (h:c∈zfR l):sixC c=true:=by
 induction l with
 |nil=>simp [zfR,Lib.join] at h
 |cons x r ih=>
  cases r with
  |nil=>
   rw [show zfR [x]=hexI x from by simp [zfR,Lib.join]] at h
   exact zsT (z2K _ c h)
  |cons y r=>
   rw [show zfR (x::y::r)=hexI x++[58]++zfR (y::r) from join_cons _ _ _ _] at h
   rcases List.mem_append.1 h with h|h
   ·rcases List.mem_append.1 h with h|h
    ·exact zsT (z2K _ c h)
    ·simp at h;subst h;rfl
   ·exact ih h
theorem z7N (hi lo:Int) (c:UInt8) (h:c∈zfG hi lo):sixC c=true:=by
 unfold zfG z3V at h
 split at h
 ·exact zoF _ c h
 ·rcases List.mem_append.1 h with h|h
  ·rcases List.mem_append.1 h with h|h
   ·exact zoF _ c h
   ·simp at h;subst h;rfl
  ·exact zoF _ c h
def endC (c:UInt8):Bool:=hasB [35,47,63,64,92] c
theorem yiO: ∀d:Fin 256,sixC (UInt8.ofNat d.val)=true→endC (UInt8.ofNat d.val)=false∧UInt8.ofNat d.val≠91∧UInt8.ofNat d.val≠93∧UInt8.ofNat d.val≠37:=by decide+kernel
theorem z7L {c:UInt8} (h:sixC c=true):endC c=false∧c≠91∧c≠93∧c≠37:=by
 have e:UInt8.ofNat c.toNat=c:=by simp
 have:=yiO ⟨c.toNat,c.toNat_lt⟩
 rw [e] at this
 exact this h
theorem yaS: ∀d:Fin 256,zjB (UInt8.ofNat d.val)=true→endC (UInt8.ofNat d.val)=false∧UInt8.ofNat d.val≠58∧UInt8.ofNat d.val≠91∧UInt8.ofNat d.val≠93∧UInt8.ofNat d.val≠37:=by decide+kernel
theorem zuQ {c:UInt8} (h:zjB c=true):endC c=false∧c≠58∧c≠91∧c≠93∧c≠37:=by
 have e:UInt8.ofNat c.toNat=c:=by simp
 have:=yaS ⟨c.toNat,c.toNat_lt⟩
 rw [e] at this
 exact this h
theorem z7A {n:Int} (h0:0≤n) (h1:n≤4294967295): ∀c∈txtZ n,zjB c=true:=by
 unfold txtZ
 exact (yiU _ _ _ _ (by omega) (by omega) (by omega) (by omega)).1.sign
theorem znU {h:HZ} (ho:h.Ok):(∀c∈zdG h,zjB c=true)∨ ∃m,zdG h=[91]++m++[93]∧ ∀c∈m,sixC c=true:=by
 match h,ho with
 | .name l,ho=>exact .inl ho.1.sign
 | .addr (.four n),ho=>exact .inl (z7A ho.1 ho.2)
 | .addr (.six hi lo),_=>exact .inr ⟨zfG hi lo,rfl,z7N hi lo⟩
theorem zqX {h:HZ} (ho:h.Ok): ∀c∈zdG h,endC c=false:=by
 intro c hc
 rcases znU ho with g|⟨m,e,g⟩
 ·exact (zuQ (g c hc)).1
 ·rw [e] at hc
  simp only [List.mem_append,List.mem_singleton] at hc
  rcases hc with (rfl|hc)|rfl
  ·decide
  ·exact (z7L (g c hc)).1
  ·decide
end
end Go.Proofs.YtmjappnpedjlnaaGreatDoor
