/-
  What the law AbnfMeets leans on, and its walk (16 of 35).
-/
import Derived.Test.YtppgdppmheiocaaGreatDoorAbnfMeetsPkO
import Derived.Test.YtppgdppmheiocaaGreatDoorAbnfMeetsPkE
namespace Go.Proofs.YtppgdppmheiocaaGreatDoor
set_option maxRecDepth 100000
set_option maxHeartbeats 16000000
section
open Go.RowKit
inductive HZ where
 |none
 |name (l:List UInt8)
 |addr (a:AZ)
def HZ.Ok:HZ→Prop
 | .none=>False
 | .name l=>zlT l∧zgB l=false
 | .addr a=>a.Ok
def ziZ (r:List UInt8):HZ×Int:=if r.getLast? =some 93∧(sixZ r.dropLast).2=true then (.addr (.six (sixZ r.dropLast).1.1 (sixZ r.dropLast).1.2),0) else (.none,6)
def zhE (c:List UInt8×Int):HZ×Int:=if c.2≠0 then (.none,c.2) else if zgB c.1=true then (if (zjG c.1).2=true then (.addr (.four (zjG c.1).1),0) else (.none,6)) else (.name c.1,0)
def zdJ:List UInt8→HZ×Int
 |[]=>zhE (zcA (decB []))
 |c::r=>if c=91 then ziZ r else zhE (zcA (decB (c::r)))
def zcN:HZ→List UInt8
 | .none=>[]
 | .name l=>l
 | .addr (.four n)=>txtZ n
 | .addr (.six hi lo)=>[91]++zdY hi lo++[93]
def z5F (n i:Nat):Int:=if i=n then 1 else 256^(4 - i)
theorem zyK (n:Nat) (h1:1≤n) (h4:n≤4): ∀(ps:List (List UInt8)) (i:Nat) (A:Int),i+ps.length≤n→0≤A→A+z5F n i≤4294967296→0≤(goF n i A ps).1∧(goF n i A ps).1≤4294967295:=by
 intro ps
 induction ps with
 |nil=>
  intro i A _ h0 hA
  have:1≤z5F n i:=by
   unfold z5F
   split
   ·omega
   ·exact Int.pow_pos (by decide)
  exact ⟨h0,by show A≤_;omega⟩
 |cons p ps ih=>
  intro i A hi h0 hA
  rw [show goF n i A (p::ps)=if (zcD p).2=true∧(zcD p).1<limZ n i then goF n (i+1) (A+(zcD p).1*wtZ n i) ps else (0,false) from rfl]
  split
  ·rename_i h
   have hb:=ziF p
   have hx:=h.2
   generalize (zcD p).1=x at*
   simp only [List.length_cons] at hi
   refine ih (i+1) _ (by omega) ?_ ?_
   ·have:0≤wtZ n i:=by unfold wtZ;split<;>first|decide|exact Int.le_of_lt (Int.pow_pos (by decide))
    have:=Int.mul_nonneg hb.1 this
    omega
   ·clear ih h
    rcases (show n=1∨n=2∨n=3∨n=4 from by omega) with rfl|rfl|rfl|rfl<;>
     rcases (show i=0∨i=1∨i=2∨i=3 from by omega) with rfl|rfl|rfl|rfl<;>
     first
     |omega
     |(simp [limZ,wtZ,z5F] at*;omega)
  ·exact ⟨Int.le_refl _,by decide⟩
theorem zpI (l:List UInt8):0≤(zjG l).1∧(zjG l).1≤4294967295:=by
 unfold zjG z8U
 split
 ·exact ⟨Int.le_refl _,by decide⟩
 ·rename_i h
  have hp:=z0E (z3Z l)
  refine zyK _ hp (by omega) _ 0 0 ?_ (Int.le_refl _) ?_
  ·rw [List.length_take];omega
  ·unfold z5F
   rw [if_neg (by omega)]
   decide
theorem zgV (c:UInt8) (r:List UInt8):zdJ (c::r)=if c=91 then ziZ r else zhE (zcA (decB (c::r))):=rfl
theorem z1W {l:List UInt8} (h:Lib.hasPrefix l [91]=true):zdJ l=ziZ (l.drop 1):=by
 cases l with
 |nil=>cases h
 |cons c r=>
  rw [zgV,if_pos]
  ·rfl
  ·have:(91==c)=true:=by simpa [Lib.hasPrefix] using h
   exact (eq_of_beq this).symm
theorem z6C {l:List UInt8} (h:Lib.hasPrefix l [91]=false):zdJ l=zhE (zcA (decB l)):=by
 cases l with
 |nil=>rfl
 |cons c r=>
  rw [zgV,if_neg]
  rintro rfl
  simp [Lib.hasPrefix] at h
theorem ybQ (l:List UInt8):(decB l).length≤l.length:=by
 have key: ∀(f:Nat) (l:List UInt8),(decL f l).length≤l.length:=by
  intro f
  induction f with
  |zero=>intro l;exact Nat.zero_le _
  |succ f ih=>
   intro l
   cases l with
   |nil=>exact Nat.le_refl _
   |cons c r=>
    simp only [decL]
    split
    ·have:=ih (r.drop 2)
     rw [List.length_drop] at this
     simp only [List.length_cons]
     omega
    ·have:=ih r
     simp only [List.length_cons]
     omega
 exact key _ l
theorem ztX {c:List UInt8×Int} (hc:c.2=0→zlT c.1) (h:(zhE c).2=0):(zhE c).1.Ok:=by
 unfold zhE at*
 split at h
 ·rename_i h0;exact absurd h h0
 ·rename_i h0
  rw [if_neg h0]
  split at h
  ·rename_i h1
   rw [if_pos h1]
   split at h
   ·rename_i h2;rw [if_pos h2];exact zpI _
   ·cases h
  ·rename_i h1
   rw [if_neg h1]
   exact ⟨hc (by simpa using h0),by simpa using h1⟩
theorem ybV {r:List UInt8} (h:(ziZ r).2=0):(ziZ r).1.Ok:=by
 unfold ziZ at*
 split at h
 ·rename_i h0;rw [if_pos h0];exact ygE _
 ·cases h
theorem zkI {l:List UInt8} (h:(zdJ l).2=0):(zdJ l).1.Ok:=by
 cases l with
 |nil=>exact ztX znZ h
 |cons c r=>
  rw [zgV] at*
  split at h
  ·rename_i h0;rw [if_pos h0];exact ybV h
  ·rename_i h0;rw [if_neg h0];exact ztX znZ h
theorem zwA {c:List UInt8×Int} (h:(zhE c).2≠0):(zhE c).1= .none:=by
 unfold zhE at*
 repeat' split at h
 all_goals simp_all
theorem zvF {l:List UInt8} (h:(zdJ l).2≠0):(zdJ l).1= .none:=by
 cases l with
 |nil=>exact zwA h
 |cons c r=>
  rw [zgV] at*
  split at h
  ·rename_i h0
   rw [if_pos h0]
   unfold ziZ at*
   split at h
   ·exact absurd rfl h
   ·rename_i h1;rw [if_neg h1]
  ·rename_i h0;rw [if_neg h0];exact zwA h
theorem zwT: ∀u:Fin 256,(dec3 u.val).all (fun c=>zhD c&&(lowC c==c))&&zmP (dec3 u.val)&& !zhW (dec3 u.val)&&decide (1≤(dec3 u.val).length)=true:=by decide+kernel
theorem zbS (u:Nat) (h:u<256):(∀c∈dec3 u,zhD c=true∧lowC c=c)∧zmP (dec3 u)=true∧zhW (dec3 u)=false∧1≤(dec3 u).length:=by
 have:=zwT ⟨u,h⟩
 simp at this
 exact ⟨this.1.1.1,this.1.1.2,this.1.2,this.2⟩
theorem z9C (a b c d:Nat) (ha:a<256) (hb:b<256) (hc:c<256) (hd:d<256):zlT (txt a b c d)∧zgB (txt a b c d)=true:=by
 have hD:=zzF a b c d ha hb hc hd
 have hl:zbY (txt a b c d)=[dec3 a,dec3 b,dec3 c,dec3 d]:=by
  unfold zbY
  rw [hD,znQ 3 [dec3 a,dec3 b,dec3 c,dec3 d] rfl (.inr (z0J d hd))]
  rfl
 have hs: ∀x∈txt a b c d,zhD x=true∧lowC x=x:=by
  have hp:zhD 46=true∧lowC 46=46:=by decide
  intro x hx
  unfold txt at hx
  simp only [List.mem_append,List.mem_singleton] at hx
  rcases hx with (h|rfl)|(h|rfl)|(h|rfl)|h
  ·exact (zbS a ha).1 x h
  ·exact hp
  ·exact (zbS b hb).1 x h
  ·exact hp
  ·exact (zbS c hc).1 x h
  ·exact hp
  ·exact (zbS d hd).1 x h
 have hw: ∀w∈zbY (txt a b c d),(1≤w.length∧w.length≤63)∧zhW w=false:=by
  rw [hl]
  intro w hw
  simp only [List.mem_cons,List.not_mem_nil,or_false] at hw
  rcases hw with rfl|rfl|rfl|rfl
  ·exact ⟨⟨(zbS _ ha).2.2.2,Nat.le_trans (zbC _) (by omega)⟩,(zbS _ ha).2.2.1⟩
  ·exact ⟨⟨(zbS _ hb).2.2.2,Nat.le_trans (zbC _) (by omega)⟩,(zbS _ hb).2.2.1⟩
  ·exact ⟨⟨(zbS _ hc).2.2.2,Nat.le_trans (zbC _) (by omega)⟩,(zbS _ hc).2.2.1⟩
  ·exact ⟨⟨(zbS _ hd).2.2.2,Nat.le_trans (zbC _) (by omega)⟩,(zbS _ hd).2.2.1⟩
 refine ⟨⟨?_,Nat.le_trans (yaH _) ?_,fun w h=>(hw w h).1,fun x hx=>(hs x hx).1,fun w h=>(hw w h).2⟩,?_⟩
 ·unfold zaF
  conv=>rhs;rw [←List.map_id (txt a b c d)]
  exact List.map_congr_left fun x hx=>(hs x hx).2
 ·unfold txt
  have h1:=zbC a
  have h2:=zbC b
  have h3:=zbC c
  have h4:=zbC d
  simp only [List.length_append,List.length_cons,List.length_nil]
  omega
 ·unfold zgB
  rw [hD,zmF 3 (dec3 d) _ rfl rfl (.inr (z0J d hd))]
  exact (zbS d hd).2.1
def hexC (c:UInt8):Bool:=decide (48≤c.toNat∧c.toNat≤57)||decide (97≤c.toNat∧c.toNat≤102)
def sixC (c:UInt8):Bool:=hexC c||c==58
theorem z8A: ∀d:Fin 16,hexC (dgt d.val)=true:=by decide+kernel
theorem z3T (d:Nat) (h:d<16):hexC (dgt d)=true:=z8A ⟨d,h⟩
theorem zuF (u:Nat): ∀c∈hexD u,hexC c=true:=by
 induction u using Nat.strongRecOn with
 |ind u ih=>
  intro c hc
  by_cases h:u<16
  ·rw [zjB u h] at hc
   simp at hc;subst hc;exact z3T u h
  ·rw [zmI u (by omega)] at hc
   rcases List.mem_append.1 hc with hc|hc
   ·exact ih (u/16) (by omega) c hc
   ·simp at hc;subst hc;exact z3T _ (by omega)
theorem zoW {c:UInt8} (h:hexC c=true):sixC c=true:=by unfold sixC;rw [h];rfl
theorem zlH (l:List Int) (c:UInt8) (h:c∈zeD l):sixC c=true:=by
 induction l with
 |nil=>simp [zeD,Lib.join] at h
 |cons x r ih=>
  cases r with
  |nil=>
   rw [show zeD [x]=hexI x from by simp [zeD,Lib.join]] at h
   exact zoW (zuF _ c h)
  |cons y r=>
   rw [show zeD (x::y::r)=hexI x++[58]++zeD (y::r) from join_cons _ _ _ _] at h
   rcases List.mem_append.1 h with h|h
   ·rcases List.mem_append.1 h with h|h
    ·exact zoW (zuF _ c h)
    ·simp at h;subst h;rfl
   ·exact ih h
theorem z0L (hi lo:Int) (c:UInt8) (h:c∈zdY hi lo):sixC c=true:=by
 unfold zdY zyB at h
 split at h
 ·exact zlH _ c h
 ·rcases List.mem_append.1 h with h|h
  ·rcases List.mem_append.1 h with h|h
   ·exact zlH _ c h
   ·simp at h;subst h;rfl
  ·exact zlH _ c h
def endC (c:UInt8):Bool:=hasB [35,47,63,64,92] c
theorem z8J: ∀d:Fin 256,sixC (UInt8.ofNat d.val)=true→endC (UInt8.ofNat d.val)=false∧UInt8.ofNat d.val≠91∧UInt8.ofNat d.val≠93∧UInt8.ofNat d.val≠37:=by decide+kernel
theorem z0G {c:UInt8} (h:sixC c=true):endC c=false∧c≠91∧c≠93∧c≠37:=by
 have e:UInt8.ofNat c.toNat=c:=by simp
 have:=z8J ⟨c.toNat,c.toNat_lt⟩
 rw [e] at this
 exact this h
theorem z7Y: ∀d:Fin 256,zhD (UInt8.ofNat d.val)=true→endC (UInt8.ofNat d.val)=false∧UInt8.ofNat d.val≠58∧UInt8.ofNat d.val≠91∧UInt8.ofNat d.val≠93∧UInt8.ofNat d.val≠37:=by decide+kernel
theorem z5R {c:UInt8} (h:zhD c=true):endC c=false∧c≠58∧c≠91∧c≠93∧c≠37:=by
 have e:UInt8.ofNat c.toNat=c:=by simp
 have:=z7Y ⟨c.toNat,c.toNat_lt⟩
 rw [e] at this
 exact this h
theorem z6M {n:Int} (h0:0≤n) (h1:n≤4294967295): ∀c∈txtZ n,zhD c=true:=by
 unfold txtZ
 exact (z9C _ _ _ _ (by omega) (by omega) (by omega) (by omega)).1.sign
theorem zsM {h:HZ} (ho:h.Ok):(∀c∈zcN h,zhD c=true)∨ ∃m,zcN h=[91]++m++[93]∧ ∀c∈m,sixC c=true:=by
 match h,ho with
 | .name l,ho=>exact .inl ho.1.sign
 | .addr (.four n),ho=>exact .inl (z6M ho.1 ho.2)
 | .addr (.six hi lo),_=>exact .inr ⟨zdY hi lo,rfl,z0L hi lo⟩
theorem znV {h:HZ} (ho:h.Ok): ∀c∈zcN h,endC c=false:=by
 intro c hc
 rcases zsM ho with g|⟨m,e,g⟩
 ·exact (z5R (g c hc)).1
 ·rw [e] at hc
  simp only [List.mem_append,List.mem_singleton] at hc
  rcases hc with (rfl|hc)|rfl
  ·decide
  ·exact (z0G (g c hc)).1
  ·decide
end
end Go.Proofs.YtppgdppmheiocaaGreatDoor
