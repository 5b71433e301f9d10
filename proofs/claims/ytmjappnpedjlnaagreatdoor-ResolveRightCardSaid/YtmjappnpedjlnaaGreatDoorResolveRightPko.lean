/-
  What the law ResolveRight leans on, and its walk (40 of 42).
-/
import Derived.Test.YtmjappnpedjlnaaGreatDoorResolveRightPkm
import Derived.Test.YtmjappnpedjlnaaGreatDoorResolveRightPkn
namespace Go.Proofs.YtmjappnpedjlnaaGreatDoor
set_option maxRecDepth 100000
set_option maxHeartbeats 16000000
abbrev zzE := @Lib.hid
section
open Go.RowKit
def ziV (six:List UInt8→Bool) (x s:List UInt8):List UInt8×Int:=
 if (zaO six x).2≠0 then ([],(zaO six x).2)
 else if (zaO six x).1.hasS=false then ([],5)
 else if (zaO six s).2≠0 then ([],(zaO six s).2)
 else if zcZ six (zaG (zaO six x).1 (zaO six s).1)=true then (zaN (zaG (zaO six x).1 (zaO six s).1),0) else ([],11)
theorem zwH {six:List UInt8→Bool} {x s:List UInt8} {b r:PZ} (hx:zaO six x=(b,0)) (hS:b.hasS=true) (hs:zaO six s=(r,0)) (h:zaO six (zaN (zaG b r))=(zaG b r,0)):ziV six x s=(zaN (zaG b r),0):=by
 unfold ziV zcZ
 rw [hx,hs]
 simp only [ne_eq,not_true_eq_false,if_false,hS,Bool.true_eq_false]
 rw [h]
 simp
theorem zhL {b r:PZ} {n:Nat} (hb:b.Few n) (hr:r.Few n):(zaG b r).Few (2*n+1):=by
 have hp:=zhM b r
 obtain ⟨b1,b2,b3,b4,b5,b6,b7⟩:=hb
 obtain ⟨r1,r2,r3,r4,r5,r6,r7⟩:=hr
 unfold zaG
 split
 ·refine ⟨?_,?_,?_,?_,?_,?_,?_⟩<;>simp only<;>omega
 ·split
  ·refine ⟨?_,?_,?_,?_,?_,?_,?_⟩<;>simp only<;>omega
  ·split
   ·refine ⟨?_,?_,?_,?_,?_,?_,?_⟩<;>simp only<;>omega
   ·refine ⟨?_,?_,?_,?_,?_,?_,?_⟩<;>simp only<;>omega
theorem zdT {six:List UInt8→Bool} {l:List UInt8} {p:PZ} (h:zaO six l=(p,0)):p.Few 4096:=by
 have h1:=ziG six l
 have h2:=zfA (six:=six) (s:=l) (by rw [h])
 rw [h] at h1
 exact h1.mono h2.1
def RetTx (w:World) (x:List UInt8×Int) (e:Ending) (w':World):Prop:=e= .returned (.tuple #[.string ⟨x.1.toArray⟩,.int .i64 x.2])∧Below w.heap.size w w'
theorem zhV (x s:List UInt8) (w:World) (hmax:MaxVar w) (hutf:Lib.Utf8Tabs 0 1 w):
  Calls Tryz.prog 24 #[.string ⟨x.toArray⟩,.string ⟨s.toArray⟩] w (RetTx w (ziV sixB x s)):=by
 have HMU:=zzE (fun y (hy:Below w.heap.size w y)=>(And.intro (zaA hmax hy) (zcG hutf hy):MaxVar y∧Lib.Utf8Tabs 0 1 y))
 have HP1:=zzE (zcQ x w hmax hutf)
 have HP2:=zzE (fun W (hm:MaxVar W∧Lib.Utf8Tabs 0 1 W)=>zcQ s W hm.1 hm.2)
 have hf1:=fun b h=>zdT (six:=sixB) (l:=x) (p:=b) h
 have hf2:=fun b h=>zdT (six:=sixB) (l:=s) (p:=b) h
 have HF:Hid (ziV sixB x s=if (zaO sixB x).2≠0 then ([],(zaO sixB x).2)
  else if (zaO sixB x).1.hasS=false then ([],5)
  else if (zaO sixB s).2≠0 then ([],(zaO sixB s).2)
  else if zcZ sixB (zaG (zaO sixB x).1 (zaO sixB s).1)=true then (zaN (zaG (zaO sixB x).1 (zaO sixB s).1),0) else ([],11)):=rfl
 generalize ziV sixB x s=res at*
 generalize zaO sixB x=bx at*
 generalize zaO sixB s=rx at*
 obtain ⟨b,eb⟩:=bx
 obtain ⟨r,er⟩:=rx
 simp only at HF
 clear hmax hutf
 go_enter Tryz.func24,Tryz.ntmps24
 go_wp2_with fail
 refine HP1.out.mono ?_
 rintro e x1 ⟨rfl,hx1⟩
 obtain ⟨y1,hy1⟩: ∃y,y=x1.alloc (.cells b.cells 24):=⟨_,rfl⟩
 have hby:Below x1.heap.size x1 y1:=by rw [hy1];exact (Below.refl _ _).alloc (Nat.le_refl _) _
 have hr1:PB 24 y1 x1.heap.size b:=by rw [hy1];exact PB.new _ x1 b
 have HC1:=zzE (zaL hx1 hby)
 clear HP1 hx1 hby
 obtain ⟨P1,hP1⟩: ∃g,g=x1.heap.size:=⟨_,rfl⟩
 rw [←hP1] at hr1
 have HR1:=zzE hr1
 clear hr1
 dsimp only [PZ.cells] at hy1 ⊢
 by_cases he:eb=0
 ·subst he
  have hb:=hf1 b rfl
  go_upto_region 4 with fail
  rw [←hy1,←hP1]
  clear hy1 hP1
  obtain ⟨-,b1,-,-,-,-,-,-,-,-,-,-,-⟩:=HR1.out.all
  cases hS:b.hasS with
  |false=>
   have HF2:Hid (res=([],5)):=by show _=_;rw [HF.out,if_neg (by simp),if_pos hS]
   rw [hS] at b1
   clear HF hf1 hf2 HP2 HMU
   go_wp2
   go_ret2
   obtain rfl:=HF2.out
   exact ⟨rfl,HC1.out⟩
  |true=>
  rw [hS] at b1
  have HP2:=zzE (HP2.out y1 (HMU.out y1 HC1.out))
  go_wp2_with fail
  refine HP2.out.mono ?_
  rintro e x2 ⟨rfl,hx2⟩
  clear b1
  obtain ⟨y2,hy2⟩: ∃y,y=x2.alloc (.cells r.cells 24):=⟨_,rfl⟩
  have hby:Below x2.heap.size x2 y2:=by rw [hy2];exact (Below.refl _ _).alloc (Nat.le_refl _) _
  have hr2:PB 24 y2 x2.heap.size r:=by rw [hy2];exact PB.new _ x2 r
  have HC2:=zzE (zaL (zaL HC1.out hx2) hby)
  have HR1:=zzE ((HR1.out.below hx2).below hby)
  clear HP2 hx2 hby HC1
  obtain ⟨P2,hP2⟩: ∃g,g=x2.heap.size:=⟨_,rfl⟩
  rw [←hP2] at hr2
  have HR2:=zzE hr2
  clear hr2
  dsimp only [PZ.cells] at hy2 ⊢
  by_cases he:er=0
  ·subst he
   have hr:=hf2 r rfl
   have HPP:=zzE (fun W=>zeQ b r W (hb.mono (by omega)) (hr.mono (by omega)))
   have hq:=zhL hb hr
   have HRG:=zzE (fun W (hm:MaxVar W∧Lib.Utf8Tabs 0 1 W)=>zgP (zaG b r) W (hq.mono (by omega)) hm.1 hm.2)
   have HTX:=zzE (fun W=>zeH (zaG b r) W (hq.mono (by omega)))
   have HF2:Hid (res=if zcZ sixB (zaG b r)=true then (zaN (zaG b r),0) else ([],11)):=by show _=_;rw [HF.out,if_neg (by simp),if_neg (by rw [hS];simp),if_neg (by simp)]
   clear HF hf1 hf2 hb hr hq hS
   generalize zcZ sixB (zaG b r)=ok at*
   generalize zaN (zaG b r)=tx at*
   generalize zaG b r=q at*
   go_upto_region 9 with fail
   rw [←hy2,←hP2]
   clear hy2 hP2
   obtain ⟨b0,b1,b2,b3,b4,b5,b6,b7,b8,b9,b10,b11,b12⟩:=HR1.out.all
   obtain ⟨r0,r1,r2,r3,r4,r5,r6,r7,r8,r9,r10,r11,r12⟩:=HR2.out.all
   dsimp only [PZ.cells] at HPP HRG HTX
   go_wp2_with fail
   refine (HPP.out _).mono ?_
   rintro e x3 ⟨rfl,hx3⟩
   clear b0 b1 b2 b3 b4 b5 b6 b7 b8 b9 b10 b11 b12 r0 r1 r2 r3 r4 r5 r6 r7 r8 r9 r10 r11 r12 HPP HR1 HR2
   obtain ⟨y3,hy3⟩: ∃y,y=x3.alloc (.cells q.cells 24):=⟨_,rfl⟩
   have hby:Below x3.heap.size x3 y3:=by rw [hy3];exact (Below.refl _ _).alloc (Nat.le_refl _) _
   have hr3:PB 24 y3 x3.heap.size q:=by rw [hy3];exact PB.new _ x3 q
   have HC3:=zzE (zaL (zaL HC2.out hx3) hby)
   clear hx3 hby HC2
   obtain ⟨P3,hP3⟩: ∃g,g=x3.heap.size:=⟨_,rfl⟩
   rw [←hP3] at hr3
   have HR3:=zzE hr3
   clear hr3
   dsimp only [PZ.cells] at hy3 ⊢
   go_upto_region 10 with fail
   rw [←hy3,←hP3]
   clear hy3 hP3
   obtain ⟨q0,q1,q2,q3,q4,q5,q6,q7,q8,q9,q10,q11,q12⟩:=HR3.out.all
   have HRG:=zzE (HRG.out y3 (HMU.out y3 HC3.out))
   go_wp2_with fail
   refine HRG.out.mono ?_
   rintro e x4 ⟨rfl,hx4⟩
   have HC4:=zzE (zaL HC3.out hx4)
   have HR4:=zzE (HR3.out.below hx4)
   clear q0 q1 q2 q3 q4 q5 q6 q7 q8 q9 q10 q11 q12 HRG HR3 HC3 hx4 HMU
   cases ok with
   |false=>
    have HF3:Hid (res=([],11)):=by show _=_;rw [HF2.out,if_neg (by simp)]
    clear HF2 HTX HR4
    go_wp2
    go_ret2
    obtain rfl:=HF3.out
    exact ⟨rfl,HC4.out⟩
   |true=>
    have HF3:Hid (res=(tx,0)):=by show _=_;rw [HF2.out,if_pos rfl]
    obtain ⟨q0,q1,q2,q3,q4,q5,q6,q7,q8,q9,q10,q11,q12⟩:=HR4.out.all
    clear HF2 HR4
    go_wp2_with fail
    refine (HTX.out _).mono ?_
    rintro e x5 ⟨rfl,hx5⟩
    have HC5:=zzE (zaL HC4.out hx5)
    clear q0 q1 q2 q3 q4 q5 q6 q7 q8 q9 q10 q11 q12 HTX HC4 hx5
    go_wp2
    go_ret2
    obtain rfl:=HF3.out
    exact ⟨rfl,HC5.out⟩
  ·have HF2:Hid (res=([],er)):=by show _=_;rw [HF.out,if_neg (by simp),if_neg (by rw [hS];simp),if_pos he]
   have hne:(er !=0)=true:=bne_iff_ne.2 he
   have HC:=zzE HC2.out
   rw [hy2] at HC
   clear HF hf1 hf2 HR1 HR2 hb hS he HC2 hP2 hy2 HMU
   go_wp2
   go_ret2
   obtain rfl:=HF2.out
   exact ⟨rfl,HC.out⟩
 ·have HF2:Hid (res=([],eb)):=by show _=_;rw [HF.out,if_pos he]
  have hne:(eb !=0)=true:=bne_iff_ne.2 he
  have HC:=zzE HC1.out
  rw [hy1] at HC
  clear HF hf1 hf2 HR1 he HC1 hP1 hy1 HMU HP2
  go_wp2
  go_ret2
  obtain rfl:=HF2.out
  exact ⟨rfl,HC.out⟩
theorem zxZ {six:List UInt8→Bool} {x s:List UInt8} {b r:PZ} (hb:zaO six x=(b,0)) (hr:zaO six s=(r,0)) (hS:b.hasS=true) (hA:b.hasA=true) (h:r.hasS=true→r.hasA=true) (hx:x.length+s.length<4096):
  ziV six x s=(zaN (zaG b r),0)∧ziV six (zaN (zaG b r)) []=(zaN (zaR (zaG b r)),0)∧zcZ six (zaG b r)=true:=by
 obtain ⟨h1,h2,_⟩:=ziP hb hr hS hA h hx
 obtain ⟨_,k2,k3,_⟩:=zrN h1
 refine ⟨zwH hb hS hr h1,?_,k2⟩
 unfold ziV
 rw [h1,ztW]
 simp only [ne_eq,not_true_eq_false,if_false,h2,Bool.true_eq_false]
 rw [zfH,k3]
 simp
theorem zfW {p:PZ} {n:Nat} (h:p.Few n):(zaR p).Few n:=by
 obtain ⟨h1,h2,h3,h4,h5,h6,_⟩:=h
 exact ⟨h1,h2,h3,h4,h5,h6,Nat.zero_le _⟩
theorem zvX (n:Nat):zaM.Few n:=⟨Nat.zero_le _,Nat.zero_le _,Nat.zero_le _,Nat.zero_le _,Nat.zero_le _,Nat.zero_le _,Nat.zero_le _⟩
structure F4 (t:TypeId) (w x:World) (P1 P2 P3 P4:Nat) (b r p q:PZ):Prop where
 below:Below w.heap.size w x
 h1:PB t x P1 b
 h2:PB t x P2 r
 h3:PB t x P3 p
 h4:PB t x P4 q
 n2:P2≠P1
 n3:P3≠P1
 n4:P4≠P1
 m2:P2≠P4
 m3:P3≠P4
 hP1:w.heap.size≤P1
 hP4:w.heap.size≤P4
theorem F4.keep {t:TypeId} {w x y:World} {P1 P2 P3 P4:Nat} {b r p q:PZ} (h:F4 t w x P1 P2 P3 P4 b r p q) (hb:Below x.heap.size x y):F4 t w y P1 P2 P3 P4 b r p q:=
 ⟨zaL h.below hb,h.h1.below hb,h.h2.below hb,h.h3.below hb,h.h4.below hb,h.n2,h.n3,h.n4,h.m2,h.m3,h.hP1,h.hP4⟩
theorem F4.set1 {t:TypeId} {w x:World} {P1 P2 P3 P4:Nat} {b r p q:PZ} (h:F4 t w x P1 P2 P3 P4 b r p q) (i:Nat) (v:Value) {c:PZ} (hc:b.cells.setIfInBounds i v=c.cells):F4 t w (x.setCell ⟨P1,i,none⟩ v) P1 P2 P3 P4 c r p q:=by
 refine ⟨h.below.setCell (p:=⟨P1,i,none⟩) h.hP1 _,?_,?_,?_,?_,h.n2,h.n3,h.n4,h.m2,h.m3,h.hP1,h.hP4⟩
 ·unfold PB
  rw [←hc]
  exact zaT h.h1 i v
 ·unfold PB;rw [zbN h.n2];exact h.h2
 ·unfold PB;rw [zbN h.n3];exact h.h3
 ·unfold PB;rw [zbN h.n4];exact h.h4
theorem F4.set4 {t:TypeId} {w x:World} {P1 P2 P3 P4:Nat} {b r p q:PZ} (h:F4 t w x P1 P2 P3 P4 b r p q) (i:Nat) (v:Value) {c:PZ} (hc:q.cells.setIfInBounds i v=c.cells):F4 t w (x.setCell ⟨P4,i,none⟩ v) P1 P2 P3 P4 b r p c:=by
 refine ⟨h.below.setCell (p:=⟨P4,i,none⟩) h.hP4 _,?_,?_,?_,?_,h.n2,h.n3,h.n4,h.m2,h.m3,h.hP1,h.hP4⟩
 ·unfold PB;rw [zbN h.n4.symm];exact h.h1
 ·unfold PB;rw [zbN h.m2];exact h.h2
 ·unfold PB;rw [zbN h.m3];exact h.h3
 ·unfold PB
  rw [←hc]
  exact zaT h.h4 i v
theorem PB.st {t:TypeId} {x:World} {P:Nat} {p:PZ} (h:PB t x P p) (i j:Nat) (a:Value) (hi:i<13) (hj:j<13): ∃v1 v2,x.cell? ⟨P,i,none⟩=some v1∧x.frozen? ⟨P,i,none⟩=false∧(x.setCell ⟨P,i,none⟩ a).cell? ⟨P,j,none⟩=some v2∧(x.setCell ⟨P,i,none⟩ a).frozen? ⟨P,j,none⟩=false:=
 ⟨_,_,(zaJ h i).trans (Array.getElem?_eq_getElem (by rw [zgH];exact hi)),zaX h i,(zaJ (zaT h i a) j).trans (Array.getElem?_eq_getElem (by rw [Array.size_setIfInBounds,zgH];exact hj)),zaX (zaT h i a) j⟩
end
end Go.Proofs.YtmjappnpedjlnaaGreatDoor
