/-
  What the law ResolveMeets leans on, and its walk (43 of 46).
-/
import Derived.Test.YtmjappnpedjlnaaGreatDoorResolveMeetsPkp
import Derived.Test.YtmjappnpedjlnaaGreatDoorResolveMeetsPkq
namespace Go.Proofs.YtmjappnpedjlnaaGreatDoor
set_option maxRecDepth 100000
set_option maxHeartbeats 16000000
abbrev yqE := @Lib.hid
section
open Go.RowKit
def z3K (six:List UInt8→Bool) (x s:List UInt8):List UInt8×Int:=
 if (zaW six x).2≠0 then ([],(zaW six x).2)
 else if (zaW six x).1.hasS=false then ([],5)
 else if (zaW six s).2≠0 then ([],(zaW six s).2)
 else if zlU six (zaV (zaW six x).1 (zaW six s).1)=true then (zbJ (zaV (zaW six x).1 (zaW six s).1),0) else ([],11)
theorem ygO {six:List UInt8→Bool} {x s:List UInt8} {b r:PZ} (hx:zaW six x=(b,0)) (hS:b.hasS=true) (hs:zaW six s=(r,0)) (h:zaW six (zbJ (zaV b r))=(zaV b r,0)):z3K six x s=(zbJ (zaV b r),0):=by
 unfold z3K zlU
 rw [hx,hs]
 simp only [ne_eq,not_true_eq_false,if_false,hS,Bool.true_eq_false]
 rw [h]
 simp
theorem zxZ {b r:PZ} {n:Nat} (hb:b.Few n) (hr:r.Few n):(zaV b r).Few (2*n+1):=by
 have hp:=znJ b r
 obtain ⟨b1,b2,b3,b4,b5,b6,b7⟩:=hb
 obtain ⟨r1,r2,r3,r4,r5,r6,r7⟩:=hr
 unfold zaV
 split
 ·refine ⟨?_,?_,?_,?_,?_,?_,?_⟩<;>simp only<;>omega
 ·split
  ·refine ⟨?_,?_,?_,?_,?_,?_,?_⟩<;>simp only<;>omega
  ·split
   ·refine ⟨?_,?_,?_,?_,?_,?_,?_⟩<;>simp only<;>omega
   ·refine ⟨?_,?_,?_,?_,?_,?_,?_⟩<;>simp only<;>omega
theorem znF {six:List UInt8→Bool} {l:List UInt8} {p:PZ} (h:zaW six l=(p,0)):p.Few 4096:=by
 have h1:=zpJ six l
 have h2:=ziF (six:=six) (s:=l) (by rw [h])
 rw [h] at h1
 exact h1.mono h2.1
def RetTx (w:World) (x:List UInt8×Int) (e:Ending) (w':World):Prop:=e= .returned (.tuple #[.string ⟨x.1.toArray⟩,.int .i64 x.2])∧Below w.heap.size w w'
theorem zqY (x s:List UInt8) (w:World) (hmax:MaxVar w) (hutf:Lib.Utf8Tabs 0 1 w):
  Calls Tryz.prog 24 #[.string ⟨x.toArray⟩,.string ⟨s.toArray⟩] w (RetTx w (z3K sixB x s)):=by
 have HMU:=yqE (fun y (hy:Below w.heap.size w y)=>(And.intro (zaA hmax hy) (zeM hutf hy):MaxVar y∧Lib.Utf8Tabs 0 1 y))
 have HP1:=yqE (zfF x w hmax hutf)
 have HP2:=yqE (fun W (hm:MaxVar W∧Lib.Utf8Tabs 0 1 W)=>zfF s W hm.1 hm.2)
 have hf1:=fun b h=>znF (six:=sixB) (l:=x) (p:=b) h
 have hf2:=fun b h=>znF (six:=sixB) (l:=s) (p:=b) h
 have HF:Hid (z3K sixB x s=if (zaW sixB x).2≠0 then ([],(zaW sixB x).2)
  else if (zaW sixB x).1.hasS=false then ([],5)
  else if (zaW sixB s).2≠0 then ([],(zaW sixB s).2)
  else if zlU sixB (zaV (zaW sixB x).1 (zaW sixB s).1)=true then (zbJ (zaV (zaW sixB x).1 (zaW sixB s).1),0) else ([],11)):=rfl
 generalize z3K sixB x s=res at*
 generalize zaW sixB x=bx at*
 generalize zaW sixB s=rx at*
 obtain ⟨b,eb⟩:=bx
 obtain ⟨r,er⟩:=rx
 simp only at HF
 clear hmax hutf
 go_enter Tryz.func24,Tryz.ntmps24
 go_wp2_with fail
 refine HP1.out.mono ?_
 rintro e x1 ⟨rfl,hx1⟩
 obtain ⟨y1,hy1⟩: ∃y,y=x1.alloc (.cells b.cells 24):=⟨_,rfl⟩
 have hby:Below x1.heap.size x1 y1:=by rw [hy1];exact (Below.refl _ _).alloc (Nat.le_refl _) _
 have hr1:PB 24 y1 x1.heap.size b:=by rw [hy1];exact PB.new _ x1 b
 have HC1:=yqE (zaF hx1 hby)
 clear HP1 hx1 hby
 obtain ⟨P1,hP1⟩: ∃g,g=x1.heap.size:=⟨_,rfl⟩
 rw [←hP1] at hr1
 have HR1:=yqE hr1
 clear hr1
 dsimp only [PZ.cells] at hy1 ⊢
 by_cases he:eb=0
 ·subst he
  have hb:=hf1 b rfl
  go_upto_region 4 with fail
  rw [←hy1,←hP1]
  clear hy1 hP1
  obtain ⟨-,b1,-,-,-,-,-,-,-,-,-,-,-⟩:=HR1.out.all
  cases hS:b.hasS with
  |false=>
   have HF2:Hid (res=([],5)):=by show _=_;rw [HF.out,if_neg (by simp),if_pos hS]
   rw [hS] at b1
   clear HF hf1 hf2 HP2 HMU
   go_wp2
   go_ret2
   obtain rfl:=HF2.out
   exact ⟨rfl,HC1.out⟩
  |true=>
  rw [hS] at b1
  have HP2:=yqE (HP2.out y1 (HMU.out y1 HC1.out))
  go_wp2_with fail
  refine HP2.out.mono ?_
  rintro e x2 ⟨rfl,hx2⟩
  clear b1
  obtain ⟨y2,hy2⟩: ∃y,y=x2.alloc (.cells r.cells 24):=⟨_,rfl⟩
  have hby:Below x2.heap.size x2 y2:=by rw [hy2];exact (Below.refl _ _).alloc (Nat.le_refl _) _
  have hr2:PB 24 y2 x2.heap.size r:=by rw [hy2];exact PB.new _ x2 r
  have HC2:=yqE (zaF (zaF HC1.out hx2) hby)
  have HR1:=yqE ((HR1.out.below hx2).below hby)
  clear HP2 hx2 hby HC1
  obtain ⟨P2,hP2⟩: ∃g,g=x2.heap.size:=⟨_,rfl⟩
  rw [←hP2] at hr2
  have HR2:=yqE hr2
  clear hr2
  dsimp only [PZ.cells] at hy2 ⊢
  by_cases he:er=0
  ·subst he
   have hr:=hf2 r rfl
   have HPP:=yqE (fun W=>zyA b r W (hb.mono (by omega)) (hr.mono (by omega)))
   have hq:=zxZ hb hr
   have HRG:=yqE (fun W (hm:MaxVar W∧Lib.Utf8Tabs 0 1 W)=>zzH (zaV b r) W (hq.mono (by omega)) hm.1 hm.2)
   have HTX:=yqE (fun W=>zqO (zaV b r) W (hq.mono (by omega)))
   have HF2:Hid (res=if zlU sixB (zaV b r)=true then (zbJ (zaV b r),0) else ([],11)):=by show _=_;rw [HF.out,if_neg (by simp),if_neg (by rw [hS];simp),if_neg (by simp)]
   clear HF hf1 hf2 hb hr hq hS
   generalize zlU sixB (zaV b r)=ok at*
   generalize zbJ (zaV b r)=tx at*
   generalize zaV b r=q at*
   go_upto_region 9 with fail
   rw [←hy2,←hP2]
   clear hy2 hP2
   obtain ⟨b0,b1,b2,b3,b4,b5,b6,b7,b8,b9,b10,b11,b12⟩:=HR1.out.all
   obtain ⟨r0,r1,r2,r3,r4,r5,r6,r7,r8,r9,r10,r11,r12⟩:=HR2.out.all
   dsimp only [PZ.cells] at HPP HRG HTX
   go_wp2_with fail
   refine (HPP.out _).mono ?_
   rintro e x3 ⟨rfl,hx3⟩
   clear b0 b1 b2 b3 b4 b5 b6 b7 b8 b9 b10 b11 b12 r0 r1 r2 r3 r4 r5 r6 r7 r8 r9 r10 r11 r12 HPP HR1 HR2
   obtain ⟨y3,hy3⟩: ∃y,y=x3.alloc (.cells q.cells 24):=⟨_,rfl⟩
   have hby:Below x3.heap.size x3 y3:=by rw [hy3];exact (Below.refl _ _).alloc (Nat.le_refl _) _
   have hr3:PB 24 y3 x3.heap.size q:=by rw [hy3];exact PB.new _ x3 q
   have HC3:=yqE (zaF (zaF HC2.out hx3) hby)
   clear hx3 hby HC2
   obtain ⟨P3,hP3⟩: ∃g,g=x3.heap.size:=⟨_,rfl⟩
   rw [←hP3] at hr3
   have HR3:=yqE hr3
   clear hr3
   dsimp only [PZ.cells] at hy3 ⊢
   go_upto_region 10 with fail
   rw [←hy3,←hP3]
   clear hy3 hP3
   obtain ⟨q0,q1,q2,q3,q4,q5,q6,q7,q8,q9,q10,q11,q12⟩:=HR3.out.all
   have HRG:=yqE (HRG.out y3 (HMU.out y3 HC3.out))
   go_wp2_with fail
   refine HRG.out.mono ?_
   rintro e x4 ⟨rfl,hx4⟩
   have HC4:=yqE (zaF HC3.out hx4)
   have HR4:=yqE (HR3.out.below hx4)
   clear q0 q1 q2 q3 q4 q5 q6 q7 q8 q9 q10 q11 q12 HRG HR3 HC3 hx4 HMU
   cases ok with
   |false=>
    have HF3:Hid (res=([],11)):=by show _=_;rw [HF2.out,if_neg (by simp)]
    clear HF2 HTX HR4
    go_wp2
    go_ret2
    obtain rfl:=HF3.out
    exact ⟨rfl,HC4.out⟩
   |true=>
    have HF3:Hid (res=(tx,0)):=by show _=_;rw [HF2.out,if_pos rfl]
    obtain ⟨q0,q1,q2,q3,q4,q5,q6,q7,q8,q9,q10,q11,q12⟩:=HR4.out.all
    clear HF2 HR4
    go_wp2_with fail
    refine (HTX.out _).mono ?_
    rintro e x5 ⟨rfl,hx5⟩
    have HC5:=yqE (zaF HC4.out hx5)
    clear q0 q1 q2 q3 q4 q5 q6 q7 q8 q9 q10 q11 q12 HTX HC4 hx5
    go_wp2
    go_ret2
    obtain rfl:=HF3.out
    exact ⟨rfl,HC5.out⟩
  ·have HF2:Hid (res=([],er)):=by show _=_;rw [HF.out,if_neg (by simp),if_neg (by rw [hS];simp),if_pos he]
   have hne:(er !=0)=true:=bne_iff_ne.2 he
   have HC:=yqE HC2.out
   rw [hy2] at HC
   clear HF hf1 hf2 HR1 HR2 hb hS he HC2 hP2 hy2 HMU
   go_wp2
   go_ret2
   obtain rfl:=HF2.out
   exact ⟨rfl,HC.out⟩
 ·have HF2:Hid (res=([],eb)):=by show _=_;rw [HF.out,if_pos he]
  have hne:(eb !=0)=true:=bne_iff_ne.2 he
  have HC:=yqE HC1.out
  rw [hy1] at HC
  clear HF hf1 hf2 HR1 he HC1 hP1 hy1 HMU HP2
  go_wp2
  go_ret2
  obtain rfl:=HF2.out
  exact ⟨rfl,HC.out⟩
end
end Go.Proofs.YtmjappnpedjlnaaGreatDoor
