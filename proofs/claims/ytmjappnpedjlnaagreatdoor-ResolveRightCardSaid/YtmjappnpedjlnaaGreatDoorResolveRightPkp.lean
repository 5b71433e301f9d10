/-
  What the law ResolveRight leans on, and its walk (41 of 42).
-/
import Derived.Test.YtmjappnpedjlnaaGreatDoorResolveRightPkK
import Derived.Test.YtmjappnpedjlnaaGreatDoorResolveRightPko
namespace Go.Proofs.YtmjappnpedjlnaaGreatDoor
set_option maxRecDepth 100000
set_option maxHeartbeats 16000000
abbrev zzF := @Lib.hid
abbrev zzG := @Nat.le_refl
abbrev zzH := @Go.RowKit.Below.refl
section
open Go.RowKit
theorem neqA (p q:PZ) (hp:p.Few 1000000) (hq:q.Few 1000000): ∀W:World,(binOp .neq 24 (.agg p.cells) (.agg q.cells)).run Tryz.prog W= .ok (.bool (!(p==q))) W:=by
 intro W
 obtain ⟨r,hr,hi⟩:=run_eqFields_plain (P:=Tryz.prog) W 9998 p.cells q.cells (D:=10) (D':=10) (Tryz.prog.fieldsOf 24).toList p.lits q.lits (fun f hf=>by have:=List.all_eq_true.1 (show ((Tryz.prog.fieldsOf 24).toList.all fun f=>f.name != "_" &&Tryz.prog.plainKey f.type)=true by kernel_rfl) f hf;simpa using this) (Eq.trans (by kernel_rfl) (ziZ p hp)) (Eq.trans (by kernel_rfl) (ziZ q hq))
 have hpq:(p==q)=r:=by
  rw [Bool.eq_iff_iff,hi,zrC,beq_iff_eq]
 have e1:(Op.equal 24 (.agg p.cells) (.agg q.cells)).run Tryz.prog W= .ok (p==q) W:=by
  show (Op.equalIn 10000 24 _ _).run Tryz.prog W=_
  rw [run_equalIn_struct W 9999 24 _ _ (by kernel_rfl) (by kernel_rfl),hr,hpq]
 show ((Op.equal _ _ _>>=fun b=>pure (Value.bool (!b))):Sem Value).run _ _=_
 rw [Sem.run_bind,e1];rfl
theorem zqP (u v:Array Value): ∀(p q:Operand) (W:World),(eqGuard .neq 24 p q (.agg u) (.agg v)).run Tryz.prog W= .ok () W:=by
 intro p q W;kernel_rfl
theorem resolveRight_walk (a0 a1:ByteArray) (_w0:a0.size≤maxLen) (_w1:a1.size≤maxLen) (w:World) (hpow:PowTab w) (hbru:BruTab w) (hmax:MaxVar w) (hutf:Lib.Utf8Tabs 0 1 w):
  Calls Tryz.prog 6 #[.string a0,.string a1] w fun e w'=>e= .returned (.bool true)∧Below w.heap.size w w':=by
 obtain ⟨x,rfl⟩: ∃l:List UInt8,a0=⟨l.toArray⟩:=⟨a0.data.toList,by simp⟩
 obtain ⟨s,rfl⟩: ∃l:List UInt8,a1=⟨l.toArray⟩:=⟨a1.data.toList,by simp⟩
 have hzx:=zaF x
 have hzs:=zaF s
 have HA:=zzF (aw17 w hpow hbru hmax)
 have HMU:=zzF (fun y (hy:Below w.heap.size w y)=>(And.intro (zaA hmax hy) (zcG hutf hy):MaxVar y∧Lib.Utf8Tabs 0 1 y))
 have HP1:=zzF (fun W (hm:MaxVar W∧Lib.Utf8Tabs 0 1 W)=>zcQ x W hm.1 hm.2)
 have HP2:=zzF (fun W (hm:MaxVar W∧Lib.Utf8Tabs 0 1 W)=>zcQ s W hm.1 hm.2)
 have HT1:=zzF (fun W (hm:MaxVar W∧Lib.Utf8Tabs 0 1 W)=>zhV x s W hm.1 hm.2)
 have HT2:=zzF (fun t W (hm:MaxVar W∧Lib.Utf8Tabs 0 1 W)=>zhV t [] W hm.1 hm.2)
 have HF1:=zzF (fun b h=>zdT (six:=sixB) (l:=x) (p:=b) h)
 have HF2:=zzF (fun b h=>zdT (six:=sixB) (l:=s) (p:=b) h)
 have HRI:=zzF (fun b r h1 h2 h3 h4 h5 h6=>zxZ (six:=sixB) (x:=x) (s:=s) (b:=b) (r:=r) h1 h2 h3 h4 h5 h6)
 clear hpow hbru hmax hutf
 generalize ziV sixB x s=tr at*
 generalize zaO sixB x=bx at*
 generalize zaO sixB s=rx at*
 obtain ⟨b,eb⟩:=bx
 obtain ⟨r,er⟩:=rx
 by_cases hlen:x.length≤1000∧s.length≤1000
 ·obtain ⟨hl1,hl2⟩:=hlen
  go_enter Tryz.func6,Tryz.ntmps6
  go_wp2_with fail
  refine HA.out.mono ?_
  rintro e x1 ⟨rfl,hx1⟩
  have HX:=zzF hx1
  have HP1:=zzF (HP1.out x1 (HMU.out x1 hx1))
  clear hx1 HA
  go_wp2_with fail
  refine HP1.out.mono ?_
  rintro e x2 ⟨rfl,hx2⟩
  obtain ⟨y2,hy2⟩: ∃y,y=x2.alloc (.cells b.cells 24):=⟨_,rfl⟩
  have hby:Below x2.heap.size x2 y2:=by rw [hy2];exact (zzH _ _).alloc (zzG _) _
  have hr1:PB 24 y2 x2.heap.size b:=by rw [hy2];exact PB.new _ x2 b
  have hc2:=zaL HX.out hx2
  have hP1:=hc2.size
  have HC2:=zzF (zaL hc2 hby)
  obtain ⟨P1,hP1e⟩: ∃g,g=x2.heap.size:=⟨_,rfl⟩
  rw [←hP1e] at hr1 hP1
  have hlt1:P1<y2.heap.size:=zaY hr1
  have HR1:=zzF hr1
  clear HP1 HX hx2 hby hr1 hc2
  dsimp only [PZ.cells] at hy2 ⊢
  go_upto_region 6 with fail
  rw [←hy2,←hP1e]
  clear hy2 hP1e
  have HP2:=zzF (HP2.out y2 (HMU.out y2 HC2.out))
  go_wp2_with fail
  refine HP2.out.mono ?_
  rintro e x3 ⟨rfl,hx3⟩
  obtain ⟨y3,hy3⟩: ∃y,y=x3.alloc (.cells r.cells 24):=⟨_,rfl⟩
  have hby:Below x3.heap.size x3 y3:=by rw [hy3];exact (zzH _ _).alloc (zzG _) _
  have hr2:PB 24 y3 x3.heap.size r:=by rw [hy3];exact PB.new _ x3 r
  have hlt2:P1<x3.heap.size:=Nat.lt_of_lt_of_le hlt1 hx3.size
  have HC3:=zzF (zaL (zaL HC2.out hx3) hby)
  have HR1:=zzF ((HR1.out.below hx3).below hby)
  obtain ⟨P2,hP2e⟩: ∃g,g=x3.heap.size:=⟨_,rfl⟩
  rw [←hP2e] at hr2 hlt2
  have hlt3:P2<y3.heap.size:=zaY hr2
  have HR2:=zzF hr2
  clear HP2 HC2 hx3 hby hr2 hlt1
  dsimp only [PZ.cells] at hy3 ⊢
  go_upto_region 7 with fail
  rw [←hy3,←hP2e]
  clear hy3 hP2e
  obtain ⟨-,b1,-,-,-,b5,-,-,-,-,-,-,-⟩:=HR1.out.all
  by_cases he:eb=0
  rotate_left
  ·have hne:(eb !=0)=true:=bne_iff_ne.2 he
   clear he HP2 HT1 HT2 HF1 HF2 HRI HR1 HR2 b1 b5
   go_wp2
   go_ret
   exact ⟨rfl,HC3.out⟩
  subst he
  by_cases hf:er=0
  rotate_left
  ·have hne:(er !=0)=true:=bne_iff_ne.2 hf
   clear hf HP2 HT1 HT2 HF1 HF2 HRI HR1 HR2 b1 b5
   go_wp2
   go_ret
   exact ⟨rfl,HC3.out⟩
  subst hf
  cases hS:b.hasS with
  |false=>
   rw [hS] at b1
   clear hS HP2 HT1 HT2 HF1 HF2 HRI HR1 HR2 b5
   go_wp2
   go_ret
   exact ⟨rfl,HC3.out⟩
  |true=>
  rw [hS] at b1
  cases hA:b.hasA with
  |false=>
   rw [hA] at b5
   clear hA hS HP2 HT1 HT2 HF1 HF2 HRI HR1 HR2
   go_wp2
   go_ret
   exact ⟨rfl,HC3.out⟩
  |true=>
  rw [hA] at b5
  go_upto_region 9 with fail
  clear b1 b5
  have fb:=HF1.out b rfl
  have fr:=HF2.out r rfl
  have fp:=zhL fb fr
  obtain ⟨pS,pA⟩:=zmF (b:=b) (r:=r) hS hA
  have HPP1:=zzF (fun W=>zeQ b r W (fb.mono (by omega)) (fr.mono (by omega)))
  have HPP2:=zzF (fun W=>zeQ b zaM W (fb.mono (by omega)) (zvX 100000))
  rw [zfH] at HPP2
  have hNE:=neqA (zaR b) (zaR b) ((zfW fb).mono (by omega)) ((zfW fb).mono (by omega))
  rw [show (!(zaR b==zaR b))=false by simp] at hNE
  have hNG:=zqP (zaR b).cells (zaR b).cells
  have HRG:=zzF (fun W (hm:MaxVar W∧Lib.Utf8Tabs 0 1 W)=>zgP (zaG b r) W (fp.mono (by omega)) hm.1 hm.2)
  have HX1:=zzF (fun W=>zeH (zaG b r) W (fp.mono (by omega)))
  have HX2:=zzF (fun W=>zeH (zaR (zaG b r)) W ((zfW fp).mono (by omega)))
  have HRI:=zzF (fun h=>HRI.out b r rfl rfl hS hA h (by omega))
  have HNE:=zzF hNE
  have HNG:=zzF hNG
  have HPS:=zzF pS
  have HPA:=zzF pA
  clear fb fr fp HF1 HF2 hS hA HP2 hNE hNG pS pA
  generalize zaG b r=p at*
  obtain ⟨b0,b1,b2,b3,b4,b5,b6,b7,b8,b9,b10,b11,b12⟩:=HR1.out.all
  obtain ⟨r0,r1,r2,r3,r4,r5,r6,r7,r8,r9,r10,r11,r12⟩:=HR2.out.all
  dsimp only [PZ.cells,zaM] at HPP1 HPP2
  go_wp2_with fail
  refine (HPP1.out _).mono ?_
  rintro e x4 ⟨rfl,hx4⟩
  clear b0 b1 b2 b3 b4 b5 b6 b7 b8 b9 b10 b11 b12 r0 r1 r2 r3 r4 r5 r6 r7 r8 r9 r10 r11 r12
  obtain ⟨y4,hy4⟩: ∃y,y=x4.alloc (.cells p.cells 24):=⟨_,rfl⟩
  have hby:Below x4.heap.size x4 y4:=by rw [hy4];exact (zzH _ _).alloc (zzG _) _
  have hr3:PB 24 y4 x4.heap.size p:=by rw [hy4];exact PB.new _ x4 p
  have hlt4:P2<x4.heap.size:=Nat.lt_of_lt_of_le hlt3 hx4.size
  have HC4:=zzF (zaL (zaL HC3.out hx4) hby)
  have HR1:=zzF ((HR1.out.below hx4).below hby)
  have HR2:=zzF ((HR2.out.below hx4).below hby)
  obtain ⟨P3,hP3e⟩: ∃g,g=x4.heap.size:=⟨_,rfl⟩
  rw [←hP3e] at hr3 hlt4
  have hlt5:P3<y4.heap.size:=zaY hr3
  have HR3:=zzF hr3
  clear HPP1 HC3 hx4 hby hr3 hlt3
  dsimp only [PZ.cells] at hy4 ⊢
  go_upto_region 10 with fail
  rw [←hy4,←hP3e]
  clear hy4 hP3e
  obtain ⟨b0,b1,b2,b3,b4,b5,b6,b7,b8,b9,b10,b11,b12⟩:=HR1.out.all
  go_wp2_with fail
  refine (HPP2.out _).mono ?_
  rintro e x5 ⟨rfl,hx5⟩
  clear b0 b1 b2 b3 b4 b5 b6 b7 b8 b9 b10 b11 b12
  obtain ⟨y5,hy5⟩: ∃y,y=x5.alloc (.cells (zaR b).cells 24):=⟨_,rfl⟩
  have hby:Below x5.heap.size x5 y5:=by rw [hy5];exact (zzH _ _).alloc (zzG _) _
  have hr4:PB 24 y5 x5.heap.size (zaR b):=by rw [hy5];exact PB.new _ x5 _
  have hlt6:P3<x5.heap.size:=Nat.lt_of_lt_of_le hlt5 hx5.size
  have HF4:Hid (F4 24 w y5 P1 P2 P3 x5.heap.size b r p (zaR b)):=⟨zaL (zaL HC4.out hx5) hby,(HR1.out.below hx5).below hby,(HR2.out.below hx5).below hby,(HR3.out.below hx5).below hby,hr4,by omega,by omega,by omega,by omega,by omega,by omega,by omega⟩
  obtain ⟨P4,hP4e⟩: ∃g,g=x5.heap.size:=⟨_,rfl⟩
  rw [←hP4e] at HF4
  clear HPP2 HC4 HR1 HR2 HR3 hx5 hby hr4 hlt2 hlt4 hlt5 hlt6 hP1
  dsimp only [PZ.cells,zaR] at hy5 ⊢
  go_upto_region 11 with fail
  rw [←hy5,←hP4e]
  clear hy5 hP4e
  obtain ⟨v1,v2,c0,f0,c1,f1⟩:=HF4.out.h1.st 11 12 (.string ⟨#[]⟩) (by decide) (by decide)
  have HF5:Hid (F4 24 w ((y5.setCell ⟨P1,11,none⟩ (.string ⟨#[]⟩)).setCell ⟨P1,12,none⟩ (.bool false)) P1 P2 P3 P4 (zaR b) r p (zaR b)):=(HF4.out.set1 11 (.string ⟨#[]⟩) (c:={b with frag:=[]}) rfl).set1 12 _ rfl
  go_upto_region 12 with fail
  obtain ⟨y6,hy6⟩: ∃y,y=(y5.setCell ⟨P1,11,none⟩ (.string ⟨#[]⟩)).setCell ⟨P1,12,none⟩ (.bool false):=⟨_,rfl⟩
  rw [←hy6] at HF5 ⊢
  clear hy6 c0 f0 c1 f1 v1 v2 HF4
  obtain ⟨b0,b1,b2,b3,b4,b5,b6,b7,b8,b9,b10,b11,b12⟩:=HF5.out.h1.all
  obtain ⟨q0,q1,q2,q3,q4,q5,q6,q7,q8,q9,q10,q11,q12⟩:=HF5.out.h4.all
  obtain ⟨-,p1,-,-,-,p5,-,-,-,-,-,-,-⟩:=HF5.out.h3.all
  obtain ⟨-,r1,-,-,-,r5,-,-,-,-,-,-,-⟩:=HF5.out.h2.all
  rw [HPS.out] at p1
  have hne:=HNE.out
  have hng:=HNG.out
  dsimp only [PZ.cells,zaR] at b0 b1 b2 b3 b4 b5 b6 b7 b8 b9 b10 b11 b12 q0 q1 q2 q3 q4 q5 q6 q7 q8 q9 q10 q11 q12 hne hng
  clear HNE HNG HPS
  have hcase:(r.hasS=true∧r.hasA=false)∨(r.hasS=true∧r.hasA=true)∨r.hasS=false:=by cases r.hasS<;>cases r.hasA<;>simp
  rcases hcase with ⟨g1,g2⟩|hcase
  ·rw [g1] at r1
   rw [g2] at r5
   clear g1 g2 HPA HRI HRG HX1 HX2 HT1 HT2 p5
   go_wp2
   go_ret
   exact ⟨rfl,HF5.out.below⟩
  obtain ⟨t1,t2,t3⟩:=HRI.out (fun h=>by
   rcases hcase with ⟨_,g⟩|g
   ·exact g
   ·rw [g] at h;cases h)
  subst t1
  rw [t3] at HRG
  have HT2:=zzF (HT2.out (zaN p))
  rw [t2] at HT2
  clear HRI t2 t3
  have hx1:(zaN p==zaN p)=true:=by simp
  have hx2:(zaN (zaR p)==zaN (zaR p))=true:=by simp
  generalize zaN p=tp at*
  generalize zaN (zaR p)=tq at*
  rcases hcase with ⟨g1,g2⟩|g1
  ·rw [g1] at r1
   rw [g2] at r5
   clear g1 g2 HPA p5
   go_upto_region 16 with fail
   clear b0 b1 b2 b3 b4 b5 b6 b7 b8 b9 b10 b11 b12 q0 q1 q2 q3 q4 q5 q6 q7 q8 q9 q10 q11 q12 p1 r1 r5 hne hng
   have HT1:=zzF (HT1.out y6 (HMU.out y6 HF5.out.below))
   go_wp2_with fail
   refine HT1.out.mono ?_
   rintro e x6 ⟨rfl,hx6⟩
   have HF6:=zzF (HF5.out.keep hx6)
   have HT2:=zzF (HT2.out x6 (HMU.out x6 HF6.out.below))
   clear hx6 HT1 HF5
   go_wp2_with fail
   refine HT2.out.mono ?_
   rintro e x7 ⟨rfl,hx7⟩
   have HF7:=zzF (HF6.out.keep hx7)
   clear hx7 HT2 HF6
   obtain ⟨p0,p1,p2,p3,p4,p5,p6,p7,p8,p9,p10,p11,p12⟩:=HF7.out.h3.all
   obtain ⟨y7,hy7⟩: ∃y,y=x7.alloc (.cells p.cells 24):=⟨_,rfl⟩
   have hby:Below x7.heap.size x7 y7:=by rw [hy7];exact (zzH _ _).alloc (zzG _) _
   have hr5:PB 24 y7 x7.heap.size p:=by rw [hy7];exact PB.new _ x7 p
   have hk1:=zaY HF7.out.h1
   have hk2:=zaY HF7.out.h2
   have hk3:=zaY HF7.out.h3
   have HF8:Hid (F4 24 w y7 P1 P2 P3 x7.heap.size (zaR b) r p p):=⟨zaL HF7.out.below hby,HF7.out.h1.below hby,HF7.out.h2.below hby,HF7.out.h3.below hby,hr5,HF7.out.n2,HF7.out.n3,by omega,by omega,by omega,HF7.out.hP1,HF7.out.below.size⟩
   obtain ⟨P5,hP5e⟩: ∃g,g=x7.heap.size:=⟨_,rfl⟩
   rw [←hP5e] at HF8
   clear hby hr5 hk1 hk2 hk3 HF7
   dsimp only [PZ.cells] at hy7
   go_upto_region 19 with fail
   rw [←hy7,←hP5e]
   clear hy7 hP5e p0 p1 p2 p3 p4 p5 p6 p7 p8 p9 p10 p11 p12
   obtain ⟨v1,v2,c0,f0,c1,f1⟩:=HF8.out.h4.st 11 12 (.string ⟨#[]⟩) (by decide) (by decide)
   have HF9:Hid (F4 24 w ((y7.setCell ⟨P5,11,none⟩ (.string ⟨#[]⟩)).setCell ⟨P5,12,none⟩ (.bool false)) P1 P2 P3 P5 (zaR b) r p (zaR p)):=(HF8.out.set4 11 (.string ⟨#[]⟩) (c:={p with frag:=[]}) rfl).set4 12 _ rfl
   go_upto_region 20 with fail
   obtain ⟨y8,hy8⟩: ∃y,y=(y7.setCell ⟨P5,11,none⟩ (.string ⟨#[]⟩)).setCell ⟨P5,12,none⟩ (.bool false):=⟨_,rfl⟩
   rw [←hy8] at HF9 ⊢
   clear hy8 c0 f0 c1 f1 v1 v2 HF8
   obtain ⟨p0,p1,p2,p3,p4,p5,p6,p7,p8,p9,p10,p11,p12⟩:=HF9.out.h3.all
   have HRG:=zzF (HRG.out y8 (HMU.out y8 HF9.out.below))
   dsimp only [PZ.cells,zaR] at HRG HX1 HX2
   go_wp2_with fail
   refine HRG.out.mono ?_
   rintro e x8 ⟨rfl,hx8⟩
   have HG1:=zzF (HF9.out.keep hx8)
   clear hx8 HRG HF9 p0 p1 p2 p3 p4 p5 p6 p7 p8 p9 p10 p11 p12
   obtain ⟨p0,p1,p2,p3,p4,p5,p6,p7,p8,p9,p10,p11,p12⟩:=HG1.out.h3.all
   go_wp2_with fail
   refine (HX1.out _).mono ?_
   rintro e x9 ⟨rfl,hx9⟩
   have HG2:=zzF (HG1.out.keep hx9)
   clear hx9 HX1 HG1 p0 p1 p2 p3 p4 p5 p6 p7 p8 p9 p10 p11 p12
   obtain ⟨p0,p1,p2,p3,p4,p5,p6,p7,p8,p9,p10,p11,p12⟩:=HG2.out.h4.all
   dsimp only [zaR] at p0 p1 p2 p3 p4 p5 p6 p7 p8 p9 p10 p11 p12
   go_wp2_with fail
   refine (HX2.out _).mono ?_
   rintro e x10 ⟨rfl,hx10⟩
   have HG3:=zzF (HG2.out.keep hx10)
   clear hx10 HX2 HG2 p0 p1 p2 p3 p4 p5 p6 p7 p8 p9 p10 p11 p12
   go_wp2
   go_ret
   exact ⟨rfl,HG3.out.below⟩
  ·have gp:=HPA.out g1
   rw [gp] at p5
   rw [g1] at r1
   clear gp g1 HPA r5
   go_upto_region 16 with fail
   clear b0 b1 b2 b3 b4 b5 b6 b7 b8 b9 b10 b11 b12 q0 q1 q2 q3 q4 q5 q6 q7 q8 q9 q10 q11 q12 p1 p5 r1 hne hng
   have HT1:=zzF (HT1.out y6 (HMU.out y6 HF5.out.below))
   go_wp2_with fail
   refine HT1.out.mono ?_
   rintro e x6 ⟨rfl,hx6⟩
   have HF6:=zzF (HF5.out.keep hx6)
   have HT2:=zzF (HT2.out x6 (HMU.out x6 HF6.out.below))
   clear hx6 HT1 HF5
   go_wp2_with fail
   refine HT2.out.mono ?_
   rintro e x7 ⟨rfl,hx7⟩
   have HF7:=zzF (HF6.out.keep hx7)
   clear hx7 HT2 HF6
   obtain ⟨p0,p1,p2,p3,p4,p5,p6,p7,p8,p9,p10,p11,p12⟩:=HF7.out.h3.all
   obtain ⟨y7,hy7⟩: ∃y,y=x7.alloc (.cells p.cells 24):=⟨_,rfl⟩
   have hby:Below x7.heap.size x7 y7:=by rw [hy7];exact (zzH _ _).alloc (zzG _) _
   have hr5:PB 24 y7 x7.heap.size p:=by rw [hy7];exact PB.new _ x7 p
   have hk1:=zaY HF7.out.h1
   have hk2:=zaY HF7.out.h2
   have hk3:=zaY HF7.out.h3
   have HF8:Hid (F4 24 w y7 P1 P2 P3 x7.heap.size (zaR b) r p p):=⟨zaL HF7.out.below hby,HF7.out.h1.below hby,HF7.out.h2.below hby,HF7.out.h3.below hby,hr5,HF7.out.n2,HF7.out.n3,by omega,by omega,by omega,HF7.out.hP1,HF7.out.below.size⟩
   obtain ⟨P5,hP5e⟩: ∃g,g=x7.heap.size:=⟨_,rfl⟩
   rw [←hP5e] at HF8
   clear hby hr5 hk1 hk2 hk3 HF7
   dsimp only [PZ.cells] at hy7
   go_upto_region 19 with fail
   rw [←hy7,←hP5e]
   clear hy7 hP5e p0 p1 p2 p3 p4 p5 p6 p7 p8 p9 p10 p11 p12
   obtain ⟨v1,v2,c0,f0,c1,f1⟩:=HF8.out.h4.st 11 12 (.string ⟨#[]⟩) (by decide) (by decide)
   have HF9:Hid (F4 24 w ((y7.setCell ⟨P5,11,none⟩ (.string ⟨#[]⟩)).setCell ⟨P5,12,none⟩ (.bool false)) P1 P2 P3 P5 (zaR b) r p (zaR p)):=(HF8.out.set4 11 (.string ⟨#[]⟩) (c:={p with frag:=[]}) rfl).set4 12 _ rfl
   go_upto_region 20 with fail
   obtain ⟨y8,hy8⟩: ∃y,y=(y7.setCell ⟨P5,11,none⟩ (.string ⟨#[]⟩)).setCell ⟨P5,12,none⟩ (.bool false):=⟨_,rfl⟩
   rw [←hy8] at HF9 ⊢
   clear hy8 c0 f0 c1 f1 v1 v2 HF8
   obtain ⟨p0,p1,p2,p3,p4,p5,p6,p7,p8,p9,p10,p11,p12⟩:=HF9.out.h3.all
   have HRG:=zzF (HRG.out y8 (HMU.out y8 HF9.out.below))
   dsimp only [PZ.cells,zaR] at HRG HX1 HX2
   go_wp2_with fail
   refine HRG.out.mono ?_
   rintro e x8 ⟨rfl,hx8⟩
   have HG1:=zzF (HF9.out.keep hx8)
   clear hx8 HRG HF9 p0 p1 p2 p3 p4 p5 p6 p7 p8 p9 p10 p11 p12
   obtain ⟨p0,p1,p2,p3,p4,p5,p6,p7,p8,p9,p10,p11,p12⟩:=HG1.out.h3.all
   go_wp2_with fail
   refine (HX1.out _).mono ?_
   rintro e x9 ⟨rfl,hx9⟩
   have HG2:=zzF (HG1.out.keep hx9)
   clear hx9 HX1 HG1 p0 p1 p2 p3 p4 p5 p6 p7 p8 p9 p10 p11 p12
   obtain ⟨p0,p1,p2,p3,p4,p5,p6,p7,p8,p9,p10,p11,p12⟩:=HG2.out.h4.all
   dsimp only [zaR] at p0 p1 p2 p3 p4 p5 p6 p7 p8 p9 p10 p11 p12
   go_wp2_with fail
   refine (HX2.out _).mono ?_
   rintro e x10 ⟨rfl,hx10⟩
   have HG3:=zzF (HG2.out.keep hx10)
   clear hx10 HX2 HG2 p0 p1 p2 p3 p4 p5 p6 p7 p8 p9 p10 p11 p12
   go_wp2
   go_ret
   exact ⟨rfl,HG3.out.below⟩
 ·go_enter Tryz.func6,Tryz.ntmps6
  go_wp2_with fail
  refine HA.out.mono ?_
  rintro e x1 ⟨rfl,hx1⟩
  have HX:=zzF hx1
  clear hx1 HA HMU HP1 HP2 HT1 HT2 HF1 HF2 HRI
  by_cases h1:1000<x.length
  ·clear hlen
   go_wp2
   go_ret
   exact ⟨rfl,HX.out⟩
  ·have h1:x.length≤1000:=Nat.not_lt.1 h1
   have h2:1000<s.length:=by omega
   clear hlen
   go_wp2
   go_ret
   exact ⟨rfl,HX.out⟩
end
end Go.Proofs.YtmjappnpedjlnaaGreatDoor
