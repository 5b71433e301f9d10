/-
  What the law AbnfReads leans on, and its walk (26 of 27).
-/
import Derived.Test.YtmjappnpedjlnaaGreatDoorAbnfReadsPkK
import Derived.Test.YtmjappnpedjlnaaGreatDoorAbnfReadsPkZ
namespace Go.Proofs.YtmjappnpedjlnaaGreatDoor
set_option maxRecDepth 100000
set_option maxHeartbeats 16000000
abbrev zwZ := @Lib.hid
section
open Go.RowKit
theorem abnfReads_walk (a0:ByteArray) (_w0:a0.size≤maxLen) (w:World) (hpow:PowTab w) (hbru:BruTab w) (hmax:MaxVar w) (hutf:Lib.Utf8Tabs 0 1 w):
  Calls Tryz.prog 3 #[.string a0] w fun e w'=>e= .returned (.bool true)∧Below w.heap.size w w':=by
 obtain ⟨l,rfl⟩: ∃l:List UInt8,a0=⟨l.toArray⟩:=⟨a0.data.toList,by simp⟩
 have hz:=zaB l
 have HA:=zwZ (aw15 w hpow hbru hmax)
 have HMU:=zwZ (fun y (hy:Below w.heap.size w y)=>(And.intro (zaC hmax hy) (zdQ hutf hy):MaxVar y∧Lib.Utf8Tabs 0 1 y))
 have HPR:=zwZ (fun W (hm:MaxVar W) (hu:Lib.Utf8Tabs 0 1 W)=>zlS l W hm hu)
 have HRR:=zwZ (fun W=>zhV l W)
 have hfew:=zoM sixB l
 clear hpow hbru hmax hutf
 generalize zcA sixB l=x at*
 obtain ⟨p,er⟩:=x
 simp only at hfew
 by_cases hl:5000<l.length
 ·clear HPR HRR hfew
  go_enter Tryz.func3,Tryz.ntmps3
  go_wp2_with fail
  refine HA.out.mono ?_
  rintro e x1 ⟨rfl,hx1⟩
  have HX:=zwZ hx1
  clear hx1 HA HMU
  go_wp2
  go_ret
  exact ⟨rfl,HX.out⟩
 ·have hl:l.length≤5000:=Nat.not_lt.1 hl
  have hf:p.Few 1000000:=hfew.mono (by omega)
  have HEQ: ∀W:World,(binOp .eql 28 (.agg p.cells) (.agg p.cells)).run Tryz.prog W= .ok (.bool true) W:=fun W=>by
   rw [eqR _ _ hf hf W]
   simp
  have HG:=ztC p.cells p.cells
  have he:(er==er)=true:=by simp
  have HEQ:=zwZ HEQ
  have HG:=zwZ HG
  clear hfew hf
  go_enter Tryz.func3,Tryz.ntmps3
  go_wp2_with fail
  refine HA.out.mono ?_
  rintro e x1 ⟨rfl,hx1⟩
  have HPX:=zwZ (HPR.out x1 (HMU.out x1 hx1).1 (HMU.out x1 hx1).2)
  have HX:=zwZ hx1
  clear hx1 HA HMU HPR
  go_wp2_with fail
  refine HPX.out.mono ?_
  rintro e x2 ⟨rfl,hx2⟩
  obtain ⟨y2,hy2⟩: ∃y,y=x2.alloc (.cells p.cells 24):=⟨_,rfl⟩
  have hby:Below x2.heap.size x2 y2:=by rw [hy2];exact (Below.refl _ _).alloc (Nat.le_refl _) _
  have hr2:PB 24 y2 x2.heap.size p:=by rw [hy2];exact PB.new _ x2 p
  have HC2:=zwZ (zbJ (zbJ HX.out hx2) hby)
  clear HPX HX hx2 hby
  obtain ⟨P2,hP2⟩: ∃g,g=x2.heap.size:=⟨_,rfl⟩
  rw [←hP2] at hr2
  have HR2:=zwZ hr2
  clear hr2
  dsimp only [PZ.cells] at hy2 ⊢
  go_upto_region 6 with fail
  rw [←hy2,←hP2]
  clear hy2 hP2
  go_wp2_with fail
  refine (HRR.out _).mono ?_
  rintro e x3 ⟨rfl,hx3⟩
  obtain ⟨y3,hy3⟩: ∃y,y=x3.alloc (.cells p.cells 28):=⟨_,rfl⟩
  have hby:Below x3.heap.size x3 y3:=by rw [hy3];exact (Below.refl _ _).alloc (Nat.le_refl _) _
  have hr3:PB 28 y3 x3.heap.size p:=by rw [hy3];exact PB.new _ x3 p
  have hr2:=(HR2.out.below hx3).below hby
  have HC3:=zwZ (zbJ (zbJ HC2.out hx3) hby)
  clear HC2 HR2 HRR hx3 hby
  obtain ⟨P3,hP3⟩: ∃g,g=x3.heap.size:=⟨_,rfl⟩
  rw [←hP3] at hr3
  have HR3:=zwZ hr3
  have HR2:=zwZ hr2
  clear hr3 hr2
  dsimp only [PZ.cells] at hy3 ⊢
  go_upto_region 7 with fail
  rw [←hy3,←hP3]
  clear hy3 hP3
  obtain ⟨b0,b1,b2,b3,b4,b5,b6,b7,b8,b9,b10,b11,b12⟩:=HR2.out.all
  obtain ⟨r0,r1,r2,r3,r4,r5,r6,r7,r8,r9,r10,r11,r12⟩:=HR3.out.all
  have hq:=HEQ.out
  have hg:=HG.out
  dsimp only [PZ.cells] at hq hg
  clear HEQ HG HR2 HR3
  go_wp2
  go_ret
  exact ⟨rfl,HC3.out⟩
end
end Go.Proofs.YtmjappnpedjlnaaGreatDoor
