/-
  What the law AbnfBack leans on, and its walk (26 of 27).
-/
import Derived.Deep.RegionHeld3
import Derived.Test.YtppgdppmheiocaaGreatDoorAbnfBackPkK
import Derived.Test.YtppgdppmheiocaaGreatDoorAbnfBackPkZ
namespace Go.Proofs.YtppgdppmheiocaaGreatDoor
set_option maxRecDepth 100000
set_option maxHeartbeats 16000000
abbrev zvG := @Lib.hid
section
open Go.RowKit
theorem zmN {p:PZ} {n:Nat} (h:p.Few n):(zbH p).Few n:=⟨h.1,h.2.1,h.2.2.1,h.2.2.2.1,h.2.2.2.2.1,h.2.2.2.2.2.1,Nat.zero_le _⟩
theorem zjP {p:PZ} {n:Nat} (h:p.Few n):(zbJ p).Few n:=⟨h.1,h.2.1,h.2.2.1,h.2.2.2.1,h.2.2.2.2.1,Nat.zero_le _,Nat.zero_le _⟩
theorem PB.nofrag {t:TypeId} {w:World} {P:Nat} {p:PZ} (h:PB t w P p):PB t ((w.setCell ⟨P,11,none⟩ (.string ⟨#[]⟩)).setCell ⟨P,12,none⟩ (.bool false)) P (zbH p):=zaL (zaL h 11 _) 12 _
theorem PB.noquery {t:TypeId} {w:World} {P:Nat} {p:PZ} (h:PB t w P (zbH p)):PB t ((w.setCell ⟨P,9,none⟩ (.string ⟨#[]⟩)).setCell ⟨P,10,none⟩ (.bool false)) P (zbJ p):=zaL (zaL h 9 _) 10 _
theorem PB.st11 {t:TypeId} {w:World} {P:Nat} {p:PZ} (h:PB t w P p) (a:Value):(w.cell? ⟨P,11,none⟩=some (.string ⟨p.frag.toArray⟩)∧w.frozen? ⟨P,11,none⟩=false)∧(w.setCell ⟨P,11,none⟩ a).cell? ⟨P,12,none⟩=some (.bool p.hasF)∧(w.setCell ⟨P,11,none⟩ a).frozen? ⟨P,12,none⟩=false:=⟨⟨zaF h 11,zaO h 11⟩,zaF (zaL h 11 a) 12,zaO (zaL h 11 a) 12⟩
theorem PB.st9 {t:TypeId} {w:World} {P:Nat} {p:PZ} (h:PB t w P p) (a:Value):(w.cell? ⟨P,9,none⟩=some (.string ⟨p.query.toArray⟩)∧w.frozen? ⟨P,9,none⟩=false)∧(w.setCell ⟨P,9,none⟩ a).cell? ⟨P,10,none⟩=some (.bool p.hasQ)∧(w.setCell ⟨P,9,none⟩ a).frozen? ⟨P,10,none⟩=false:=⟨⟨zaF h 9,zaO h 9⟩,zaF (zaL h 9 a) 10,zaO (zaL h 9 a) 10⟩
theorem zgU {w x:World} {P:Nat} (h:Below w.heap.size w x) (hP:w.heap.size≤P) (i j:Nat) (a b:Value):Below w.heap.size w ((x.setCell ⟨P,i,none⟩ a).setCell ⟨P,j,none⟩ b):=
 (h.setCell (p:=⟨P,i,none⟩) hP _).setCell (p:=⟨P,j,none⟩) hP _
theorem zmF {six:List UInt8→Bool} {l:List UInt8} (h:(zbE six l).2≠0):(zbE six l).1=zaJ:=by
 unfold zbE at*
 split
 ·rfl
 ·split
  ·rfl
  ·split
   ·rename_i h1 h2 h3
    rw [if_neg h1,if_neg h2,if_pos h3] at h
    exact absurd rfl h
   ·rfl
theorem zhV (n:Nat):zaJ.Few n:=⟨Nat.zero_le _,Nat.zero_le _,Nat.zero_le _,Nat.zero_le _,Nat.zero_le _,Nat.zero_le _,Nat.zero_le _⟩
theorem abnfBack_walk (a0:ByteArray) (_w0:a0.size≤maxLen) (w:World) (hpow:PowTab w) (hbru:BruTab w) (hmax:MaxVar w) (hutf:Lib.Utf8Tabs 1 2 w):
  Calls Tryz.prog 5 #[.string a0] w fun e w'=>e= .returned (.bool true)∧Below w.heap.size w w':=by
 obtain ⟨l,rfl⟩: ∃l:List UInt8,a0=⟨l.toArray⟩:=⟨a0.data.toList,by simp⟩
 have HA:=zvG (aw15 w hpow hbru hmax)
 have HMU:=zvG (fun y (hy:Below w.heap.size w y)=>(And.intro (zaA hmax hy) (zcM hutf hy):MaxVar y∧Lib.Utf8Tabs 1 2 y))
 have HPR:=zvG (fun W (hm:MaxVar W) (hu:Lib.Utf8Tabs 1 2 W)=>zfT l W hm hu)
 have hok:=fun h=>ziB (six:=sixB) (s:=l) h
 have hbad:=fun h=>zmF (six:=sixB) (l:=l) h
 have hback:=fun p h=>znR (six:=sixB) (s:=l) (p:=p) h
 have hfew:=zgK sixB l
 clear hpow hbru hmax hutf
 generalize zbE sixB l=x at*
 obtain ⟨p,er⟩:=x
 go_enter Tryz.func5,Tryz.ntmps5
 go_wp2_with fail
 refine HA.out.mono ?_
 rintro e x1 ⟨rfl,hx1⟩
 have HPX:=zvG (HPR.out x1 (HMU.out x1 hx1).1 (HMU.out x1 hx1).2)
 go_wp2_with fail
 refine HPX.out.mono ?_
 rintro e x2 ⟨rfl,hx2⟩
 have hb2:=zaQ hx1 hx2
 have hb3:Below w.heap.size w (x2.alloc (.cells p.cells 24)):=hb2.alloc hb2.size _
 have hP:w.heap.size≤x2.heap.size:=hb2.size
 have hrow:=PB.new 24 x2 p
 clear HA HPR HPX hx1 hx2 hb2
 by_cases he:er=0
 ·subst he
  obtain ⟨hl4,-⟩:=hok rfl
  obtain ⟨k1,k2,k3,k4⟩:=hback p rfl
  have hfw:p.Few 10000:=hfew.mono (by omega)
  have HTX:=zvG (fun W=>zgS p W (hfw.mono (by omega)))
  rw [k1] at HTX
  have HR1:=zvG (fun W (hm:MaxVar W∧Lib.Utf8Tabs 1 2 W)=>zdV p W hfw hm.1 hm.2)
  have HR2:=zvG (fun W (hm:MaxVar W∧Lib.Utf8Tabs 1 2 W)=>zdV (zbH p) W (zmN hfw) hm.1 hm.2)
  have HR3:=zvG (fun W (hm:MaxVar W∧Lib.Utf8Tabs 1 2 W)=>zdV (zbJ p) W (zjP hfw) hm.1 hm.2)
  rw [k2] at HR1
  rw [k3] at HR2
  rw [k4] at HR3
  have hee:(l==l)=true:=by simp
  clear hok hbad hback hfew k1 k2 k3 k4 hfw hl4
  obtain ⟨x3,hx3⟩: ∃y,y=x2.alloc (.cells p.cells 24):=⟨_,rfl⟩
  rw [←hx3] at hb3 hrow
  have HB3:=zvG hb3
  have HRW:=zvG hrow
  clear hb3 hrow
  unfold PZ.cells at hx3
  simp only [PZ.cells]
  go_upto_region 6 with fail
  rw [←hx3]
  clear hx3
  generalize x2.heap.size=P at*
  obtain ⟨d0,d1,d2,d3,d4,d5,d6,d7,d8,d9,d10,d11,d12⟩:=HRW.out.all
  unfold PZ.cells at HTX HR1 HR2 HR3
  go_wp2_with fail
  refine (HTX.out _).mono ?_
  rintro e y1 ⟨rfl,hy1⟩
  have hb4:=zaQ HB3.out hy1
  have hr4:=HRW.out.below hy1
  clear d0 d1 d2 d3 d4 d5 d6 d7 d8 d9 d10 d11 d12 HTX HB3 HRW hy1
  obtain ⟨d0,d1,d2,d3,d4,d5,d6,d7,d8,d9,d10,d11,d12⟩:=hr4.all
  have HB4:=zvG hb4
  have HR4:=zvG hr4
  clear hb4 hr4
  go_wp2_with fail
  refine (HR1.out _ (HMU.out _ HB4.out)).mono ?_
  rintro e y2 ⟨rfl,hy2⟩
  have hb5:=zaQ HB4.out hy2
  have hr5:=HR4.out.below hy2
  clear d0 d1 d2 d3 d4 d5 d6 d7 d8 d9 d10 d11 d12 HR1 HB4 HR4 hy2
  obtain ⟨⟨c11,g11⟩,c12,g12⟩:=hr5.st11 (.string ⟨#[]⟩)
  have hb6:=zgU hb5 hP 11 12 (.string ⟨#[]⟩) (.bool false)
  have hr6:=hr5.nofrag
  obtain ⟨d0,d1,d2,d3,d4,d5,d6,d7,d8,d9,d10,d11,d12⟩:=hr6.all
  have HB6:=zvG hb6
  have HR6:=zvG hr6
  clear hb5 hr5 hb6 hr6
  unfold zbH at d0 d1 d2 d3 d4 d5 d6 d7 d8 d9 d10 d11 d12 HR2
  simp only at d0 d1 d2 d3 d4 d5 d6 d7 d8 d9 d10 d11 d12
  dsimp only at HR2
  go_wp2_with fail
  refine (HR2.out _ (HMU.out _ HB6.out)).mono ?_
  rintro e y3 ⟨rfl,hy3⟩
  have hb7:=zaQ HB6.out hy3
  have hr7:=HR6.out.below hy3
  clear d0 d1 d2 d3 d4 d5 d6 d7 d8 d9 d10 d11 d12 HR2 HB6 HR6 hy3 c11 g11 c12 g12
  obtain ⟨⟨c9,g9⟩,c10,g10⟩:=hr7.st9 (.string ⟨#[]⟩)
  have hb8:=zgU hb7 hP 9 10 (.string ⟨#[]⟩) (.bool false)
  have hr8:=hr7.noquery
  obtain ⟨d0,d1,d2,d3,d4,d5,d6,d7,d8,d9,d10,d11,d12⟩:=hr8.all
  have HB8:=zvG hb8
  clear hb7 hr7 hb8 hr8
  unfold zbJ zbH at d0 d1 d2 d3 d4 d5 d6 d7 d8 d9 d10 d11 d12 HR3
  simp only at d0 d1 d2 d3 d4 d5 d6 d7 d8 d9 d10 d11 d12
  dsimp only at HR3
  go_wp2_with fail
  refine (HR3.out _ (HMU.out _ HB8.out)).mono ?_
  rintro e y4 ⟨rfl,hy4⟩
  have hb9:=zaQ HB8.out hy4
  clear d0 d1 d2 d3 d4 d5 d6 d7 d8 d9 d10 d11 d12
  go_wp2
  go_ret
  exact ⟨rfl,hb9⟩
 ·have he2:(er==0)=false:=beq_eq_false_iff_ne.2 he
  obtain rfl:p=zaJ:=hbad he
  have hEQ:=eqA zaJ zaJ (zhV _) (zhV _)
  rw [show (zaJ==zaJ)=true by decide] at hEQ
  have hgd:=fun a b=>zhD zaJ.cells zaJ.cells a b
  obtain ⟨d0,d1,d2,d3,d4,d5,d6,d7,d8,d9,d10,d11,d12⟩:=hrow.all
  have HB3:=zvG hb3
  dsimp only [PZ.cells,zaJ] at d0 d1 d2 d3 d4 d5 d6 d7 d8 d9 d10 d11 d12 HB3 hEQ hgd
  simp only [PZ.cells,zaJ]
  clear hok hbad hback hfew hb3 hrow
  go_wp2
  go_ret
  exact ⟨rfl,HB3.out⟩
end
end Go.Proofs.YtppgdppmheiocaaGreatDoor
