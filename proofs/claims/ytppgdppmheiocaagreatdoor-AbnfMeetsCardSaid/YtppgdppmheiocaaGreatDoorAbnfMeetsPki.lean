/-
  What the law AbnfMeets leans on, and its walk (34 of 35).
-/
import Derived.Deep.RegionHeld3
import Derived.Test.YtppgdppmheiocaaGreatDoorAbnfMeetsPkK
import Derived.Test.YtppgdppmheiocaaGreatDoorAbnfMeetsPkZ
import Derived.Test.YtppgdppmheiocaaGreatDoorAbnfMeetsPkg
import Derived.Test.YtppgdppmheiocaaGreatDoorAbnfMeetsPke
import Derived.Test.YtppgdppmheiocaaGreatDoorAbnfMeetsPkh
import Derived.Test.YtppgdppmheiocaaGreatDoorAbnfMeetsPkf
namespace Go.Proofs.YtppgdppmheiocaaGreatDoor
set_option maxRecDepth 100000
set_option maxHeartbeats 16000000
abbrev yiN := @Lib.hid
section
open Go.RowKit
def askA (p:PZ):List UInt8:=p.path++(if p.hasQ then 63::p.query else [])
theorem yaJ {l:List UInt8} {p:PZ} {f:Int} (h:(zaZ l none).2=0) (hp:zeS sixB (zcF (zaZ l none).1)=(p,f)) (hf:f=0):
  p.hasS=true∧p.hasA=true∧p.scheme=(zaZ l none).1.scheme∧askA p=askU (zaZ l none).1∧p.hasQ=(zaZ l none).1.hasQ∧p.hasF=(zaZ l none).1.hasF∧p.frag=(zaZ l none).1.frag∧p.hasU= !((zaZ l none).1.user++(zaZ l none).1.pass).isEmpty:=by
 have h1:=z1L (six:=sixB) (s:=zcF (zaZ l none).1) (by rw [hp];exact hf)
 have h2:zbF (zcF (zaZ l none).1)=p:=by
  have:=h1.2.2.2
  rw [hp] at this
  exact (congrArg Prod.fst this).symm
 have h3:=zyO (zkU l none (fun u e=>by cases e) h) (zzB l none (fun u e=>by cases e))
 rw [h2] at h3
 exact h3
theorem abnfMeets_walk (a0:ByteArray) (_w0:a0.size≤maxLen) (w:World) (hpow:PowTab w) (hbru:BruTab w) (hmax:MaxVar w) (hutf:Lib.Utf8Tabs 1 2 w):
  Calls Tryz.prog 6 #[.string a0] w fun e w'=>e= .returned (.bool true)∧Below w.heap.size w w':=by
 obtain ⟨l,rfl⟩: ∃l:List UInt8,a0=⟨l.toArray⟩:=⟨a0.data.toList,by simp⟩
 have hz:=zaE l
 have HA:=yiN (aw15 w hpow hbru hmax)
 have HMU:=yiN (fun y (hy:Below w.heap.size w y)=>(⟨zaB hmax hy,zeV hutf hy,zaD hpow hy,zaA hbru hy⟩:MaxVar y∧Lib.Utf8Tabs 1 2 y∧PowTab y∧BruTab y))
 have HAB:=yiN (fun W (hW:MaxVar W)=>z7J l W hW)
 have hin:=z7S l
 obtain ⟨hr1,hr2,hr3,hr4⟩:=z8D l
 have hmeet0:=fun p f h hp hf=>yaJ (l:=l) (p:=p) (f:=f) h hp hf
 generalize zaZ l none=rr at*
 obtain ⟨v,er⟩:=rr
 simp only at hin hr1 hr2 hr3 hr4 hmeet0
 have HPR:=yiN (fun W (hm:MaxVar W) (hu:Lib.Utf8Tabs 1 2 W)=>zsK (zcF v) W hm hu)
 have hfew:=zxU sixB (zcF v)
 have HTX:=yiN (fun W pv (hp:PV W pv v.path) (h1:PowTab W) (h2:BruTab W)=>zyG v pv W hp hin (by omega) (by omega) (by omega) h1 h2)
 have hask:(askU v).length≤1000000:=by
  have:zcF v=z3A v++whoU v++zbX v++askU v++(if v.hasF then 35::v.frag else []):=by
   unfold zcF zfF;simp
  rw [this] at hr1
  simp only [List.length_append] at hr1
  omega
 have HAK:=yiN (fun W pv (hp:PV W pv v.path)=>zqC v pv W hp hask)
 generalize hx:zeS sixB (zcF v)=x at*
 obtain ⟨p,f⟩:=x
 have hmeet:=fun h hf=>hmeet0 p f h rfl hf
 clear hmeet0
 simp only at hfew
 have hfw:p.Few 300000:=hfew.mono hr1
 clear hx hfew
 generalize zcF v=tx at*
 clear hpow hbru hmax hutf hr1 hin hr3 hr4
 have hsh: ∃hv,v.host.val=hv∧(hv= .nilIface∨ ∃it iv,hv= .iface it iv):=by
  rcases v.host.shape with h|⟨it,iv,h⟩
  ·exact ⟨_,h,.inl rfl⟩
  ·exact ⟨_,h,.inr ⟨it,iv,rfl⟩⟩
 obtain ⟨hv,hvv,hvs⟩:=hsh
 rcases hvs with rfl|⟨it,iv,rfl⟩
 all_goals
  have HVV:=yiN hvv
  clear hvv
  go_enter Tryz.func6,Tryz.ntmps6
  go_wp2_with fail
  refine HA.out.mono ?_
  rintro e x1 ⟨rfl,hx1⟩
  go_wp2_with fail
  refine (HAB.out _ (HMU.out x1 hx1).1).mono ?_
  rintro e x2 ⟨pa,rfl,hp2,hb2⟩
  obtain ⟨aa,an,ac,rfl⟩:=hp2.pv.shape
  obtain ⟨y2,hy2⟩: ∃y,y=x2.alloc (.cells (v.cells (.slice aa an ac)) 42):=⟨_,rfl⟩
  have hd2:Below x2.heap.size x2 y2:=by rw [hy2];exact zbD x2 _
  have hU2:UB y2 x2.heap.size v (.slice aa an ac):=by rw [hy2];exact UB.new x2 v _
  have hPA2:=hp2.pv.keep hd2
  have hC2:=zaO (zaO hx1 hb2) hd2
  obtain ⟨ga,hga⟩: ∃g,g=x2.heap.size:=⟨_,rfl⟩
  have hgs:ga<y2.heap.size:=by rw [hga];exact zaR hU2
  rw [←hga] at hU2
  have HTY:=yiN (HTX.out y2 _ hPA2 (HMU.out y2 hC2).2.2.1 (HMU.out y2 hC2).2.2.2)
  have HU2:=yiN hU2
  have HPA:=yiN hPA2
  have HC2:=yiN hC2
  simp only [UZ.cells] at hy2 HTY ⊢
  rw [HVV.out] at hy2 HTY ⊢
  clear hx1 hb2 hd2 hp2 hU2 hPA2 hC2 HTX
  go_wp2_with fail
  rw [←hy2,←hga]
  clear hy2 hga
  refine HTY.out.mono ?_
  rintro e x3 ⟨rfl,hx3⟩
  have HC3:=yiN (zaO HC2.out hx3)
  have HU3:=yiN (HU2.out.below hx3)
  have HPA3:=yiN (HPA.out.keep hx3)
  have HPX:=yiN (HPR.out x3 (HMU.out x3 HC3.out).1 (HMU.out x3 HC3.out).2.1)
  have hgs3:ga<x3.heap.size:=Nat.lt_of_lt_of_le hgs hx3.size
  clear HTY HC2 HU2 HPA hx3 HPR HMU hgs
  go_wp2_with fail
  refine HPX.out.mono ?_
  rintro e x4 ⟨rfl,hx4⟩
  obtain ⟨x5,hx5⟩: ∃y,y=x4.alloc (.cells p.cells 24):=⟨_,rfl⟩
  have hd5:Below x4.heap.size x4 x5:=by rw [hx5];exact (Below.refl _ _).alloc (Nat.le_refl _) _
  have hr5:PB 24 x5 x4.heap.size p:=by rw [hx5];exact PB.new _ x4 p
  have hU5:=(HU3.out.below hx4).below hd5
  have hPA5:=(HPA3.out.keep hx4).keep hd5
  have hC5:=zaO (zaO HC3.out hx4) hd5
  obtain ⟨P,hP⟩: ∃g,g=x4.heap.size:=⟨_,rfl⟩
  rw [←hP] at hr5
  clear HC3 HU3 HPA3 HPX hgs3 hx4 hd5
  have HC5:=yiN hC5
  by_cases hE:l.length≤1000∧er=0∧f=0
  ·obtain ⟨hl,rfl,rfl⟩:=hE
   have HM:=yiN (hmeet rfl rfl)
   have HAX:=yiN (HAK.out x5 _ hPA5)
   have hq1:p.query.length≤1000000:=by have:=hfw.2.2.2.2.2.1;omega
   have hq2:p.path.length≤1000000:=by have:=hfw.2.2.2.2.1;omega
   have a1: ∀W,(Op.stringOp .add ⟨#[63]⟩ ⟨p.query.toArray⟩).run Tryz.prog W= .ok (.string ⟨(63::p.query).toArray⟩) W:=zfI [63] p.query (by simp;omega)
   have a2: ∀W,(Op.stringOp .add ⟨p.path.toArray⟩ ⟨(63::p.query).toArray⟩).run Tryz.prog W= .ok (.string ⟨(p.path++63::p.query).toArray⟩) W:=zfI p.path (63::p.query) (by simp;omega)
   have a3: ∀W,(Op.stringOp .add ⟨v.user.toArray⟩ ⟨v.pass.toArray⟩).run Tryz.prog W= .ok (.string ⟨(v.user++v.pass).toArray⟩) W:=zfI v.user v.pass (by omega)
   have HR5:=yiN hr5
   have HU5:=yiN hU5
   have hA1:=yiN a1
   have hA2:=yiN a2
   have hA3:=yiN a3
   clear a1 a2 a3
   clear hmeet hr5 hU5 hPA5 hC5 HAK hfw hq1 hq2 hr2
   unfold PZ.cells at hx5
   simp only [PZ.cells]
   go_upto_region 5 with fail
   rw [←hx5,←hP]
   clear hx5 hP
   have a1:=hA1.out
   have a2:=hA2.out
   have a3:=hA3.out
   obtain ⟨m1,m2,m3,m4,m5,m6,m7,m8⟩:=HM.out
   obtain ⟨d0,d1,d2,d3,d4,d5,d6,d7,d8,d9,d10,d11,d12⟩:=HR5.out.all
   unfold askA at m4
   have m4q:p.hasQ=true→p.path++63::p.query=askU v:=fun e=>by rw [←m4,if_pos e]
   have m4n:p.hasQ=false→p.path=askU v:=fun e=>by rw [←m4,e];simp
   rw [m5] at m4q m4n
   clear m4
   have h1:(v.scheme==v.scheme)=true:=by simp
   have h2:(askU v==askU v)=true:=by simp
   have h3:(v.frag==v.frag)=true:=by simp
   generalize hbx:(v.user++v.pass).isEmpty=bx at*
   rw [m1] at d1
   rw [m2] at d5
   rw [m3] at d0
   rw [m8] at d3
   rw [m5] at d10
   rw [m6] at d12
   rw [m7] at d11
   obtain ⟨u0,u1,u2,u3,u4,u5,u6,u7,u8,u9,-⟩:=HU5.out.all
   rw [HVV.out] at u3
   have HK:Hid (∀x,Below x5.heap.size x5 x→x.cell? ⟨P,3,none⟩=some (.bool (!bx))∧x.cell? ⟨P,10,none⟩=some (.bool v.hasQ)∧x.cell? ⟨P,11,none⟩=some (.string ⟨v.frag.toArray⟩)∧x.cell? ⟨P,12,none⟩=some (.bool v.hasF)∧x.cell? ⟨ga,1,none⟩=some (.string ⟨v.user.toArray⟩)∧x.cell? ⟨ga,2,none⟩=some (.string ⟨v.pass.toArray⟩)∧x.cell? ⟨ga,7,none⟩=some (.bool v.hasQ)∧x.cell? ⟨ga,8,none⟩=some (.string ⟨v.frag.toArray⟩)∧x.cell? ⟨ga,9,none⟩=some (.bool v.hasF)):=fun x hb=>by
    obtain ⟨-,-,-,e3,-,-,-,-,-,-,e10,e11,e12⟩:=(HR5.out.below hb).all
    obtain ⟨-,f1,f2,-,-,-,-,f7,f8,f9,-⟩:=(HU5.out.below hb).all
    rw [m8] at e3
    rw [m5] at e10
    rw [m7] at e11
    rw [m6] at e12
    exact ⟨e3,e10,e11,e12,f1,f2,f7,f8,f9⟩
   have HAY:=yiN HAX.out
   simp only [UZ.cells] at HAY
   rw [HVV.out] at HAY
   clear HM hA1 hA2 hA3 HAX m1 m2 m3 m5 m6 m7 m8
   generalize askU v=ak at*
   generalize p.path++63::p.query=pq at*
   generalize 63::p.query=pq0 at*
   generalize v.user++v.pass=ux at*
   generalize v.hasQ=q at*
   generalize v.hasF=qf at*
   cases q
   all_goals
    go_wp2_with fail
    refine HAY.out.mono ?_
    rintro e y ⟨rfl,hy⟩
    obtain ⟨e3,e10,e11,e12,f1,f2,f7,f8,f9⟩:=HK.out y hy
    have hBy:=yiN (zaO HC5.out hy)
    clear hy HAY HK HC5 HR5 HU5 d0 d1 d2 d3 d4 d5 d6 d7 d8 d9 d10 d11 d12 u0 u1 u2 u3 u4 u5 u6 u7 u8 u9
    cases qf<;>cases bx
    all_goals
     go_wp2
     go_ret
     exact ⟨rfl,hBy.out⟩
  ·have hd0:Below w.heap.size w (x4.alloc (.cells p.cells 24)):=by rw [←hx5];exact hC5
   have HD:=yiN hd0
   unfold PZ.cells at HD
   clear hd0 hx5 hP hmeet hr5 hU5 hPA5 hC5 HAK HC5
   simp only [PZ.cells]
   by_cases hl:1000<l.length
   ·go_wp2
    go_ret
    exact ⟨rfl,HD.out⟩
   ·have hl:l.length≤1000:=Nat.not_lt.1 hl
    by_cases he:er=0
    ·have hf:(f !=0)=true:=bne_iff_ne.2 (fun g=>hE ⟨hl,he,g⟩)
     subst he
     clear hE
     go_wp2
     go_ret
     exact ⟨rfl,HD.out⟩
    ·have hf:(er !=0)=true:=bne_iff_ne.2 he
     clear hE he
     go_wp2
     go_ret
     exact ⟨rfl,HD.out⟩
end
end Go.Proofs.YtppgdppmheiocaaGreatDoor
