/-
  What the law DotsGo leans on, and its walk (32 of 33).
-/
import Derived.Deep.RegionHeld3
import Derived.Test.YtppgdppmheiocaaGreatDoorDotsGoPkK
import Derived.Test.YtppgdppmheiocaaGreatDoorDotsGoPkf
namespace Go.Proofs.YtppgdppmheiocaaGreatDoor
set_option maxRecDepth 100000
set_option maxHeartbeats 16000000
section
open Go.RowKit
theorem dotsGo_walk (a0:ByteArray) (a1:ByteArray) (a2:Bool) (_w0:a0.size≤maxLen) (_w1:a1.size≤maxLen) (w:World) (hpow:PowTab w) (hbru:BruTab w) (hmax:MaxVar w):
  Calls Tryz.prog 7 #[.string a0,.string a1,.bool a2] w fun e w'=>e= .returned (.bool true)∧Below w.heap.size w w':=by
 obtain ⟨l,rfl⟩: ∃l:List UInt8,a0=⟨l.toArray⟩:=⟨a0.data.toList,by simp⟩
 obtain ⟨b,rfl⟩: ∃l:List UInt8,a1=⟨l.toArray⟩:=⟨a1.data.toList,by simp⟩
 have hz:=zaE l
 have hzb:=zaE b
 have HTM:=Lib.hid hmax
 have HA:=Lib.hid (aw16 w hpow hbru hmax)
 clear hpow hbru hmax
 by_cases hbig:1000<l.length
 ·go_enter Tryz.func7,Tryz.ntmps7
  go_wp2_with fail
  refine HA.out.mono ?_
  rintro e x1 ⟨rfl,hx1⟩
  go_wp2
  go_ret
  exact ⟨rfl,hx1⟩
 by_cases hbig2:1000<b.length
 ·go_enter Tryz.func7,Tryz.ntmps7
  go_wp2_with fail
  refine HA.out.mono ?_
  rintro e x1 ⟨rfl,hx1⟩
  go_wp2
  go_ret
  exact ⟨rfl,hx1⟩
 have HR1:=Lib.hid (fun W=>zbO l W (by omega))
 have HR2:=Lib.hid (fun W=>zaZ l W (by omega))
 have HD1:=Lib.hid (fun W (h:MaxVar W)=>zeD l W (by omega) h)
 have HD2:=Lib.hid (fun W=>zcB l W (by omega))
 have HM1:=Lib.hid (fun W=>zeB b l a2 W (by omega) (by omega))
 have HM2:=Lib.hid (fun W=>zcC b l a2 W (by omega) (by omega))
 generalize zaH l=r at*
 generalize zbW b a2 l=m at*
 generalize zbV l=d at*
 have e1:(r==r)=true:=by simp
 have e2:(m==m)=true:=by simp
 have e3:((d:Int)==(d:Int))=true:=by simp
 go_enter Tryz.func7,Tryz.ntmps7
 go_wp2_with fail
 refine HA.out.mono ?_
 rintro e x1 ⟨rfl,hx1⟩
 go_wp2_with fail
 refine (HR1.out _).mono ?_
 rintro e x2 ⟨rfl,hx2⟩
 have hb2:=zbF hx1 hx2
 clear hx1 hx2
 go_wp2_with fail
 refine (HR2.out _).mono ?_
 rintro e x3 ⟨rfl,hx3⟩
 have hb3:=zbF hb2 hx3
 clear hb2 hx3
 go_wp2_with fail
 refine (HD1.out _ (zaA HTM.out hb3)).mono ?_
 rintro e x4 ⟨rfl,hx4⟩
 have hb4:=zbF hb3 hx4
 clear hb3 hx4
 go_wp2_with fail
 refine (HD2.out _).mono ?_
 rintro e x5 ⟨rfl,hx5⟩
 have hb5:=zbF hb4 hx5
 clear hb4 hx5
 go_wp2_with fail
 refine (HM1.out _).mono ?_
 rintro e x6 ⟨rfl,rfl⟩
 go_wp2_with fail
 refine (HM2.out _).mono ?_
 rintro e x7 ⟨rfl,rfl⟩
 go_wp2
 go_ret
 exact ⟨rfl,hb5⟩
end
end Go.Proofs.YtppgdppmheiocaaGreatDoor
