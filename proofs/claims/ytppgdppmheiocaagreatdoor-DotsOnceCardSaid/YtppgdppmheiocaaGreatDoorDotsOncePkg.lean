/-
  What the law DotsOnce leans on, and its walk (32 of 33).
-/
import Derived.Deep.RegionHeld3
import Derived.Test.YtppgdppmheiocaaGreatDoorDotsOncePkK
import Derived.Test.YtppgdppmheiocaaGreatDoorDotsOncePkf
namespace Go.Proofs.YtppgdppmheiocaaGreatDoor
set_option maxRecDepth 100000
set_option maxHeartbeats 16000000
abbrev zkL := @Lib.hid
section
open Go.RowKit
theorem zfO (l:List UInt8): ∀s∈splitB (hasB [47]) (zaE l),(s==[46])=false∧(s==[46,46])=false:=fun s hs=>by
 rw [zgI] at hs
 have:=zdG l s hs
 exact ⟨beq_eq_false_iff_ne.2 this.1,beq_eq_false_iff_ne.2 this.2⟩
theorem zfE (l:List UInt8):Lib.hasPrefix l [47]=false∨(Lib.hasPrefix l [47]=true∧Lib.hasPrefix (zaE l) [47]=true):=by
 cases h:Lib.hasPrefix l [47] with
 |false=>exact .inl rfl
 |true=>
  obtain ⟨r,rfl⟩:=zbP.1 h
  obtain ⟨m,hm⟩:=zdE r
  exact .inr ⟨rfl,zbP.2 ⟨m,hm⟩⟩
theorem zcG (l p:List UInt8) (W:World):Calls Tryz.prog 31 #[.string ⟨l.toArray⟩,.string ⟨p.toArray⟩] W fun e w'=>e= .returned (.bool (Lib.hasPrefix l p))∧W=w':=
 (Tryz.strings_HasPrefix ⟨l.toArray⟩ ⟨p.toArray⟩ W).mono (fun _ _ h=>⟨h.1,h.2.symm⟩)
theorem dotsOnce_walk (a0:ByteArray) (_w0:a0.size≤maxLen) (w:World) (hpow:PowTab w) (hbru:BruTab w) (hmax:MaxVar w):
  Calls Tryz.prog 8 #[.string a0] w fun e w'=>e= .returned (.bool true)∧Below w.heap.size w w':=by
 obtain ⟨l,rfl⟩: ∃l:List UInt8,a0=⟨l.toArray⟩:=⟨a0.data.toList,by simp⟩
 have hz:=zcQ l
 have HTM:=zkL hmax
 have HA:=zkL (aw16 w hpow hbru hmax)
 clear hpow hbru hmax
 by_cases hbig:1000<l.length
 ·go_enter Tryz.func8,Tryz.ntmps8
  go_wp2_with fail
  refine HA.out.mono ?_
  rintro e x1 ⟨rfl,hx1⟩
  go_wp2
  go_ret
  exact ⟨rfl,hx1⟩
 have hrl:=zbL l
 have hon:=zdX l
 have HR1:=zkL (fun W=>zaY l W (by omega))
 have HR2:=zkL (fun W=>zaY (zaE l) W (by omega))
 rw [hon] at HR2
 have HSP:=zkL (fun W (h:MaxVar W)=>zbO (zaE l) W (by omega) h)
 have HND:=zkL (zfO l)
 have HSL:=zfE l
 have HH1:=zkL (zcG l [47])
 have HH2:=zkL (zcG (zaE l) [47])
 have hdd:zbT (zaE l)=zbT l:=by unfold zbT;rw [hon]
 have HD1:=zkL (fun W (h:MaxVar W)=>zcA (zaE l) W (by omega) h)
 have HD2:=zkL (fun W (h:MaxVar W)=>zcA l W (by omega) h)
 rw [hdd] at HD1
 have hzr:=zcQ (zaE l)
 have hsl:=zcB (hasB [47]) (zaE l)
 clear hdd hon
 generalize zaE l=r at*
 generalize splitB (hasB [47]) r=ps at*
 generalize zbT l=d at*
 generalize Lib.hasPrefix l [47]=h1 at*
 generalize Lib.hasPrefix r [47]=h2 at*
 have e1:(r==r)=true:=by simp
 have e3:((d:Int)==(d:Int))=true:=by simp
 have e4:decide ((r.length:Int)≤(l.length:Int))=true:=decide_eq_true (by omega)
 go_enter Tryz.func8,Tryz.ntmps8
 go_wp2_with fail
 refine HA.out.mono ?_
 rintro e x1 ⟨rfl,hx1⟩
 go_wp2_with fail
 refine (HR1.out _).mono ?_
 rintro e x2 ⟨rfl,hx2⟩
 have hb2:=zaT hx1 hx2
 clear hx1 hx2
 go_wp2_with fail
 refine (HSP.out _ (zaA HTM.out hb2)).mono ?_
 rintro e x3 ⟨g,c,rfl,hc,hsn,hx3⟩
 have HB3:=zkL (zaT hb2 hx3)
 have HSN:=zkL hsn
 clear hb2 hx3 hsn HSP HR1
 go_wp2
 go_loop [16] (fun i=> ∃(k:Nat),k≤ps.length∧i= .int .i64 k) (fun i=>ps.length - (intOf i).toNat)
 case atStart=>exact ⟨0,Nat.zero_le _,rfl⟩
 case round=>
  obtain ⟨k,hk,rfl⟩:=hrel
  by_cases hkl:k<ps.length
  ·have hcell:=HSN.out.2 k hkl
   obtain ⟨n1,n2⟩:=HND.out (ps.getD k []) (by simp only [List.getD,List.getElem?_eq_getElem hkl,Option.getD_some];exact List.getElem_mem hkl)
   generalize ps.getD k []=q at*
   clear HSN HND HR2 HH1 HH2 HD1 HD2
   go_wp2
   exact ⟨⟨k+1,by omega,by go_num⟩,by simp [intOf];omega⟩
  ·clear HSN HND
   go_wp2_with fail
   refine (HR2.out _).mono ?_
   rintro e x4 ⟨rfl,hx4⟩
   have hb4:=zaT HB3.out hx4
   clear hx4
   go_wp2_with fail
   refine (HH1.out _).mono ?_
   rintro e x5 ⟨rfl,rfl⟩
   rcases HSL with rfl|⟨rfl,rfl⟩
   ·go_wp2_with fail
    refine (HD1.out _ (zaA HTM.out hb4)).mono ?_
    rintro e x6 ⟨rfl,hx6⟩
    have hb6:=zaT hb4 hx6
    clear hb4 hx6
    go_wp2_with fail
    refine (HD2.out _ (zaA HTM.out hb6)).mono ?_
    rintro e x7 ⟨rfl,hx7⟩
    have hb7:=zaT hb6 hx7
    clear hb6 hx7
    go_wp2
    go_ret
    exact ⟨rfl,hb7⟩
   ·go_wp2_with fail
    refine (HH2.out _).mono ?_
    rintro e x5 ⟨rfl,rfl⟩
    go_wp2_with fail
    refine (HD1.out _ (zaA HTM.out hb4)).mono ?_
    rintro e x6 ⟨rfl,hx6⟩
    have hb6:=zaT hb4 hx6
    clear hb4 hx6
    go_wp2_with fail
    refine (HD2.out _ (zaA HTM.out hb6)).mono ?_
    rintro e x7 ⟨rfl,hx7⟩
    have hb7:=zaT hb6 hx7
    clear hb6 hx7
    go_wp2
    go_ret
    exact ⟨rfl,hb7⟩
end
end Go.Proofs.YtppgdppmheiocaaGreatDoor
