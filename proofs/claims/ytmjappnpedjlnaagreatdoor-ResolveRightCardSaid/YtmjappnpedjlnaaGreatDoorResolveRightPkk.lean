/-
  What the law ResolveRight leans on, and its walk (36 of 42).
-/
import Derived.Test.YtmjappnpedjlnaaGreatDoorResolveRightPkg
import Derived.Test.YtmjappnpedjlnaaGreatDoorResolveRightPkj
namespace Go.Proofs.YtmjappnpedjlnaaGreatDoor
set_option maxRecDepth 100000
set_option maxHeartbeats 16000000
section
open Go.RowKit
theorem ztB (l:List UInt8):Lib.lastIndexByte ⟨l.toArray⟩ 47+1=((zfJ l:Nat):Int):=by
 have h:=znS l l.length
 have e:Lib.lastIndexByte ⟨l.toArray⟩ 47+1=zmN l l.length:=by
  unfold zmN Lib.lastIndexByte
  rw [zaF]
 unfold zfJ
 omega
theorem zpO {b p:List UInt8} {r:Bool} (h:(b.isEmpty&&r)=true):zcY b r p=47::p:=by unfold zcY;rw [if_pos h]
theorem zpH {b p:List UInt8} {r:Bool} (h:(b.isEmpty&&r)=false):zcY b r p=b.take (zfJ b)++p:=by unfold zcY;rw [if_neg (by rw [h];decide)]
theorem one47 (p:List UInt8):ByteArray.mk #[47]++ByteArray.mk p.toArray=⟨(47::p).toArray⟩:=cat2 [47] p
theorem zlT (b p:List UInt8) (r:Bool) (w:World) (hb:b.length≤1000000) (hp:p.length≤1000000):
  Calls Tryz.prog 112 #[.string ⟨b.toArray⟩,.bool r,.string ⟨p.toArray⟩] w fun e w'=>e= .returned (.string ⟨(zcY b r p).toArray⟩)∧w=w':=by
 have hz:=zaF b
 have hzp:=zaF p
 have hle:=zwQ b
 have htl:(b.take (zfJ b)).length≤1000000:=by rw [List.length_take];omega
 have hz2:=zaF (b.take (zfJ b))
 have HLI:Hid (∀W,Calls Tryz.prog 149 #[.string ⟨b.toArray⟩,.int .u8 47] W fun e w'=>e= .returned (.int .i64 (Lib.lastIndexByte ⟨b.toArray⟩ 47))∧W=w'):=fun W=>(Tryz.strings_LastIndexByte ⟨b.toArray⟩ 47 (by omega) W).mono (fun e w' h=>⟨h.1,h.2.symm⟩)
 have hw1:=ztB b
 have hs:=zjI b (zfJ b) hle
 have hz1:(ByteArray.mk #[47]).size=1:=rfl
 have hi:=IntWalk.i64_in ((zfJ b:Nat):Int) (by omega)
 cases hc:(b.isEmpty&&r) with
 |true=>
  have HF:=Lib.hid (zpO (p:=p) hc)
  rw [Bool.and_eq_true] at hc
  obtain ⟨h1,rfl⟩:=hc
  have hb0:b=[]:=List.isEmpty_iff.1 h1
  subst hb0
  clear HLI hw1 hs hle htl hz2 hi
  go_enter Tryz.func112,Tryz.ntmps112
  go_wp2
  go_ret
  exact ⟨by rw [HF.out];exact congrArg (fun s=>Ending.returned (.string s)) (one47 p),rfl⟩
 |false=>
  have HF:=Lib.hid (zpH (p:=p) hc)
  generalize Lib.lastIndexByte ⟨b.toArray⟩ 47=z at*
  generalize zfJ b=n at*
  generalize b.take n=q at*
  cases b with
  |nil=>
   have hr:r=false:=by simpa using hc
   subst hr
   clear hc
   go_enter Tryz.func112,Tryz.ntmps112
   go_wp2_with fail
   refine (HLI.out _).mono ?_
   rintro e w' ⟨rfl,rfl⟩
   go_wp2
   go_ret
   exact ⟨by rw [HF.out];exact congrArg (fun s=>Ending.returned (.string s)) (cat2 q p),rfl⟩
  |cons c l=>
   have hE:(c::l).isEmpty=false:=rfl
   have hE2:(c::l==[])=false:=rfl
   clear hc
   generalize c::l=b at*
   go_enter Tryz.func112,Tryz.ntmps112
   go_wp2_with fail
   refine (HLI.out _).mono ?_
   rintro e w' ⟨rfl,rfl⟩
   go_wp2
   go_ret
   exact ⟨by rw [HF.out];exact congrArg (fun s=>Ending.returned (.string s)) (cat2 q p),rfl⟩
end
end Go.Proofs.YtmjappnpedjlnaaGreatDoor
