/-
  What the law ResolveParts leans on, and its walk (36 of 42).
-/
import Derived.Test.YtmjappnpedjlnaaGreatDoorResolvePartsPkg
import Derived.Test.YtmjappnpedjlnaaGreatDoorResolvePartsPkj
namespace Go.Proofs.YtmjappnpedjlnaaGreatDoor
set_option maxRecDepth 100000
set_option maxHeartbeats 16000000
abbrev zlU := @Lib.hid
section
open Go.RowKit
theorem ziA (l:List UInt8):Lib.lastIndexByte ⟨l.toArray⟩ 47+1=((zbD l:Nat):Int):=by
 have h:=zcK l l.length
 have e:Lib.lastIndexByte ⟨l.toArray⟩ 47+1=zbE l l.length:=by
  unfold zbE Lib.lastIndexByte
  rw [zaF]
 unfold zbD
 omega
theorem zkG {l:List UInt8} {k:Nat} (h:k<l.length) (e:l[k]=47):zbE l (k+1)=((k+1:Nat):Int):=by
 unfold zbE
 rw [Lib.lastIdx_hit]
 ·omega
 ·rw [show (ByteArray.mk l.toArray).data=l.toArray from rfl,getElem!_pos l.toArray k (by simpa using h)]
  simp [e]
theorem zhA {l:List UInt8} {k:Nat} (h:k<l.length) (e:l[k]≠47):zbE l (k+1)=zbE l k:=by
 unfold zbE
 rw [Lib.lastIdx_miss]
 rw [show (ByteArray.mk l.toArray).data=l.toArray from rfl,getElem!_pos l.toArray k (by simpa using h)]
 simp only [List.getElem_toArray]
 intro q
 exact e (UInt8.toNat_inj.1 (by show l[k].toNat=47;omega))
theorem zdC {b p:List UInt8} {r:Bool} (h:(b.isEmpty&&r)=true):zaM b r p=47::p:=by unfold zaM;rw [if_pos h]
theorem zdB {b p:List UInt8} {r:Bool} (h:(b.isEmpty&&r)=false):zaM b r p=b.take (zbD b)++p:=by unfold zaM;rw [if_neg (by rw [h];decide)]
theorem one47 (p:List UInt8):ByteArray.mk #[47]++ByteArray.mk p.toArray=⟨(47::p).toArray⟩:=cat2 [47] p
theorem zeY (b p:List UInt8) (r:Bool) (w:World) (hb:b.length≤1000000) (hp:p.length≤1000000):
  Calls Tryz.prog 112 #[.string ⟨b.toArray⟩,.bool r,.string ⟨p.toArray⟩] w fun e w'=>e= .returned (.string ⟨(zaM b r p).toArray⟩)∧w=w':=by
 have hz:=zaF b
 have hzp:=zaF p
 have hle:=zfK b
 have htl:(b.take (zbD b)).length≤1000000:=by rw [List.length_take];omega
 have hz2:=zaF (b.take (zbD b))
 have HLI:Hid (∀W,Calls Tryz.prog 149 #[.string ⟨b.toArray⟩,.int .u8 47] W fun e w'=>e= .returned (.int .i64 (Lib.lastIndexByte ⟨b.toArray⟩ 47))∧W=w'):=fun W=>(Tryz.strings_LastIndexByte ⟨b.toArray⟩ 47 (by omega) W).mono (fun e w' h=>⟨h.1,h.2.symm⟩)
 have hw1:=ziA b
 have hs:=zdT b (zbD b) hle
 have hz1:(ByteArray.mk #[47]).size=1:=rfl
 have hi:=IntWalk.i64_in ((zbD b:Nat):Int) (by omega)
 cases hc:(b.isEmpty&&r) with
 |true=>
  have HF:=zlU (zdC (p:=p) hc)
  rw [Bool.and_eq_true] at hc
  obtain ⟨h1,rfl⟩:=hc
  have hb0:b=[]:=List.isEmpty_iff.1 h1
  subst hb0
  clear HLI hw1 hs hle htl hz2 hi
  go_enter Tryz.func112,Tryz.ntmps112
  go_wp2
  go_ret
  exact ⟨by rw [HF.out];exact congrArg (fun s=>Ending.returned (.string s)) (one47 p),rfl⟩
 |false=>
  have HF:=zlU (zdB (p:=p) hc)
  generalize Lib.lastIndexByte ⟨b.toArray⟩ 47=z at*
  generalize zbD b=n at*
  generalize b.take n=q at*
  cases b with
  |nil=>
   have hr:r=false:=by simpa using hc
   subst hr
   clear hc
   go_enter Tryz.func112,Tryz.ntmps112
   go_wp2_with fail
   refine (HLI.out _).mono ?_
   rintro e w' ⟨rfl,rfl⟩
   go_wp2
   go_ret
   exact ⟨by rw [HF.out];exact congrArg (fun s=>Ending.returned (.string s)) (cat2 q p),rfl⟩
  |cons c l=>
   have hE:(c::l).isEmpty=false:=rfl
   have hE2:(c::l==[])=false:=rfl
   clear hc
   generalize c::l=b at*
   go_enter Tryz.func112,Tryz.ntmps112
   go_wp2_with fail
   refine (HLI.out _).mono ?_
   rintro e w' ⟨rfl,rfl⟩
   go_wp2
   go_ret
   exact ⟨by rw [HF.out];exact congrArg (fun s=>Ending.returned (.string s)) (cat2 q p),rfl⟩
theorem zaR (b p:List UInt8) (r:Bool) (w:World) (hb:b.length≤1000000) (hp:p.length≤1000000):
  Calls Tryz.prog 62 #[.string ⟨b.toArray⟩,.bool r,.string ⟨p.toArray⟩] w fun e w'=>e= .returned (.string ⟨(zaM b r p).toArray⟩)∧w=w':=by
 have hz:=zaF b
 have hzp:=zaF p
 have hz1:(ByteArray.mk #[47]).size=1:=rfl
 cases hc:(b.isEmpty&&r) with
 |true=>
  have HF:=zlU (zdC (p:=p) hc)
  rw [Bool.and_eq_true] at hc
  obtain ⟨h1,rfl⟩:=hc
  have hb0:b=[]:=List.isEmpty_iff.1 h1
  subst hb0
  go_enter Tryz.func62,Tryz.ntmps62
  go_wp2
  go_ret
  exact ⟨by rw [HF.out];exact congrArg (fun s=>Ending.returned (.string s)) (one47 p),rfl⟩
 |false=>
  have HF:=zlU (zdB (p:=p) hc)
  have hle:=zfK b
  have hcase:(b.isEmpty=true∧(b==[])=true∧r=false)∨(b.isEmpty=false∧(b==[])=false):=by
   cases b with
   |nil=>exact .inl ⟨rfl,rfl,by simpa using hc⟩
   |cons c l=>exact .inr ⟨rfl,rfl⟩
  have HZ:=zlU (zcK b)
  have HFN:Hid (zbE b b.length=((zbD b:Nat):Int)):=by show _=_;have:=zcK b b.length;unfold zbD;omega
  have HT:=zlU (zdT b)
  have HIT:Hid (∀k (h:k<b.length),b[k]=47→zbE b (k+1)=((k+1:Nat):Int)):=fun k h e=>zkG h e
  have HMI:Hid (∀k (h:k<b.length),b[k]≠47→zbE b (k+1)=zbE b k):=fun k h e=>zhA h e
  have HN47:Hid (∀j (h:j<b.length),(ByteArray.mk b.toArray)[j]'(by rw [zaF];exact h)=b[j]):=fun j h=>rfl
  have h0z:Hid (zbE b 0=0):=rfl
  clear hc
  rcases hcase with ⟨hE,hE2,rfl⟩|⟨hE,hE2⟩
  ·go_enter Tryz.func62,Tryz.ntmps62
   go_wp2
   go_loop [7,8] (fun n i=> ∃(k:Nat),k≤b.length∧i= .int .i64 k∧n= .int .i64 (zbE b k)) (fun _ i=>b.length - (intOf i).toNat)
   case atStart=>exact ⟨0,Nat.zero_le _,rfl,by rw [h0z.out]⟩
   case round=>
    obtain ⟨k,hk,rfl,rfl⟩:=hrel
    by_cases hkl:k<b.length
    ·by_cases h47:b[k]=47
     ·have hb1:((ByteArray.mk b.toArray)[k]'(by rw [zaF];exact hkl)).toNat=47:=by rw [HN47.out k hkl,h47];rfl
      have HG:=zlU (HIT.out k hkl h47)
      clear HT HIT HMI HN47 h47 HZ
      generalize zbE b k=z at*
      go_wp2
      exact ⟨⟨k+1,by omega,by go_num,by rw [HG.out];go_num⟩,by simp [intOf];omega⟩
     ·obtain ⟨m,hm⟩: ∃m,((ByteArray.mk b.toArray)[k]'(by rw [zaF];exact hkl)).toNat=m:=⟨_,rfl⟩
      have hb2:((m:Int)==47)=false:=beq_eq_false_iff_ne.2 (fun e=>h47 (by rw [←HN47.out k hkl];exact UInt8.toNat_inj.1 (by rw [hm];show m=47;omega)))
      have HG:=zlU (HMI.out k hkl h47)
      clear HT HIT HMI HN47 h47 HZ
      generalize zbE b k=z at*
      go_wp2
      exact ⟨⟨k+1,by omega,by go_num,by rw [HG.out]⟩,by simp [intOf];omega⟩
    ·have hkb:k=b.length:=by omega
     subst hkb
     have hs:=HT.out (zbD b) hle
     have hz2:=zaF (b.take (zbD b))
     have htl:(b.take (zbD b)).length≤1000000:=by rw [List.length_take];omega
     rw [HFN.out]
     generalize b.take (zbD b)=q at*
     generalize zbD b=n at*
     clear HT HIT HMI HN47 HZ
     go_wp2
     go_ret
     exact ⟨by rw [HF.out];exact congrArg (fun s=>Ending.returned (.string s)) (cat2 q p),rfl⟩
  ·go_enter Tryz.func62,Tryz.ntmps62
   go_wp2
   go_loop [7,8] (fun n i=> ∃(k:Nat),k≤b.length∧i= .int .i64 k∧n= .int .i64 (zbE b k)) (fun _ i=>b.length - (intOf i).toNat)
   case atStart=>exact ⟨0,Nat.zero_le _,rfl,by rw [h0z.out]⟩
   case round=>
    obtain ⟨k,hk,rfl,rfl⟩:=hrel
    by_cases hkl:k<b.length
    ·by_cases h47:b[k]=47
     ·have hb1:((ByteArray.mk b.toArray)[k]'(by rw [zaF];exact hkl)).toNat=47:=by rw [HN47.out k hkl,h47];rfl
      have HG:=zlU (HIT.out k hkl h47)
      clear HT HIT HMI HN47 h47 HZ
      generalize zbE b k=z at*
      go_wp2
      exact ⟨⟨k+1,by omega,by go_num,by rw [HG.out];go_num⟩,by simp [intOf];omega⟩
     ·obtain ⟨m,hm⟩: ∃m,((ByteArray.mk b.toArray)[k]'(by rw [zaF];exact hkl)).toNat=m:=⟨_,rfl⟩
      have hb2:((m:Int)==47)=false:=beq_eq_false_iff_ne.2 (fun e=>h47 (by rw [←HN47.out k hkl];exact UInt8.toNat_inj.1 (by rw [hm];show m=47;omega)))
      have HG:=zlU (HMI.out k hkl h47)
      clear HT HIT HMI HN47 h47 HZ
      generalize zbE b k=z at*
      go_wp2
      exact ⟨⟨k+1,by omega,by go_num,by rw [HG.out]⟩,by simp [intOf];omega⟩
    ·have hkb:k=b.length:=by omega
     subst hkb
     have hs:=HT.out (zbD b) hle
     have hz2:=zaF (b.take (zbD b))
     have htl:(b.take (zbD b)).length≤1000000:=by rw [List.length_take];omega
     rw [HFN.out]
     generalize b.take (zbD b)=q at*
     generalize zbD b=n at*
     clear HT HIT HMI HN47 HZ
     go_wp2
     go_ret
     exact ⟨by rw [HF.out];exact congrArg (fun s=>Ending.returned (.string s)) (cat2 q p),rfl⟩
end
end Go.Proofs.YtmjappnpedjlnaaGreatDoor
