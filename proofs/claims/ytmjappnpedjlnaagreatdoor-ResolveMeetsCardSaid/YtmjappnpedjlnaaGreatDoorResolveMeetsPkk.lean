/-
  What the law ResolveMeets leans on, and its walk (36 of 46).
-/
import Derived.Test.YtmjappnpedjlnaaGreatDoorResolveMeetsPkg
import Derived.Test.YtmjappnpedjlnaaGreatDoorResolveMeetsPkj
import Derived.Test.YtmjappnpedjlnaaGreatDoorResolveMeetsPkV
namespace Go.Proofs.YtmjappnpedjlnaaGreatDoor
set_option maxRecDepth 100000
set_option maxHeartbeats 16000000
section
open Go.RowKit
theorem zwL (l:List UInt8):Lib.lastIndexByte ⟨l.toArray⟩ 47+1=((ziV l:Nat):Int):=by
 have h:=z2J l l.length
 have e:Lib.lastIndexByte ⟨l.toArray⟩ 47+1=zyC l l.length:=by
  unfold zyC Lib.lastIndexByte
  rw [zaB]
 unfold ziV
 omega
theorem z3H {b p:List UInt8} {r:Bool} (h:(b.isEmpty&&r)=true):zeG b r p=47::p:=by unfold zeG;rw [if_pos h]
theorem z3P {b p:List UInt8} {r:Bool} (h:(b.isEmpty&&r)=false):zeG b r p=b.take (ziV b)++p:=by unfold zeG;rw [if_neg (by rw [h];decide)]
theorem one47 (p:List UInt8):ByteArray.mk #[47]++ByteArray.mk p.toArray=⟨(47::p).toArray⟩:=cat2 [47] p
theorem zzB (b p:List UInt8) (r:Bool) (w:World) (hb:b.length≤1000000) (hp:p.length≤1000000):
  Calls Tryz.prog 112 #[.string ⟨b.toArray⟩,.bool r,.string ⟨p.toArray⟩] w fun e w'=>e= .returned (.string ⟨(zeG b r p).toArray⟩)∧w=w':=by
 have hz:=zaB b
 have hzp:=zaB p
 have hle:=yjC b
 have htl:(b.take (ziV b)).length≤1000000:=by rw [List.length_take];omega
 have hz2:=zaB (b.take (ziV b))
 have HLI:Hid (∀W,Calls Tryz.prog 149 #[.string ⟨b.toArray⟩,.int .u8 47] W fun e w'=>e= .returned (.int .i64 (Lib.lastIndexByte ⟨b.toArray⟩ 47))∧W=w'):=fun W=>(Tryz.strings_LastIndexByte ⟨b.toArray⟩ 47 (by omega) W).mono (fun e w' h=>⟨h.1,h.2.symm⟩)
 have hw1:=zwL b
 have hs:=zjG b (ziV b) hle
 have hz1:(ByteArray.mk #[47]).size=1:=rfl
 have hi:=IntWalk.i64_in ((ziV b:Nat):Int) (by omega)
 cases hc:(b.isEmpty&&r) with
 |true=>
  have HF:=Lib.hid (z3H (p:=p) hc)
  rw [Bool.and_eq_true] at hc
  obtain ⟨h1,rfl⟩:=hc
  have hb0:b=[]:=List.isEmpty_iff.1 h1
  subst hb0
  clear HLI hw1 hs hle htl hz2 hi
  go_enter Tryz.func112,Tryz.ntmps112
  go_wp2
  go_ret
  exact ⟨by rw [HF.out];exact congrArg (fun s=>Ending.returned (.string s)) (one47 p),rfl⟩
 |false=>
  have HF:=Lib.hid (z3P (p:=p) hc)
  generalize Lib.lastIndexByte ⟨b.toArray⟩ 47=z at*
  generalize ziV b=n at*
  generalize b.take n=q at*
  cases b with
  |nil=>
   have hr:r=false:=by simpa using hc
   subst hr
   clear hc
   go_enter Tryz.func112,Tryz.ntmps112
   go_wp2_with fail
   refine (HLI.out _).mono ?_
   rintro e w' ⟨rfl,rfl⟩
   go_wp2
   go_ret
   exact ⟨by rw [HF.out];exact congrArg (fun s=>Ending.returned (.string s)) (cat2 q p),rfl⟩
  |cons c l=>
   have hE:(c::l).isEmpty=false:=rfl
   have hE2:(c::l==[])=false:=rfl
   clear hc
   generalize c::l=b at*
   go_enter Tryz.func112,Tryz.ntmps112
   go_wp2_with fail
   refine (HLI.out _).mono ?_
   rintro e w' ⟨rfl,rfl⟩
   go_wp2
   go_ret
   exact ⟨by rw [HF.out];exact congrArg (fun s=>Ending.returned (.string s)) (cat2 q p),rfl⟩
/-! ### steps -/
theorem zyK: ∀(l:List UInt8) (st:List (List UInt8)×List UInt8),zgS st.2→((l.foldl (zaT (hasB [47])) st).1++[(l.foldl (zaT (hasB [47])) st).2])=st.1++((st.2++(cutD l).1)::(cutD l).2)
 |[],st,_=>by simp [cutD]
 |c::l,st,h=>by
  rw [List.foldl_cons]
  by_cases hc:c=47
  ·subst hc
   have e:zaT (hasB [47]) st 47=(st.1++[st.2],[]):=rfl
   rw [e,zyK l _ (fun _ h=>by cases h)]
   simp [cutD]
  ·have e:zaT (hasB [47]) st c=(st.1,st.2++[c]):=by
    unfold zaT
    rw [if_neg (by simp [hasB,Ne.symm hc])]
   rw [e,zyK l _ (fun d hd=>by
    rcases List.mem_append.1 hd with q|q
    ·exact h d q
    ·rw [List.mem_singleton] at q;rw [q];exact hc)]
   simp [cutD,hc]
theorem zuW (l:List UInt8):zbG (hasB [47]) l=(cutD l).1::(cutD l).2:=by
 have:=zyK l ([],[]) (fun _ h=>by cases h)
 simpa [zbG,spl] using this
theorem zmP (l:List UInt8): ∀s∈zbG (hasB [47]) l,zgS s:=by
 rw [zuW]
 obtain ⟨_,h1,h2⟩:=zrR l
 intro s hs
 rcases List.mem_cons.1 hs with rfl|hs
 ·exact h1
 ·exact h2 s hs
theorem znM (l:List UInt8):zbL (zbG (hasB [47]) l)=47::l:=by
 rw [zuW]
 obtain ⟨h,_,_⟩:=zrR l
 show 47::(cutD l).1++zbL (cutD l).2=_
 rw [List.cons_append,←h]
end
end Go.Proofs.YtmjappnpedjlnaaGreatDoor
