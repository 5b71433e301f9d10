/-
  What the law DotsGo leans on, and its walk (31 of 33).
-/
import Derived.Test.YtppgdppmheiocaaGreatDoorDotsGoPkb
import Derived.Test.YtppgdppmheiocaaGreatDoorDotsGoPke
import Derived.Test.YtppgdppmheiocaaGreatDoorDotsGoPkT
namespace Go.Proofs.YtppgdppmheiocaaGreatDoor
set_option maxRecDepth 100000
set_option maxHeartbeats 16000000
abbrev zlF := @Lib.hid
section
open Go.RowKit
theorem zgF (l:List UInt8):Lib.lastIndexByte ⟨l.toArray⟩ 47+1=((zaN l:Nat):Int):=by
 have h:=zbP l l.length
 have e:Lib.lastIndexByte ⟨l.toArray⟩ 47+1=zaO l l.length:=by
  unfold zaO Lib.lastIndexByte
  rw [zaE]
 unfold zaN
 omega
theorem zjT {l:List UInt8} {k:Nat} (h:k<l.length) (e:l[k]=47):zaO l (k+1)=((k+1:Nat):Int):=by
 unfold zaO
 rw [Lib.lastIdx_hit]
 ·omega
 ·rw [show (ByteArray.mk l.toArray).data=l.toArray from rfl,getElem!_pos l.toArray k (by simpa using h)]
  simp [e]
theorem zgI {l:List UInt8} {k:Nat} (h:k<l.length) (e:l[k]≠47):zaO l (k+1)=zaO l k:=by
 unfold zaO
 rw [Lib.lastIdx_miss]
 rw [show (ByteArray.mk l.toArray).data=l.toArray from rfl,getElem!_pos l.toArray k (by simpa using h)]
 simp only [List.getElem_toArray]
 intro q
 exact e (UInt8.toNat_inj.1 (by show l[k].toNat=47;omega))
theorem zcN {b p:List UInt8} {r:Bool} (h:(b.isEmpty&&r)=true):zbW b r p=47::p:=by unfold zbW;rw [if_pos h]
theorem zcD {b p:List UInt8} {r:Bool} (h:(b.isEmpty&&r)=false):zbW b r p=b.take (zaN b)++p:=by unfold zbW;rw [if_neg (by rw [h];decide)]
theorem one47 (p:List UInt8):ByteArray.mk #[47]++ByteArray.mk p.toArray=⟨(47::p).toArray⟩:=cat2 [47] p
theorem zeB (b p:List UInt8) (r:Bool) (w:World) (hb:b.length≤1000000) (hp:p.length≤1000000):
  Calls Tryz.prog 28 #[.string ⟨b.toArray⟩,.bool r,.string ⟨p.toArray⟩] w fun e w'=>e= .returned (.string ⟨(zbW b r p).toArray⟩)∧w=w':=by
 have hz:=zaE b
 have hzp:=zaE p
 have hle:=zfG b
 have htl:(b.take (zaN b)).length≤1000000:=by rw [List.length_take];omega
 have hz2:=zaE (b.take (zaN b))
 have HLI:Hid (∀W,Calls Tryz.prog 63 #[.string ⟨b.toArray⟩,.int .u8 47] W fun e w'=>e= .returned (.int .i64 (Lib.lastIndexByte ⟨b.toArray⟩ 47))∧W=w'):=fun W=>(Tryz.strings_LastIndexByte ⟨b.toArray⟩ 47 (by omega) W).mono (fun e w' h=>⟨h.1,h.2.symm⟩)
 have hw1:=zgF b
 have hs:=zdH b (zaN b) hle
 have hz1:(ByteArray.mk #[47]).size=1:=rfl
 have hi:=IntWalk.i64_in ((zaN b:Nat):Int) (by omega)
 cases hc:(b.isEmpty&&r) with
 |true=>
  have HF:=zlF (zcN (p:=p) hc)
  rw [Bool.and_eq_true] at hc
  obtain ⟨h1,rfl⟩:=hc
  have hb0:b=[]:=List.isEmpty_iff.1 h1
  subst hb0
  clear HLI hw1 hs hle htl hz2 hi
  go_enter Tryz.func28,Tryz.ntmps28
  go_wp2
  go_ret
  exact ⟨by rw [HF.out];exact congrArg (fun s=>Ending.returned (.string s)) (one47 p),rfl⟩
 |false=>
  have HF:=zlF (zcD (p:=p) hc)
  generalize Lib.lastIndexByte ⟨b.toArray⟩ 47=z at*
  generalize zaN b=n at*
  generalize b.take n=q at*
  cases b with
  |nil=>
   have hr:r=false:=by simpa using hc
   subst hr
   clear hc
   go_enter Tryz.func28,Tryz.ntmps28
   go_wp2_with fail
   refine (HLI.out _).mono ?_
   rintro e w' ⟨rfl,rfl⟩
   go_wp2
   go_ret
   exact ⟨by rw [HF.out];exact congrArg (fun s=>Ending.returned (.string s)) (cat2 q p),rfl⟩
  |cons c l=>
   have hE:(c::l).isEmpty=false:=rfl
   have hE2:(c::l==[])=false:=rfl
   clear hc
   generalize c::l=b at*
   go_enter Tryz.func28,Tryz.ntmps28
   go_wp2_with fail
   refine (HLI.out _).mono ?_
   rintro e w' ⟨rfl,rfl⟩
   go_wp2
   go_ret
   exact ⟨by rw [HF.out];exact congrArg (fun s=>Ending.returned (.string s)) (cat2 q p),rfl⟩
theorem zcC (b p:List UInt8) (r:Bool) (w:World) (hb:b.length≤1000000) (hp:p.length≤1000000):
  Calls Tryz.prog 29 #[.string ⟨b.toArray⟩,.bool r,.string ⟨p.toArray⟩] w fun e w'=>e= .returned (.string ⟨(zbW b r p).toArray⟩)∧w=w':=by
 have hz:=zaE b
 have hzp:=zaE p
 have hz1:(ByteArray.mk #[47]).size=1:=rfl
 cases hc:(b.isEmpty&&r) with
 |true=>
  have HF:=zlF (zcN (p:=p) hc)
  rw [Bool.and_eq_true] at hc
  obtain ⟨h1,rfl⟩:=hc
  have hb0:b=[]:=List.isEmpty_iff.1 h1
  subst hb0
  go_enter Tryz.func29,Tryz.ntmps29
  go_wp2
  go_ret
  exact ⟨by rw [HF.out];exact congrArg (fun s=>Ending.returned (.string s)) (one47 p),rfl⟩
 |false=>
  have HF:=zlF (zcD (p:=p) hc)
  have hle:=zfG b
  have hcase:(b.isEmpty=true∧(b==[])=true∧r=false)∨(b.isEmpty=false∧(b==[])=false):=by
   cases b with
   |nil=>exact .inl ⟨rfl,rfl,by simpa using hc⟩
   |cons c l=>exact .inr ⟨rfl,rfl⟩
  have HZ:=zlF (zbP b)
  have HFN:Hid (zaO b b.length=((zaN b:Nat):Int)):=by show _=_;have:=zbP b b.length;unfold zaN;omega
  have HT:=zlF (zdH b)
  have HIT:Hid (∀k (h:k<b.length),b[k]=47→zaO b (k+1)=((k+1:Nat):Int)):=fun k h e=>zjT h e
  have HMI:Hid (∀k (h:k<b.length),b[k]≠47→zaO b (k+1)=zaO b k):=fun k h e=>zgI h e
  have HN47:Hid (∀j (h:j<b.length),(ByteArray.mk b.toArray)[j]'(by rw [zaE];exact h)=b[j]):=fun j h=>rfl
  have h0z:Hid (zaO b 0=0):=rfl
  clear hc
  rcases hcase with ⟨hE,hE2,rfl⟩|⟨hE,hE2⟩
  ·go_enter Tryz.func29,Tryz.ntmps29
   go_wp2
   go_loop [7,8] (fun n i=> ∃(k:Nat),k≤b.length∧i= .int .i64 k∧n= .int .i64 (zaO b k)) (fun _ i=>b.length - (intOf i).toNat)
   case atStart=>exact ⟨0,Nat.zero_le _,rfl,by rw [h0z.out]⟩
   case round=>
    obtain ⟨k,hk,rfl,rfl⟩:=hrel
    by_cases hkl:k<b.length
    ·by_cases h47:b[k]=47
     ·have hb1:((ByteArray.mk b.toArray)[k]'(by rw [zaE];exact hkl)).toNat=47:=by rw [HN47.out k hkl,h47];rfl
      have HG:=zlF (HIT.out k hkl h47)
      clear HT HIT HMI HN47 h47 HZ
      generalize zaO b k=z at*
      go_wp2
      exact ⟨⟨k+1,by omega,by go_num,by rw [HG.out];go_num⟩,by simp [intOf];omega⟩
     ·obtain ⟨m,hm⟩: ∃m,((ByteArray.mk b.toArray)[k]'(by rw [zaE];exact hkl)).toNat=m:=⟨_,rfl⟩
      have hb2:((m:Int)==47)=false:=beq_eq_false_iff_ne.2 (fun e=>h47 (by rw [←HN47.out k hkl];exact UInt8.toNat_inj.1 (by rw [hm];show m=47;omega)))
      have HG:=zlF (HMI.out k hkl h47)
      clear HT HIT HMI HN47 h47 HZ
      generalize zaO b k=z at*
      go_wp2
      exact ⟨⟨k+1,by omega,by go_num,by rw [HG.out]⟩,by simp [intOf];omega⟩
    ·have hkb:k=b.length:=by omega
     subst hkb
     have hs:=HT.out (zaN b) hle
     have hz2:=zaE (b.take (zaN b))
     have htl:(b.take (zaN b)).length≤1000000:=by rw [List.length_take];omega
     rw [HFN.out]
     generalize b.take (zaN b)=q at*
     generalize zaN b=n at*
     clear HT HIT HMI HN47 HZ
     go_wp2
     go_ret
     exact ⟨by rw [HF.out];exact congrArg (fun s=>Ending.returned (.string s)) (cat2 q p),rfl⟩
  ·go_enter Tryz.func29,Tryz.ntmps29
   go_wp2
   go_loop [7,8] (fun n i=> ∃(k:Nat),k≤b.length∧i= .int .i64 k∧n= .int .i64 (zaO b k)) (fun _ i=>b.length - (intOf i).toNat)
   case atStart=>exact ⟨0,Nat.zero_le _,rfl,by rw [h0z.out]⟩
   case round=>
    obtain ⟨k,hk,rfl,rfl⟩:=hrel
    by_cases hkl:k<b.length
    ·by_cases h47:b[k]=47
     ·have hb1:((ByteArray.mk b.toArray)[k]'(by rw [zaE];exact hkl)).toNat=47:=by rw [HN47.out k hkl,h47];rfl
      have HG:=zlF (HIT.out k hkl h47)
      clear HT HIT HMI HN47 h47 HZ
      generalize zaO b k=z at*
      go_wp2
      exact ⟨⟨k+1,by omega,by go_num,by rw [HG.out];go_num⟩,by simp [intOf];omega⟩
     ·obtain ⟨m,hm⟩: ∃m,((ByteArray.mk b.toArray)[k]'(by rw [zaE];exact hkl)).toNat=m:=⟨_,rfl⟩
      have hb2:((m:Int)==47)=false:=beq_eq_false_iff_ne.2 (fun e=>h47 (by rw [←HN47.out k hkl];exact UInt8.toNat_inj.1 (by rw [hm];show m=47;omega)))
      have HG:=zlF (HMI.out k hkl h47)
      clear HT HIT HMI HN47 h47 HZ
      generalize zaO b k=z at*
      go_wp2
      exact ⟨⟨k+1,by omega,by go_num,by rw [HG.out]⟩,by simp [intOf];omega⟩
    ·have hkb:k=b.length:=by omega
     subst hkb
     have hs:=HT.out (zaN b) hle
     have hz2:=zaE (b.take (zaN b))
     have htl:(b.take (zaN b)).length≤1000000:=by rw [List.length_take];omega
     rw [HFN.out]
     generalize b.take (zaN b)=q at*
     generalize zaN b=n at*
     clear HT HIT HMI HN47 HZ
     go_wp2
     go_ret
     exact ⟨by rw [HF.out];exact congrArg (fun s=>Ending.returned (.string s)) (cat2 q p),rfl⟩
theorem zdY (l:List UInt8) (w:World) (hs:l.length≤1073741824) (hmax:MaxVar w):
  Calls Tryz.prog 30 #[.string ⟨l.toArray⟩,.string ⟨#[47]⟩] w fun e w'=>e= .returned (.slice (some ⟨w.heap.size,0,none⟩) (splitB (hasB [47]) l).length (splitB (hasB [47]) l).length)∧w'=w.alloc (.cells (zbD (splitB (hasB [47]) l)).toArray 9):=by
 obtain ⟨m,hm⟩:=hmax
 have h:=Tryz.strings_Split ⟨l.toArray⟩ ⟨#[47]⟩ m w (by rw [zaE];omega) hm (by decide)
 have e1:(Lib.splitB ⟨#[47]⟩ 0 (Lib.countB ⟨l.toArray⟩ ⟨#[47]⟩) ⟨l.toArray⟩).map (·.data.toList)=splitB (hasB [47]) l:=by
  rw [Lib.splitB_data]
  exact zjW 47 _ _ (Nat.le_refl _)
 have e2:=congrArg List.length e1
 rw [List.length_map,Lib.splitB_all ⟨#[47]⟩ (by decide) 0 _ _ rfl] at e2
 rw [zgG e1,e2] at h
 exact h
theorem zjJ (w:World) (ps:List (List UInt8)):Seen (w.alloc (.cells (zbD ps).toArray 9)) w.heap.size ps:=by
 refine ⟨by simp,fun j hj=> ?_⟩
 rw [cell_of_row _ w.heap.size j _ _ _ (heap_alloc_new w _)]
 simp [zbD,strC,List.getD,List.getElem?_eq_getElem hj]
theorem zdC (l:List UInt8) (w:World) (hs:l.length≤1073741824) (hmax:MaxVar w):
  Calls Tryz.prog 30 #[.string ⟨l.toArray⟩,.string ⟨#[47]⟩] w (zfZ w (splitB (hasB [47]) l)):=by
 refine (zdY l w hs hmax).mono ?_
 rintro e w' ⟨rfl,rfl⟩
 exact ⟨w.heap.size,_,rfl,Nat.le_refl _,zjJ w _,(Below.refl _ _).alloc (Nat.le_refl _) _⟩
theorem zbT (l:List UInt8) (w:World) (hs:l.length≤1073741824):
  Calls Tryz.prog 62 #[.string ⟨l.toArray⟩,.string ⟨#[47]⟩] w (zfZ w (splitB (hasB [47]) l)):=by
 have h:=zdT ⟨l.toArray⟩ ⟨#[47]⟩ w (by rw [zaE];omega) (by decide)
 rw [zkE l,show (ByteArray.mk #[47]).data.toList=[47] from rfl] at h
 refine h.mono ?_
 rintro e w' ⟨v,rfl,hp,hb⟩
 rcases hp.cases with ⟨e,_⟩|⟨g,c,rfl,hc,_,hs⟩
 ·exact absurd e (zfS _ _)
 ·exact ⟨g,c,rfl,hc,hs,hb⟩
theorem zcO (ps:List (List UInt8)) (k:Nat) (h:k<ps.length):zaT (ps.take (k+1))=zaT (ps.take k)+if (ps.getD k []).isEmpty then 0 else 1:=by
 unfold zaT
 rw [List.take_succ_eq_append_getElem h,List.countP_append,List.countP_singleton]
 rw [show ps.getD k []=ps[k] by simp [List.getD,List.getElem?_eq_getElem h]]
 cases ps[k].isEmpty<;>rfl
theorem zfB (ps:List (List UInt8)):zaT ps≤ps.length:=List.countP_le_length
def zfI (w:World) (n:Nat) (e:Ending) (w':World):Prop:=e= .returned (.int .i64 (n:Int))∧Below w.heap.size w w'
def zbV (p:List UInt8):Nat:=zaT (splitB (hasB [47]) (zaH p))
theorem zeD (p:List UInt8) (w:World) (hl:p.length≤1000000) (hmax:MaxVar w):
  Calls Tryz.prog 26 #[.string ⟨p.toArray⟩] w (zfI w (zbV p)):=by
 have hrl:=zbC p
 have HD:Hid (zbV p=zaT (splitB (hasB [47]) (zaH p))):=rfl
 have HX:=zlF hmax
 have HR:=zlF (zbO p w hl)
 have HS:=zlF (fun W (h:MaxVar W)=>zdC (zaH p) W (by omega) h)
 have hsl:=zcE (hasB [47]) (zaH p)
 generalize zaH p=r at*
 generalize splitB (hasB [47]) r=ps at*
 clear hmax
 go_enter Tryz.func26,Tryz.ntmps26
 go_wp2_with fail
 refine HR.out.mono ?_
 rintro e x1 ⟨rfl,hb1⟩
 go_wp2_with fail
 refine (HS.out _ (zaA HX.out hb1)).mono ?_
 rintro e x2 ⟨g,c,rfl,hc,hsn,hb2⟩
 have HSN:=zlF hsn
 have HB:=zlF (zbF hb1 hb2)
 have HDS:=zlF (zcO ps)
 clear hsn hb1 hb2 HX HR HS
 go_wp2
 go_loop [3,10] (fun n i=> ∃(k:Nat),k≤ps.length∧i= .int .i64 k∧n= .int .i64 (zaT (ps.take k):Nat)) (fun _ i=>ps.length - (intOf i).toNat)
 case atStart=>exact ⟨0,Nat.zero_le _,rfl,rfl⟩
 case round=>
  obtain ⟨k,hk,rfl,rfl⟩:=hrel
  by_cases hkl:k<ps.length
  ·have hcell:=HSN.out.2 k hkl
   have hds:=HDS.out k hkl
   have hdl:=zfB (ps.take k)
   rw [List.length_take] at hdl
   generalize ps.getD k []=q at*
   generalize zaT (ps.take k)=d at*
   cases hq:q.isEmpty with
   |true=>
    rw [hq,if_pos rfl] at hds
    have HDD:=zlF hds
    have hq2:(q==[])=true:=by rw [List.isEmpty_iff.1 hq];rfl
    clear HSN HDS hds
    go_wp2
    exact ⟨⟨k+1,by omega,by go_num,by rw [HDD.out];rfl⟩,by simp [intOf];omega⟩
   |false=>
    rw [hq,if_neg (by decide)] at hds
    have HDD:=zlF hds
    have hq2:(q==[])=false:=beq_eq_false_iff_ne.2 (fun e=>by rw [e] at hq;cases hq)
    clear HSN HDS hds
    go_wp2
    exact ⟨⟨k+1,by omega,by go_num,by rw [HDD.out];go_num⟩,by simp [intOf];omega⟩
  ·have HF:Hid (zaT (ps.take k)=zbV p):=by show _=_;rw [HD.out,List.take_of_length_le (by omega)]
   clear HSN HDS
   go_wp2
   go_ret
   exact ⟨(by rw [HF.out];rfl),HB.out⟩
theorem zcB (p:List UInt8) (w:World) (hl:p.length≤1000000):
  Calls Tryz.prog 27 #[.string ⟨p.toArray⟩] w (zfI w (zbV p)):=by
 have hrl:=zbC p
 have HD:Hid (zbV p=zaT (splitB (hasB [47]) (zaH p))):=rfl
 have HR:=zlF (zaZ p w hl)
 have HS:=zlF (fun W=>zbT (zaH p) W (by omega))
 have hsl:=zcE (hasB [47]) (zaH p)
 generalize zaH p=r at*
 generalize splitB (hasB [47]) r=ps at*
 go_enter Tryz.func27,Tryz.ntmps27
 go_wp2_with fail
 refine HR.out.mono ?_
 rintro e x1 ⟨rfl,hb1⟩
 go_wp2_with fail
 refine (HS.out _).mono ?_
 rintro e x2 ⟨g,c,rfl,hc,hsn,hb2⟩
 have HSN:=zlF hsn
 have HB:=zlF (zbF hb1 hb2)
 have HDS:=zlF (zcO ps)
 clear hsn hb1 hb2 HR HS
 go_wp2
 go_loop [3,10] (fun n i=> ∃(k:Nat),k≤ps.length∧i= .int .i64 k∧n= .int .i64 (zaT (ps.take k):Nat)) (fun _ i=>ps.length - (intOf i).toNat)
 case atStart=>exact ⟨0,Nat.zero_le _,rfl,rfl⟩
 case round=>
  obtain ⟨k,hk,rfl,rfl⟩:=hrel
  by_cases hkl:k<ps.length
  ·have hcell:=HSN.out.2 k hkl
   have hds:=HDS.out k hkl
   have hdl:=zfB (ps.take k)
   rw [List.length_take] at hdl
   generalize ps.getD k []=q at*
   generalize zaT (ps.take k)=d at*
   cases hq:q.isEmpty with
   |true=>
    rw [hq,if_pos rfl] at hds
    have HDD:=zlF hds
    have hq2:(q==[])=true:=by rw [List.isEmpty_iff.1 hq];rfl
    clear HSN HDS hds
    go_wp2
    exact ⟨⟨k+1,by omega,by go_num,by rw [HDD.out];rfl⟩,by simp [intOf];omega⟩
   |false=>
    rw [hq,if_neg (by decide)] at hds
    have HDD:=zlF hds
    have hq2:(q==[])=false:=beq_eq_false_iff_ne.2 (fun e=>by rw [e] at hq;cases hq)
    clear HSN HDS hds
    go_wp2
    exact ⟨⟨k+1,by omega,by go_num,by rw [HDD.out];go_num⟩,by simp [intOf];omega⟩
  ·have HF:Hid (zaT (ps.take k)=zbV p):=by show _=_;rw [HD.out,List.take_of_length_le (by omega)]
   clear HSN HDS
   go_wp2
   go_ret
   exact ⟨(by rw [HF.out];rfl),HB.out⟩
/-! ### steps -/
end
end Go.Proofs.YtppgdppmheiocaaGreatDoor
