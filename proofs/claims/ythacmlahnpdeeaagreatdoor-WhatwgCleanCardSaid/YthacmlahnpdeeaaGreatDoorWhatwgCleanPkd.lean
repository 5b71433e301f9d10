/-
  What the law WhatwgClean leans on, and its walk (29 of 31).
-/
import Derived.Shelf.GgClosure.StringsTrimFunc
import Derived.Lib.TrimAscii
import Derived.Test.YthacmlahnpdeeaaGreatDoorWhatwgCleanPkb
import Derived.Test.YthacmlahnpdeeaaGreatDoorWhatwgCleanPkJ
import Derived.Test.YthacmlahnpdeeaaGreatDoorWhatwgCleanPkN
namespace Go.Proofs.YthacmlahnpdeeaaGreatDoor
set_option maxRecDepth 100000
set_option maxHeartbeats 16000000
section
open Go.RowKit
def zcF (r:Nat):Bool:=decide (r≤32)
theorem zrX (s:ByteArray) (a b:Nat):(s.extract a b).size=min b s.size - a:=by simp [ByteArray.size_extract]
theorem ycK (s:ByteArray): ∀(f i:Nat),0<i→i≤s.size→Lib.lastIdxFuncFrom zcF false s f i= -1∨(0≤Lib.lastIdxFuncFrom zcF false s f i∧Lib.lastIdxFuncFrom zcF false s f i<i)
 |0,i,_,_=> .inl rfl
 |f+1,i,h0,hi=>by
  have hw:=Lib.decodeLastL_width (s.data.toList.take i) (by rw [List.length_take,zaU];omega)
  unfold Lib.lastIdxFuncFrom
  rw [if_pos h0]
  split
  ·exact .inr ⟨by omega,by omega⟩
  ·by_cases hz:0<i - (Lib.decodeLastL (s.data.toList.take i)).2
   ·rcases ycK s f _ hz (by omega) with h|h
    ·exact .inl h
    ·exact .inr ⟨h.1,by omega⟩
   ·rw [show i - (Lib.decodeLastL (s.data.toList.take i)).2=0 by omega,Lib.lastIdxFuncFrom_zero]
    exact .inl rfl
theorem z9H {l t:List UInt8} {d:UInt8} (h:l=t++[d]): ∃c r,l=c::r:=by
 cases t with
 |nil=>exact ⟨d,[],h⟩
 |cons c r=>exact ⟨c,r++[d],h⟩
theorem z7Y {l:List UInt8} (h:Lib.trimF zcF ⟨l.toArray⟩=⟨l.toArray⟩):zcK l=l:=by
 by_cases hnil:l=[]
 ·rw [hnil];rfl
 obtain ⟨t,d,hl⟩: ∃(t:List UInt8) (d:UInt8),l=List.concat t d:=(List.eq_nil_or_concat l).resolve_left hnil
 rw [List.concat_eq_append] at hl
 obtain ⟨c,r,hc⟩:=z9H hl
 have hz:(ByteArray.mk l.toArray).size=l.length:=zaJ l
 have hlen:l.length=r.length+1:=by rw [hc];rfl
 have h0:0<(ByteArray.mk l.toArray).size:=by omega
 have hb0:(ByteArray.mk l.toArray)[0]=c:=by subst hc;rfl
 obtain ⟨f,hf⟩: ∃f,(ByteArray.mk l.toArray).size=f+1:=⟨r.length,by omega⟩
 have hsz:=congrArg ByteArray.size h
 have hle: ∀x:ByteArray,(Lib.trimRightF zcF x).size≤x.size:=fun x=>by unfold Lib.trimRightF;rw [zrX];omega
 -- ahead
 have hcb:zbN c=false:=by
  cases e:zbN c with
  |false=>rfl
  |true=>
   have hc32:c.toNat≤32:=by simpa [zbN] using e
   have hd:Utf8.decode ⟨l.toArray⟩ 0=(c.toNat,1):=by rw [decode_ascii _ 0 h0 (by rw [hb0];omega),hb0]
   have hi:Lib.idxFunc zcF false ⟨l.toArray⟩=Lib.idxFuncFrom zcF false ⟨l.toArray⟩ f (0+1):=by
    unfold Lib.idxFunc
    rw [hf,Lib.idxFuncFrom,if_pos h0,hd,if_neg (by unfold zcF;rw [decide_eq_true hc32];decide)]
   have hr:=Lib.idxFuncFrom_range zcF false ⟨l.toArray⟩ f (0+1)
   rw [←hi] at hr
   have h1:=hle (Lib.trimLeftF zcF ⟨l.toArray⟩)
   have h2:(Lib.trimLeftF zcF ⟨l.toArray⟩).size<(ByteArray.mk l.toArray).size:=by
    unfold Lib.trimLeftF
    split
    ·show (0:Nat)<_;exact h0
    ·rename_i g
     rw [zrX]
     rcases hr with q|q
     ·exact absurd q g
     ·omega
   have h3:(Lib.trimF zcF ⟨l.toArray⟩).size≤(Lib.trimLeftF zcF ⟨l.toArray⟩).size:=h1
   omega
 -- behind
 have hdb:zbN d=false:=by
  cases e:zbN d with
  |false=>rfl
  |true=>
   have hd32:d.toNat≤32:=by simpa [zbN] using e
   have hi0:Lib.idxFunc zcF false ⟨l.toArray⟩=0:=by
    have hp:zcF (Utf8.decode ⟨l.toArray⟩ 0).1=false:=by
     have hc33: ¬c.toNat≤32:=fun g=>by rw [show zbN c=true from decide_eq_true g] at hcb;cases hcb
     by_cases ha:c.toNat<128
     ·rw [decode_ascii _ 0 h0 (by rw [hb0];exact ha),hb0]
      exact decide_eq_false hc33
     ·have:=(decode_high _ 0 h0 (by rw [hb0];omega)).1
      exact decide_eq_false (by omega)
    unfold Lib.idxFunc
    rw [hf,Lib.idxFuncFrom,if_pos h0,if_pos hp];rfl
   have hL:Lib.trimLeftF zcF ⟨l.toArray⟩=⟨l.toArray⟩:=by
    unfold Lib.trimLeftF
    rw [hi0,if_neg (by decide)]
    apply ByteArray.ext
    rw [show Int.toNat 0=0 from rfl,hz]
    simp [List.take_of_length_le]
   have hT:Lib.trimF zcF ⟨l.toArray⟩=Lib.trimRightF zcF ⟨l.toArray⟩:=by unfold Lib.trimF;rw [hL]
   have hE:(ByteArray.mk l.toArray).size≤Lib.rightEndF zcF ⟨l.toArray⟩:=by
    rw [hT] at hsz
    unfold Lib.trimRightF at hsz
    rw [zrX] at hsz
    omega
   have htl:t.length+1=l.length:=by rw [hl];simp
   have hlast:Lib.lastIdxFunc zcF false ⟨l.toArray⟩=Lib.lastIdxFuncFrom zcF false ⟨l.toArray⟩ f ((ByteArray.mk l.toArray).size - 1):=by
    unfold Lib.lastIdxFunc
    have hdl:Lib.decodeLastL ((ByteArray.mk l.toArray).data.toList.take (f+1))=(d.toNat,1):=by
     rw [zaW,List.take_of_length_le (by omega),hl,Lib.decodeLastL_ascii t d (by omega)]
    rw [hf,Lib.lastIdxFuncFrom,if_pos (by omega),hdl,if_neg (by unfold zcF;rw [decide_eq_true hd32];decide)]
   have hz2:Lib.lastIdxFunc zcF false ⟨l.toArray⟩= -1∨(0≤Lib.lastIdxFunc zcF false ⟨l.toArray⟩∧Lib.lastIdxFunc zcF false ⟨l.toArray⟩<((ByteArray.mk l.toArray).size - 1:Nat)):=by
    rw [hlast]
    by_cases hp:0<(ByteArray.mk l.toArray).size - 1
    ·exact ycK _ f _ hp (by omega)
    ·rw [show (ByteArray.mk l.toArray).size - 1=0 by omega,Lib.lastIdxFuncFrom_zero];exact .inl rfl
   exfalso
   rcases hz2 with g|⟨g1,g2⟩
   ·unfold Lib.rightEndF at hE
    rw [g,if_neg (by decide)] at hE
    omega
   ·obtain ⟨z,hzz⟩: ∃z:Nat,Lib.lastIdxFunc zcF false ⟨l.toArray⟩=z:=⟨_,(Int.toNat_of_nonneg g1).symm⟩
    unfold Lib.rightEndF at hE
    rw [hzz] at hE g2
    rw [if_pos (by omega)] at hE
    have hzl:z<l.length - 1:=by omega
    have hx:(ByteArray.mk l.toArray).extract z (ByteArray.mk l.toArray).size=⟨(l.drop z).toArray⟩:=by
     apply ByteArray.ext
     rw [hz]
     simp [List.take_of_length_le]
    rw [show ((z:Int)).toNat=z from rfl,hx] at hE
    have hs0:0<(ByteArray.mk (l.drop z).toArray).size:=by rw [zaJ,List.length_drop];omega
    have hg:Lib.decodeGoB ⟨(l.drop z).toArray⟩=Utf8.decode ⟨(l.drop z).toArray⟩ 0:=by unfold Lib.decodeGoB;rw [if_neg (by omega)]
    rw [hg] at hE
    by_cases ha:((ByteArray.mk (l.drop z).toArray)[0]).toNat<128
    ·rw [decode_ascii _ 0 hs0 ha] at hE
     simp only at hE
     omega
    ·obtain ⟨x,e1,e2⟩:=zuP ⟨(l.drop z).toArray⟩ 0 hs0 (by omega) (l.length - 1 - z) (by omega)
     rw [zaW,Nat.zero_add,List.getElem?_drop,show z+(l.length - 1 - z)=t.length by omega,hl] at e1
     simp at e1
     subst e1
     omega
 exact zsX hc hl hcb hdb
theorem ygM (n l:List UInt8):(zfH n l).1.host.In:=by
 unfold zfH
 simp only
 split
 ·trivial
 ·split
  ·trivial
  ·split
   ·trivial
   ·show (zeM _ _ _).host.In
    unfold zeM zlF
    rw [(z1W _ _).2.2.2.1,(z2G _ _).2.2.2.1]
    exact yhE _
theorem ybK (t:List UInt8):(zbT t none).1.host.In:=by
 unfold zbT
 split
 ·trivial
 ·unfold zjR
  split
  ·trivial
  ·rename_i h;cases h
  ·split
   ·exact ygM _ _
   ·trivial
  ·rename_i h;cases h
end

end Go.Proofs.YthacmlahnpdeeaaGreatDoor
