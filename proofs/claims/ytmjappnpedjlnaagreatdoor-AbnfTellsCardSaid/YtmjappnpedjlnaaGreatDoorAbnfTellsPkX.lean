/-
  What the law AbnfTells leans on, and its walk (23 of 27).
-/
import Derived.Shelf.Abstract
import Derived.Test.YtmjappnpedjlnaaGreatDoorAbnfTellsPkU
import Derived.Test.YtmjappnpedjlnaaGreatDoorAbnfTellsPkG
import Derived.Test.YtmjappnpedjlnaaGreatDoorAbnfTellsPkV
namespace Go.Proofs.YtmjappnpedjlnaaGreatDoor
set_option maxRecDepth 100000
set_option maxHeartbeats 16000000
section
open Go.RowKit
theorem zfA (l:List UInt8) (n:Nat) (h:n≤l.length): ∀W,(Instr.slice 9 (.string ⟨l.toArray⟩) none (some (.int .i64 (n:Int))) none).run Tryz.prog W= .ok (.string ⟨(l.take n).toArray⟩) W:=fun W=>by
 have hz:(ByteArray.mk l.toArray).size=l.length:=by simp [ByteArray.size]
 rw [run_slice_string_to_if W 9 _ .i64 _ Tryz.underlying9,if_pos (by rw [hz];omega)]
 have:(ByteArray.mk l.toArray).extract 0 n=⟨(l.take n).toArray⟩:=by
  apply ByteArray.ext;simp
 simp [this]
theorem zfW (l:List UInt8) (n:Nat) (h:n≤l.length): ∀W,(Instr.slice 9 (.string ⟨l.toArray⟩) (some (.int .i64 (n:Int))) none none).run Tryz.prog W= .ok (.string ⟨(l.drop n).toArray⟩) W:=fun W=>by
 have hz:(ByteArray.mk l.toArray).size=l.length:=by simp [ByteArray.size]
 rw [ziS W 9 _ (n:Int) n rfl (by rw [hz];exact h) Tryz.underlying9]
 have:(ByteArray.mk l.toArray).extract n (ByteArray.mk l.toArray).size=⟨(l.drop n).toArray⟩:=by
  apply ByteArray.ext;rw [hz];simp [List.take_of_length_le]
 rw [this]
theorem zbZ (l:List UInt8) (k:Nat) (h:k<l.length): ∀W,(Instr.slice 9 (.string ⟨l.toArray⟩) (some (.int .i64 ((k:Int)+1))) none none).run Tryz.prog W= .ok (.string ⟨(l.drop (k+1)).toArray⟩) W:=zfW l (k+1) h
def zhW (of_:List UInt8) (r:Nat):Bool:=decide (r<128)&&hasB of_ (UInt8.ofNat r)
theorem zmF {of_:List UInt8} {r:Nat} (h:r<128):decide (0≤Lib.indexByte of_ (r:Int).toNat.toUInt8)=zhW of_ r:=by
 unfold zhW
 rw [decide_eq_true h,Bool.true_and]
 show decide (0≤Lib.indexByte of_ (UInt8.ofNat r))=_
 cases e:hasB of_ (UInt8.ofNat r) with
 |true=>rw [decide_eq_true ((zdC _ _).1 e)]
 |false=>rw [(zdC _ _).2 e];rfl
theorem zoC {of_:List UInt8} (h: ∀c∈of_,c.toNat<128):Asc ⟨of_.toArray⟩:=fun k hk=>h _ (by
 have e:(ByteArray.mk of_.toArray)[k]=of_[k]'(by simpa [ByteArray.size] using hk):=rfl
 rw [e];exact List.getElem_mem _)
theorem zeH (of_:List UInt8) (h: ∀c∈of_,c.toNat<128) (r:Nat) (hv:isB (r:Int)=true) (w:World):
  Calls Tryz.prog 71 #[.string ⟨of_.toArray⟩,.int .i32 (r:Int)] w (zbH w (zhW of_ r)):=by
 by_cases hr:r<128
 ·refine (Tryz.strings_ContainsRune_ascii _ _ w (by omega) (by omega)).mono ?_
  rintro e w' ⟨rfl,rfl⟩
  exact zaF (zmF (of_:=of_) hr).symm (Below.refl _ _)
 ·have HF:Hid (zhW of_ r=false):=by show _=_;unfold zhW;rw [decide_eq_false hr];rfl
  have HI:=Lib.hid (zfJ ⟨of_.toArray⟩ (zoC h) (r:Int) w (by omega) hv)
  clear hr hv
  generalize (r:Int)=rr at*
  go_enter Tryz.func71,Tryz.ntmps71
  go_wp2_with fail
  refine HI.out.mono ?_
  rintro e w1 ⟨rfl,hb1⟩
  go_wp2
  go_ret
  exact zaF HF.out hb1
end
end Go.Proofs.YtmjappnpedjlnaaGreatDoor
