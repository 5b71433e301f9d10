/-
  What the law ResolveRight leans on, and its walk (24 of 42).
-/
import Derived.Shelf.Abstract
import Derived.Test.YtmjappnpedjlnaaGreatDoorResolveRightPkV
import Derived.Test.YtmjappnpedjlnaaGreatDoorResolveRightPkG
import Derived.Test.YtmjappnpedjlnaaGreatDoorResolveRightPkW
namespace Go.Proofs.YtmjappnpedjlnaaGreatDoor
set_option maxRecDepth 100000
set_option maxHeartbeats 16000000
section
open Go.RowKit
theorem zjI (l:List UInt8) (n:Nat) (h:n≤l.length): ∀W,(Instr.slice 9 (.string ⟨l.toArray⟩) none (some (.int .i64 (n:Int))) none).run Tryz.prog W= .ok (.string ⟨(l.take n).toArray⟩) W:=fun W=>by
 have hz:(ByteArray.mk l.toArray).size=l.length:=by simp [ByteArray.size]
 rw [run_slice_string_to_if W 9 _ .i64 _ Tryz.underlying9,if_pos (by rw [hz];omega)]
 have:(ByteArray.mk l.toArray).extract 0 n=⟨(l.take n).toArray⟩:=by
  apply ByteArray.ext;simp
 simp [this]
theorem zdP (l:List UInt8) (n:Nat) (h:n≤l.length): ∀W,(Instr.slice 9 (.string ⟨l.toArray⟩) (some (.int .i64 (n:Int))) none none).run Tryz.prog W= .ok (.string ⟨(l.drop n).toArray⟩) W:=fun W=>by
 have hz:(ByteArray.mk l.toArray).size=l.length:=by simp [ByteArray.size]
 rw [zhW W 9 _ (n:Int) n rfl (by rw [hz];exact h) Tryz.underlying9]
 have:(ByteArray.mk l.toArray).extract n (ByteArray.mk l.toArray).size=⟨(l.drop n).toArray⟩:=by
  apply ByteArray.ext;rw [hz];simp [List.take_of_length_le]
 rw [this]
theorem zgW (l:List UInt8) (k:Nat) (h:k<l.length): ∀W,(Instr.slice 9 (.string ⟨l.toArray⟩) (some (.int .i64 ((k:Int)+1))) none none).run Tryz.prog W= .ok (.string ⟨(l.drop (k+1)).toArray⟩) W:=zdP l (k+1) h
def hd1 (of_:List UInt8):List UInt8→Bool
 |[]=>false
 |c::_=>hasB of_ c
def zgL (of_:List UInt8) (r:Nat):Bool:=decide (r<128)&&hasB of_ (UInt8.ofNat r)
theorem zlM {of_:List UInt8} {r:Nat} (h:r<128):decide (0≤Lib.indexByte of_ (r:Int).toNat.toUInt8)=zgL of_ r:=by
 unfold zgL
 rw [decide_eq_true h,Bool.true_and]
 show decide (0≤Lib.indexByte of_ (UInt8.ofNat r))=_
 cases e:hasB of_ (UInt8.ofNat r) with
 |true=>rw [decide_eq_true ((zcO _ _).1 e)]
 |false=>rw [(zcO _ _).2 e];rfl
theorem znM {of_:List UInt8} (h: ∀c∈of_,c.toNat<128):Asc ⟨of_.toArray⟩:=fun k hk=>h _ (by
 have e:(ByteArray.mk of_.toArray)[k]=of_[k]'(by simpa [ByteArray.size] using hk):=rfl
 rw [e];exact List.getElem_mem _)
theorem zdW (of_:List UInt8) (h: ∀c∈of_,c.toNat<128) (r:Nat) (hv:isB (r:Int)=true) (w:World):
  Calls Tryz.prog 71 #[.string ⟨of_.toArray⟩,.int .i32 (r:Int)] w (zbJ w (zgL of_ r)):=by
 by_cases hr:r<128
 ·refine (Tryz.strings_ContainsRune_ascii _ _ w (by omega) (by omega)).mono ?_
  rintro e w' ⟨rfl,rfl⟩
  exact zaE (zlM (of_:=of_) hr).symm (Below.refl _ _)
 ·have HF:Hid (zgL of_ r=false):=by show _=_;unfold zgL;rw [decide_eq_false hr];rfl
  have HI:=Lib.hid (zeZ ⟨of_.toArray⟩ (znM h) (r:Int) w (by omega) hv)
  clear hr hv
  generalize (r:Int)=rr at*
  go_enter Tryz.func71,Tryz.ntmps71
  go_wp2_with fail
  refine HI.out.mono ?_
  rintro e w1 ⟨rfl,hb1⟩
  go_wp2
  go_ret
  exact zaE HF.out hb1
end
end Go.Proofs.YtmjappnpedjlnaaGreatDoor
