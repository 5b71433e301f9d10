/-
  What the law ResolveMeets leans on, and its walk (2 of 46).
-/
import Derived.IntWalk
import Derived.StillTailTactics
import Derived.Deep.RegionHeld3
import Derived.Deep.AppendLies
import Derived.Test.YtmjappnpedjlnaaGreatDoorResolveMeetsPkA
namespace Go.Proofs.YtmjappnpedjlnaaGreatDoor
set_option maxRecDepth 100000
set_option maxHeartbeats 16000000
abbrev yoH := @Lib.hid
abbrev yoI := @Nat.le_refl
abbrev yoJ := @decide_eq_false
abbrev yoK := @decide_eq_true
abbrev yoL := @Go.RowKit.Below.refl
section
section
open Go.RowKit
def hexN (n:Nat):UInt8:=([48,49,50,51,52,53,54,55,56,57,65,66,67,68,69,70]:List UInt8).getD n 0
def pctB (c:UInt8):List UInt8:=[37,hexN (c.toNat/16),hexN (c.toNat % 16)]
theorem ykP (n:Nat) (h:n<(ByteArray.mk #[48,49,50,51,52,53,54,55,56,57,65,66,67,68,69,70]).size):((ByteArray.mk #[48,49,50,51,52,53,54,55,56,57,65,66,67,68,69,70])[n]'h).toNat=(hexN n).toNat:=by
 have key: ∀n:Fin 16,((ByteArray.mk #[48,49,50,51,52,53,54,55,56,57,65,66,67,68,69,70])[n.val]'n.isLt).toNat=(hexN n.val).toNat:=by decide
 exact key ⟨n,h⟩
theorem yiT (c:UInt8) (w:World):
  Calls Tryz.prog 210 #[.int .u8 (c.toNat:Int)] w fun e w'=>e= .returned (.string ⟨(pctB c).toArray⟩)∧Below w.heap.size w w':=by
 obtain ⟨n,hn⟩: ∃n,c.toNat=n:=⟨_,rfl⟩
 have hc:n<256:=by rw [←hn];exact c.toNat_lt
 have hR:pctB c=[37,hexN (n/16),hexN (n % 16)]:=by unfold pctB;rw [hn]
 rw [hn,hR]
 clear hn hR c
 have h1:(0:Int)≤(n:Int)/16:=by omega
 have h2:(n:Int)/16<16:=by omega
 have h3:(0:Int)≤(n:Int) % 16:=by omega
 have h4:(n:Int) % 16<16:=by omega
 have k1:n/16<(ByteArray.mk #[48,49,50,51,52,53,54,55,56,57,65,66,67,68,69,70]).size:=by show n/16<16;omega
 have k2:n % 16<(ByteArray.mk #[48,49,50,51,52,53,54,55,56,57,65,66,67,68,69,70]).size:=by show n % 16<16;omega
 have hcv:=yiG (P:=Tryz.prog) w.drew 119 9 5 [37,(((ByteArray.mk #[48,49,50,51,52,53,54,55,56,57,65,66,67,68,69,70])[n/16]'k1).toNat:Int),(((ByteArray.mk #[48,49,50,51,52,53,54,55,56,57,65,66,67,68,69,70])[n % 16]'k2).toNat:Int)]
  (by
   intro x hx
   simp only [List.mem_cons,List.not_mem_nil,or_false] at hx
   rcases hx with rfl|rfl|rfl
   ·decide
   ·have:=((ByteArray.mk #[48,49,50,51,52,53,54,55,56,57,65,66,67,68,69,70])[n/16]'k1).toNat_lt;omega
   ·have:=((ByteArray.mk #[48,49,50,51,52,53,54,55,56,57,65,66,67,68,69,70])[n % 16]'k2).toNat_lt;omega)
  Tryz.underlying119 Tryz.underlying5 Tryz.underlying9
 have hcv2:(convert 119 9 (.slice (some ⟨w.heap.size,0,none⟩) 3 3)).run Tryz.prog ((w.alloc (.cells #[.int .u8 37,.int .u8 (((ByteArray.mk #[48,49,50,51,52,53,54,55,56,57,65,66,67,68,69,70])[n/16]'k1).toNat:Int),.int .u8 (((ByteArray.mk #[48,49,50,51,52,53,54,55,56,57,65,66,67,68,69,70])[n % 16]'k2).toNat:Int)] 5)).drew)=_:=hcv
 clear hcv
 have hR:zqI [37,(((ByteArray.mk #[48,49,50,51,52,53,54,55,56,57,65,66,67,68,69,70])[n/16]'k1).toNat:Int),(((ByteArray.mk #[48,49,50,51,52,53,54,55,56,57,65,66,67,68,69,70])[n % 16]'k2).toNat:Int)]=[37,hexN (n/16),hexN (n % 16)]:=by
  simp only [zqI,List.map_cons,List.map_nil,ykP _ k1,ykP _ k2,zgZ]
  rfl
 rw [hR] at hcv2
 clear hR
 generalize [37,hexN (n/16),hexN (n % 16)]=R at hcv2 ⊢
 go_enter Tryz.func210,Tryz.ntmps210
 go_wp2
 go_region
 all_goals (go_wp2;go_ret;exact ⟨rfl,((yoL _ _).alloc (yoI _) _).drew⟩)
def setL:Nat→List Int
 |1=>[32,34,60,62,96]
 |2=>[32,34,35,60,62]
 |3=>[32,34,35,60,62,39]
 |4=>[32,34,35,60,62,63,94,96,123,125]
 |5=>[32,34,35,60,62,63,94,96,123,125,47,58,59,61,64,91,92,93,124]
 |_=>[]
def inB (s r:Int):Bool:=decide (0≤s∧s≤5)&&(decide (r≤31∨126<r)||(setL s.toNat).contains r)
theorem ynN {s r:Int} (h:s<0∨5<s):inB s r=false:=by
 unfold inB
 rw [yoJ (by omega)];rfl
theorem ybF {s r:Int} (h0:0≤s) (h1:s≤5) (h:r≤31∨126<r):inB s r=true:=by
 unfold inB
 rw [yoK ⟨h0,h1⟩,yoK h];rfl
theorem zlD {s r:Int} (h0:0≤s) (h1:s≤5) (h2:31<r) (h3:r≤126):inB s r=(setL s.toNat).contains r:=by
 unfold inB
 rw [yoK ⟨h0,h1⟩,yoJ (by omega)];simp
theorem ynO (n:Nat) (h:n<127):decide (0≤Lib.indexByte ([]:List UInt8) n.toUInt8)=(setL 0).contains (n:Int):=by
 have key: ∀n:Fin 127,decide (0≤Lib.indexByte ([]:List UInt8) n.val.toUInt8)=(setL 0).contains (n.val:Int):=by decide+kernel
 exact key ⟨n,h⟩
theorem ymB (r:Int) (w:World) (h2:31<r) (h3:r≤126):
  Calls Tryz.prog 207 #[.int .u8 0,.int .i32 r] w fun e w'=>e= .returned (.bool (inB 0 r))∧w=w':=by
 obtain ⟨n,rfl⟩:=Int.eq_ofNat_of_zero_le (show 0≤r by omega)
 have HB:=yoH ((zlD (s:=0) (by decide) (by decide) h2 h3).trans (ynO n (by omega)).symm)
 go_enter Tryz.func207,Tryz.ntmps207
 go_wp2_with (first|(go_at_call 71;refine (Tryz.strings_ContainsRune_ascii _ _ _ (by omega) (by omega)).mono ?_;rintro e w' ⟨rfl,rfl⟩)|go_in)
 go_ret
 exact ⟨zaX (by rw [HB.out];have d1:decide ((n:Int)≤31)=false:=yoJ (by omega);have d2:decide (126<(n:Int))=false:=yoJ (by omega);simp only [d1,d2,Bool.false_or]),rfl⟩
theorem ynK (n:Nat) (h:n<127):decide (0≤Lib.indexByte ([32,34,60,62,96]:List UInt8) n.toUInt8)=(setL 1).contains (n:Int):=by
 have key: ∀n:Fin 127,decide (0≤Lib.indexByte ([32,34,60,62,96]:List UInt8) n.val.toUInt8)=(setL 1).contains (n.val:Int):=by decide+kernel
 exact key ⟨n,h⟩
theorem ylM (r:Int) (w:World) (h2:31<r) (h3:r≤126):
  Calls Tryz.prog 207 #[.int .u8 1,.int .i32 r] w fun e w'=>e= .returned (.bool (inB 1 r))∧w=w':=by
 obtain ⟨n,rfl⟩:=Int.eq_ofNat_of_zero_le (show 0≤r by omega)
 have HB:=yoH ((zlD (s:=1) (by decide) (by decide) h2 h3).trans (ynK n (by omega)).symm)
 go_enter Tryz.func207,Tryz.ntmps207
 go_wp2_with (first|(go_at_call 71;refine (Tryz.strings_ContainsRune_ascii _ _ _ (by omega) (by omega)).mono ?_;rintro e w' ⟨rfl,rfl⟩)|go_in)
 go_ret
 exact ⟨zaX (by rw [HB.out];have d1:decide ((n:Int)≤31)=false:=yoJ (by omega);have d2:decide (126<(n:Int))=false:=yoJ (by omega);simp only [d1,d2,Bool.false_or]),rfl⟩
theorem ylG (n:Nat) (h:n<127):decide (0≤Lib.indexByte ([32,34,35,60,62]:List UInt8) n.toUInt8)=(setL 2).contains (n:Int):=by
 have key: ∀n:Fin 127,decide (0≤Lib.indexByte ([32,34,35,60,62]:List UInt8) n.val.toUInt8)=(setL 2).contains (n.val:Int):=by decide+kernel
 exact key ⟨n,h⟩
theorem ymX (r:Int) (w:World) (h2:31<r) (h3:r≤126):
  Calls Tryz.prog 207 #[.int .u8 2,.int .i32 r] w fun e w'=>e= .returned (.bool (inB 2 r))∧w=w':=by
 obtain ⟨n,rfl⟩:=Int.eq_ofNat_of_zero_le (show 0≤r by omega)
 have HB:=yoH ((zlD (s:=2) (by decide) (by decide) h2 h3).trans (ylG n (by omega)).symm)
 go_enter Tryz.func207,Tryz.ntmps207
 go_wp2_with (first|(go_at_call 71;refine (Tryz.strings_ContainsRune_ascii _ _ _ (by omega) (by omega)).mono ?_;rintro e w' ⟨rfl,rfl⟩)|go_in)
 go_ret
 exact ⟨zaX (by rw [HB.out];have d1:decide ((n:Int)≤31)=false:=yoJ (by omega);have d2:decide (126<(n:Int))=false:=yoJ (by omega);simp only [d1,d2,Bool.false_or]),rfl⟩
theorem ylT (n:Nat) (h:n<127):decide (0≤Lib.indexByte ([32,34,35,60,62,39]:List UInt8) n.toUInt8)=(setL 3).contains (n:Int):=by
 have key: ∀n:Fin 127,decide (0≤Lib.indexByte ([32,34,35,60,62,39]:List UInt8) n.val.toUInt8)=(setL 3).contains (n.val:Int):=by decide+kernel
 exact key ⟨n,h⟩
theorem ykU (r:Int) (w:World) (h2:31<r) (h3:r≤126):
  Calls Tryz.prog 207 #[.int .u8 3,.int .i32 r] w fun e w'=>e= .returned (.bool (inB 3 r))∧w=w':=by
 obtain ⟨n,rfl⟩:=Int.eq_ofNat_of_zero_le (show 0≤r by omega)
 have HB:=yoH ((zlD (s:=3) (by decide) (by decide) h2 h3).trans (ylT n (by omega)).symm)
 go_enter Tryz.func207,Tryz.ntmps207
 go_wp2_with (first|(go_at_call 71;refine (Tryz.strings_ContainsRune_ascii _ _ _ (by omega) (by omega)).mono ?_;rintro e w' ⟨rfl,rfl⟩)|go_in)
 go_ret
 exact ⟨zaX (by rw [HB.out];have d1:decide ((n:Int)≤31)=false:=yoJ (by omega);have d2:decide (126<(n:Int))=false:=yoJ (by omega);simp only [d1,d2,Bool.false_or]),rfl⟩
theorem ymK (n:Nat) (h:n<127):decide (0≤Lib.indexByte ([32,34,35,60,62,63,94,96,123,125]:List UInt8) n.toUInt8)=(setL 4).contains (n:Int):=by
 have key: ∀n:Fin 127,decide (0≤Lib.indexByte ([32,34,35,60,62,63,94,96,123,125]:List UInt8) n.val.toUInt8)=(setL 4).contains (n.val:Int):=by decide+kernel
 exact key ⟨n,h⟩
theorem ynX (r:Int) (w:World) (h2:31<r) (h3:r≤126):
  Calls Tryz.prog 207 #[.int .u8 4,.int .i32 r] w fun e w'=>e= .returned (.bool (inB 4 r))∧w=w':=by
 obtain ⟨n,rfl⟩:=Int.eq_ofNat_of_zero_le (show 0≤r by omega)
 have HB:=yoH ((zlD (s:=4) (by decide) (by decide) h2 h3).trans (ymK n (by omega)).symm)
 go_enter Tryz.func207,Tryz.ntmps207
 go_wp2_with (first|(go_at_call 71;refine (Tryz.strings_ContainsRune_ascii _ _ _ (by omega) (by omega)).mono ?_;rintro e w' ⟨rfl,rfl⟩)|go_in)
 go_ret
 exact ⟨zaX (by rw [HB.out];have d1:decide ((n:Int)≤31)=false:=yoJ (by omega);have d2:decide (126<(n:Int))=false:=yoJ (by omega);simp only [d1,d2,Bool.false_or]),rfl⟩
theorem ymC (n:Nat) (h:n<127):decide (0≤Lib.indexByte ([32,34,35,60,62,63,94,96,123,125,47,58,59,61,64,91,92,93,124]:List UInt8) n.toUInt8)=(setL 5).contains (n:Int):=by
 have key: ∀n:Fin 127,decide (0≤Lib.indexByte ([32,34,35,60,62,63,94,96,123,125,47,58,59,61,64,91,92,93,124]:List UInt8) n.val.toUInt8)=(setL 5).contains (n.val:Int):=by decide+kernel
 exact key ⟨n,h⟩
theorem ylI (r:Int) (w:World) (h2:31<r) (h3:r≤126):
  Calls Tryz.prog 207 #[.int .u8 5,.int .i32 r] w fun e w'=>e= .returned (.bool (inB 5 r))∧w=w':=by
 obtain ⟨n,rfl⟩:=Int.eq_ofNat_of_zero_le (show 0≤r by omega)
 have HB:=yoH ((zlD (s:=5) (by decide) (by decide) h2 h3).trans (ymC n (by omega)).symm)
 go_enter Tryz.func207,Tryz.ntmps207
 go_wp2_with (first|(go_at_call 71;refine (Tryz.strings_ContainsRune_ascii _ _ _ (by omega) (by omega)).mono ?_;rintro e w' ⟨rfl,rfl⟩)|go_in)
 go_ret
 exact ⟨zaX (by rw [HB.out];have d1:decide ((n:Int)≤31)=false:=yoJ (by omega);have d2:decide (126<(n:Int))=false:=yoJ (by omega);simp only [d1,d2,Bool.false_or]),rfl⟩
theorem in_ctl (s r:Int) (w:World) (h0:0≤s) (h1:s≤5) (h:r≤31∨126<r):
  Calls Tryz.prog 207 #[.int .u8 s,.int .i32 r] w fun e w'=>e= .returned (.bool (inB s r))∧w=w':=by
 have HB:=yoH (ybF h0 h1 h)
 rcases h with h|h
 ·go_enter Tryz.func207,Tryz.ntmps207
  go_wp2
  go_ret
  exact ⟨zaX HB.out.symm,rfl⟩
 ·go_enter Tryz.func207,Tryz.ntmps207
  go_wp2
  go_ret
  exact ⟨zaX HB.out.symm,rfl⟩
theorem in_out (s r:Int) (w:World) (h:5<s):
  Calls Tryz.prog 207 #[.int .u8 s,.int .i32 r] w fun e w'=>e= .returned (.bool (inB s r))∧w=w':=by
 have HB:=yoH (ynN (s:=s) (r:=r) (.inr h))
 go_enter Tryz.func207,Tryz.ntmps207
 go_wp2
 go_ret
 exact ⟨zaX HB.out.symm,rfl⟩
theorem ykO (s r:Int) (w:World) (h0:0≤s):
  Calls Tryz.prog 207 #[.int .u8 s,.int .i32 r] w fun e w'=>e= .returned (.bool (inB s r))∧w=w':=by
 by_cases h5:5<s
 ·exact in_out s r w h5
 ·by_cases hc:r≤31∨126<r
  ·exact in_ctl s r w h0 (by omega) hc
  ·rcases (show s=0∨s=1∨s=2∨s=3∨s=4∨s=5 from by omega) with rfl|rfl|rfl|rfl|rfl|rfl
   ·exact ymB r w (by omega) (by omega)
   ·exact ylM r w (by omega) (by omega)
   ·exact ymX r w (by omega) (by omega)
   ·exact ykU r w (by omega) (by omega)
   ·exact ynX r w (by omega) (by omega)
   ·exact ylI r w (by omega) (by omega)
def zhU:List UInt8→Option UInt8
 |c::a::b::_=>if c.toNat=37∧0≤valZ (a.toNat:Int)∧0≤valZ (b.toNat:Int) then some (UInt8.ofNat ((valZ (a.toNat:Int)*16+valZ (b.toNat:Int)).toNat)) else none
 |_=>none
def decL:Nat→List UInt8→List UInt8
 |0,_=>[]
 |_+1,[]=>[]
 |f+1,c::r=>match zhU (c::r) with
  |some v=>v::decL f (r.drop 2)
  |none=>c::decL f r
def decB (l:List UInt8):List UInt8:=decL l.length l
theorem z6R (r:Int):valZ r<16:=by unfold valZ;(repeat' split)<;>omega
theorem ybM (r:Int): -1≤valZ r:=by unfold valZ;(repeat' split)<;>omega
theorem zcU (s:ByteArray) (k:Nat) (h:k<s.size):s.data.toList.drop k=s[k]::s.data.toList.drop (k+1):=by
 rw [List.drop_eq_getElem_cons (by simpa using h)]
 rfl
theorem zeE (s:ByteArray) (k:Nat) (h: ¬k<s.size):s.data.toList.drop k=[]:=List.drop_eq_nil_of_le (by simpa using h)
theorem z4V (s:ByteArray) (k:Nat) (hk:k+2<s.size) (h37:s[k].toNat=37) (h1:0≤valZ (s[k+1].toNat:Int)) (h2:0≤valZ (s[k+2].toNat:Int)):
  zhU (s.data.toList.drop k)=some (UInt8.ofNat ((valZ (s[k+1].toNat:Int)*16+valZ (s[k+2].toNat:Int)).toNat)):=by
 rw [zcU s k (by omega),zcU s (k+1) (by omega),zcU s (k+2) (by omega)]
 simp only [zhU]
 rw [if_pos ⟨h37,h1,h2⟩]
theorem ztL (s:ByteArray) (k:Nat) (hk:k+2<s.size) (h:s[k].toNat≠37∨valZ (s[k+1].toNat:Int)<0∨valZ (s[k+2].toNat:Int)<0):
  zhU (s.data.toList.drop k)=none:=by
 rw [zcU s k (by omega),zcU s (k+1) (by omega),zcU s (k+2) (by omega)]
 simp only [zhU]
 rw [if_neg (by omega)]
theorem znR (s:ByteArray) (k:Nat) (hk:s.size≤k+2):zhU (s.data.toList.drop k)=none:=by
 by_cases h0:k<s.size
 ·rw [zcU s k h0]
  by_cases h1:k+1<s.size
  ·rw [zcU s (k+1) h1,zeE s (k+2) (by omega)]
   rfl
  ·rw [zeE s (k+1) h1]
   rfl
 ·rw [zeE s k h0]
  rfl
theorem yiF (a b:Int) (h0:0≤a) (h1:a<16) (h2:0≤b) (h3:b<16):bits BinOp.or IntKind.i64 (a*16) b % 256=a*16+b:=by
 have key: ∀a b:Fin 16,bits BinOp.or IntKind.i64 ((a.val:Int)*16) (b.val:Int) % 256=(a.val:Int)*16+(b.val:Int):=by decide+kernel
 have:=key ⟨a.toNat,by omega⟩ ⟨b.toNat,by omega⟩
 simp only [Int.toNat_of_nonneg h0,Int.toNat_of_nonneg h2] at this
 exact this
def zxS (o:Option UInt8) (w:World) (e:Ending) (w':World):Prop:=e= .returned (.tuple #[.int .u8 ((o.getD 0).toNat:Int),.bool o.isSome])∧ ∃n,w'=w.drewN n
theorem zgB {o:Option UInt8} {w:World} {e:Ending} {w':World} (ho:o=none) (he:e= .returned (.tuple #[.int .u8 0,.bool false])) (n:Nat) (hw:w'=w.drewN n):zxS o w e w':=by
 subst ho
 exact ⟨he,n,hw⟩
theorem zvE {o:Option UInt8} {v:UInt8} {x:Int} {w:World} {e:Ending} {w':World} (ho:o=some v) (he:e= .returned (.tuple #[.int .u8 x,.bool true])) (hx:x=(v.toNat:Int)) (n:Nat) (hw:w'=w.drewN n):zxS o w e w':=by
 subst ho hx
 exact ⟨he,n,hw⟩
theorem z3E (x:Int) (h0:0≤x) (h1:x<256):x=((UInt8.ofNat x.toNat).toNat:Int):=by
 have:x.toNat % 256=x.toNat:=Nat.mod_eq_of_lt (by omega)
 simp [this]
 omega
theorem zmY (s:ByteArray) (k:Nat) (w:World) (hs:s.size≤1073741824) (hk:k<s.size):
  Calls Tryz.prog 178 #[.string s,.int .i64 k] w (zxS (zhU (s.data.toList.drop k)) w):=by
 obtain ⟨c0,hc0⟩: ∃c,s[k].toNat=c:=⟨_,rfl⟩
 by_cases h2:k+2<s.size
 ·obtain ⟨c1,hc1⟩: ∃c,s[k+1].toNat=c:=⟨_,rfl⟩
  obtain ⟨c2,hc2⟩: ∃c,s[k+2].toNat=c:=⟨_,rfl⟩
  have l1:c1<256:=by rw [←hc1];exact s[k+1].toNat_lt
  have l2:c2<256:=by rw [←hc2];exact s[k+2].toNat_lt
  by_cases h37:c0=37
  ·subst h37
   obtain ⟨v1,hv1⟩: ∃v,valZ (c1:Int)=v:=⟨_,rfl⟩
   obtain ⟨v2,hv2⟩: ∃v,valZ (c2:Int)=v:=⟨_,rfl⟩
   have b1:v1<16:=by rw [←hv1];exact z6R _
   have b2:v2<16:=by rw [←hv2];exact z6R _
   have b3: -1≤v1:=by rw [←hv1];exact ybM _
   have b4: -1≤v2:=by rw [←hv2];exact ybM _
   have hb37:((37:Int) !=37)=false:=by decide
   by_cases hv:0≤v1∧0≤v2
   ·obtain ⟨b5,b6⟩:=hv
    have HT:=yoH (z4V s k h2 hc0 (by rw [hc1,hv1];exact b5) (by rw [hc2,hv2];exact b6))
    rw [hc1,hc2,hv1,hv2] at HT
    have HO:=yoH (yiF v1 v2 b5 b1 b6 b2)
    have HX:=yoH (z3E (v1*16+v2) (by omega) (by omega))
    have p1:(0:Int)≤(k:Int)+1:=by omega
    have p2:(0:Int)≤(k:Int)+2:=by omega
    have p3:(k:Int)+1<(s.size:Int):=by omega
    have p4:(k:Int)+2<(s.size:Int):=by omega
    have q1:IntKind.i64.wrap ((k:Int)+1)=(k:Int)+1:=IntWalk.i64_in _ (by omega)
    have q2:IntKind.i64.wrap ((k:Int)+2)=(k:Int)+2:=IntWalk.i64_in _ (by omega)
    have r1:((k:Int)+1).toNat=k+1:=by omega
    have r2:((k:Int)+2).toNat=k+2:=by omega
    go_enter Tryz.func178,Tryz.ntmps178
    go_wp2_with fail
    go_quiet ((go_at_call 129;exact Calls.quiet_of_same ((zbW _ _).mono fun _ _ h=>⟨h.1,h.2.symm⟩)))
    clear q1 q2 r1 r2
    go_wp2
    go_ret2
    exact zvE HT.out rfl (HO.out.trans HX.out) nq rfl
   ·have HT:=yoH (ztL s k h2 (by rw [hc1,hc2,hv1,hv2];omega))
    have p1:(0:Int)≤(k:Int)+1:=by omega
    have p2:(0:Int)≤(k:Int)+2:=by omega
    have p3:(k:Int)+1<(s.size:Int):=by omega
    have p4:(k:Int)+2<(s.size:Int):=by omega
    by_cases hv1n:v1<0
    all_goals
     have q1:IntKind.i64.wrap ((k:Int)+1)=(k:Int)+1:=IntWalk.i64_in _ (by omega)
     have q2:IntKind.i64.wrap ((k:Int)+2)=(k:Int)+2:=IntWalk.i64_in _ (by omega)
     have r1:((k:Int)+1).toNat=k+1:=by omega
     have r2:((k:Int)+2).toNat=k+2:=by omega
     go_enter Tryz.func178,Tryz.ntmps178
     go_wp2_with fail
     go_quiet ((go_at_call 129;exact Calls.quiet_of_same ((zbW _ _).mono fun _ _ h=>⟨h.1,h.2.symm⟩)))
     clear q1 q2 r1 r2
     have hv2n:v1<0∨v2<0:=by omega
     go_wp2
     all_goals
      go_ret2
      exact zgB HT.out rfl nq rfl
  ·have HT:=yoH (ztL s k h2 (.inl (by rw [hc0];exact h37)))
   have hb:((c0:Int) !=37)=true:=by rw [bne_iff_ne];omega
   go_enter Tryz.func178,Tryz.ntmps178
   go_wp2
   go_ret2
   exact zgB HT.out rfl 0 rfl
 ·have HT:=yoH (znR s k (by omega))
  by_cases h37:c0=37
  ·subst h37
   go_enter Tryz.func178,Tryz.ntmps178
   go_wp2
   go_ret2
   exact zgB HT.out rfl 0 rfl
  ·have hb:((c0:Int) !=37)=true:=by rw [bne_iff_ne];omega
   go_enter Tryz.func178,Tryz.ntmps178
   go_wp2
   go_ret2
   exact zgB HT.out rfl 0 rfl
theorem yfY (s:ByteArray) (f k:Nat) (h: ¬k<s.size):decL f (s.data.toList.drop k)=[]:=by
 rw [zeE s k h]
 cases f<;>rfl
theorem ybQ (s:ByteArray) (f k:Nat) (v:UInt8) (h:k<s.size) (ht:zhU (s.data.toList.drop k)=some v):decL (f+1) (s.data.toList.drop k)=v::decL f (s.data.toList.drop (k+3)):=by
 rw [zcU s k h] at ht ⊢
 simp only [decL,ht,List.drop_drop]
theorem yeI (s:ByteArray) (f k:Nat) (h:k<s.size) (ht:zhU (s.data.toList.drop k)=none):decL (f+1) (s.data.toList.drop k)=s[k]::decL f (s.data.toList.drop (k+1)):=by
 rw [zcU s k h] at ht ⊢
 simp only [decL,ht]
theorem z4I (s:ByteArray) (k:Nat) (v:UInt8) (h:zhU (s.data.toList.drop k)=some v):k+2<s.size:=by
 by_cases hk:k+2<s.size
 ·exact hk
 ·rw [znR s k (by omega)] at h;cases h
theorem z4D (s:ByteArray) (w:World) (hs:s.size≤1073741824):
  Calls Tryz.prog 127 #[.string s] w fun e w'=>e= .returned (.string ⟨(decB s.data.toList).toArray⟩)∧Below w.heap.size w w':=by
 go_enter Tryz.func127,Tryz.ntmps127
 go_wp2
 go_loopw [4] (fun i wr=> ∃(k fuel:Nat) (T:List UInt8),i= .int .i64 k∧k≤s.size∧Lib.IsBuilderF 121 5 w.heap.size w.heap.size (Lib.byteCells T) wr∧Below w.heap.size w wr∧T.length≤k∧s.size≤k+fuel∧Hid (T++decL fuel (s.data.toList.drop k)=decB s.data.toList)) (fun i _=>s.size - (intOf i).toNat)
 case atStart=>
  refine ⟨0,s.size,[],rfl,Nat.zero_le _,Lib.IsBuilderF.of (Lib.fresh_isBuilder _ _ w),(yoL _ w).alloc (yoI _) _,by simp,by omega,?_⟩
  show []++decL s.size (s.data.toList.drop 0)=decL s.data.toList.length s.data.toList
  rw [zaN];rfl
 case round=>
  obtain ⟨k,fuel,T,rfl,hk,hI,hbw,hTl,hfu,HD⟩:=hrel
  have hsz:=hbw.size
  by_cases hlt:k<s.size
  ·obtain ⟨f,rfl⟩: ∃f,fuel=f+1:=⟨fuel - 1,by omega⟩
   cases hth:zhU (s.data.toList.drop k) with
   |some v=>
    have hroom:=z4I s k v hth
    have hD2:=HD.out
    rw [ybQ s f k v hlt hth] at hD2
    have HD2:=yoH hD2
    have HTH:=yoH hth
    clear hD2 hth
    go_wp2_with fail
    refine (zmY s k _ hs hlt).mono ?_
    rw [HTH.out]
    rintro e w' ⟨rfl,nq,rfl⟩
    have hI2:Lib.IsBuilderF 121 5 w.heap.size w.heap.size (Lib.byteCells T) (wr.drewN nq):=hI
    have hb2:=zcG hbw nq
    have hsz2:w.heap.size≤(wr.drewN nq).heap.size:=hsz
    generalize wr.drewN nq=w2 at*
    go_wp2_with fail
    refine (Tryz.Builder_WriteByte_k w.heap.size w.heap.size _ _ _ hI2 (by rw [Lib.byteCells_length];omega) hsz2).mono ?_
    rintro e w3 ⟨rfl,h3,b3,_⟩
    go_wp2
    go_roundw
    case rel=>
     refine ⟨k+3,f,T++[v],by go_num,by omega,?_,hb2.trans b3,by simp;omega,by omega,?_⟩
     ·rw [zlI T v _ rfl];exact .inr h3
     ·show (T++[v])++_=_
      rw [List.append_assoc];exact HD2.out
    case measure=>simp [intOf];omega
   |none=>
    have hD2:=HD.out
    rw [yeI s f k hlt hth] at hD2
    have HD2:=yoH hD2
    have HTH:=yoH hth
    clear hD2 hth
    go_wp2_with fail
    refine (zmY s k _ hs hlt).mono ?_
    rw [HTH.out]
    rintro e w' ⟨rfl,nq,rfl⟩
    have hI2:Lib.IsBuilderF 121 5 w.heap.size w.heap.size (Lib.byteCells T) (wr.drewN nq):=hI
    have hb2:=zcG hbw nq
    have hsz2:w.heap.size≤(wr.drewN nq).heap.size:=hsz
    generalize wr.drewN nq=w2 at*
    go_wp2_with fail
    refine (Tryz.Builder_WriteByte_k w.heap.size w.heap.size _ _ _ hI2 (by rw [Lib.byteCells_length];omega) hsz2).mono ?_
    rintro e w3 ⟨rfl,h3,b3,_⟩
    go_wp2
    go_roundw
    case rel=>
     refine ⟨k+1,f,T++[s[k]],by go_num,by omega,?_,hb2.trans b3,by simp;omega,by omega,?_⟩
     ·rw [zlI T s[k] _ rfl];exact .inr h3
     ·show (T++[s[k]])++_=_
      rw [List.append_assoc];exact HD2.out
    case measure=>simp [intOf];omega
  ·have hfin:T=decB s.data.toList:=by
    have:=HD.out
    rwa [yfY s fuel k hlt,List.append_nil] at this
   subst hfin
   go_wp2_with fail
   refine (Tryz.Builder_String_any_k w.heap.size w.heap.size _ _ hI (by omega)).mono ?_
   rintro e w1 ⟨rfl,_,b1,_⟩
   go_wp2
   go_ret
   exact ⟨rfl,hbw.trans b1⟩
def pctL (l:List UInt8):List UInt8:=l.flatMap pctB
def encP (s r:Int):List UInt8:=if inB s r=true then pctL (Lib.encodeRune r) else Lib.encodeRune r
def encB (s:Int) (l:List Int):List UInt8:=l.flatMap (encP s)
theorem zsA (l:List UInt8):(pctL l).length=3*l.length:=by
 induction l with
 |nil=>rfl
 |cons c l ih=>simp only [pctL,List.flatMap_cons,List.length_append] at ih ⊢;rw [ih];simp [pctB];omega
theorem z1L (s r:Int):(encP s r).length≤12:=by
 have:=zeS r
 unfold encP
 split
 ·rw [zsA];omega
 ·omega
theorem yaY (l:List UInt8) (k:Nat) (h:k<l.length):pctL (l.take (k+1))=pctL (l.take k)++pctB l[k]:=by
 unfold pctL
 rw [List.take_succ_eq_append_getElem h,List.flatMap_append]
 simp
theorem znN (s r:Int) (l:List Int):encB s (r::l)=encP s r++encB s l:=by simp [encB]
theorem yeH (s:Int) (l:List Int) (k:Nat) (h:k<l.length):encB s (l.take (k+1))=encB s (l.take k)++encP s l[k]:=by
 unfold encB
 rw [List.take_succ_eq_append_getElem h,List.flatMap_append]
 simp
theorem zlV (s:Int) (l:List Int): ∀k,(encB s (l.take k)).length≤12*k
 |0=>by simp [encB]
 |k+1=>by
  have ih:=zlV s l k
  by_cases h:k<l.length
  ·rw [yeH s l k h,List.length_append];have:=z1L s l[k];omega
  ·rw [List.take_of_length_le (by omega)];rw [List.take_of_length_le (by omega)] at ih;omega
theorem zvT {T e:TypeId} {B b:Nat} {bs:List Value} {w w':World} (h:Lib.IsBuilderF T e B b bs w) (hb:Below w.heap.size w w'):Lib.IsBuilderF T e B b bs w':=by
 have key: ∀p,Lib.BuilderAtF T e B b p bs w→Lib.BuilderAtF T e B b p bs w':=by
  intro p hh
  obtain ⟨hB,v,hv,hown,hne⟩:=hh
  refine ⟨hB,v,(hb.block b (Array.getElem?_eq_some_iff.1 hv).1).trans hv,⟨hown.1,?_⟩,hne⟩
  rcases hown.2 with hn|⟨g,cap,cur,fz,hv2,hbg,hg,rest⟩
  ·exact .inl hn
  ·exact .inr ⟨g,cap,cur,fz,hv2,hbg,(hb.block g (Array.getElem?_eq_some_iff.1 hg).1).trans hg,rest⟩
 exact h.elim (fun x=> .inl (key _ x)) (fun x=> .inr (key _ x))
theorem ymE (w:World) (r:Int) (t:TypeId):RowR (w.alloc (.cells #[.int .i32 r] t)) (.slice (some ⟨w.heap.size,0,none⟩) 1 1) ([r].map (Value.int .i32)):=by
 refine ⟨_,1,rfl,fun j u hj=>⟨_,rfl,?_⟩⟩
 exact zxX w (.int .i32 r) t j u hj
theorem zyI (l:List UInt8):Lib.strCells ⟨l.toArray⟩=Lib.byteCells l:=rfl
theorem z2Z (l:List UInt8) (k:Nat) (h:k<(ByteArray.mk l.toArray).size):(ByteArray.mk l.toArray)[k]=l[k]'(by simpa [ByteArray.size] using h):=rfl
theorem z5N (st:Int) (s:ByteArray) (w:World) (hst:0≤st) (hs:s.size≤67108864):
  Calls Tryz.prog 169 #[.int .u8 st,.string s] w fun e w'=>e= .returned (.string ⟨(encB st (scal s)).toArray⟩)∧Below w.heap.size w w':=by
 go_enter Tryz.func169,Tryz.ntmps169
 go_wp2
 go_loopw [] (fun wr=> ∃(pos fuel:Nat) (acc:List UInt8),Lib.IsBuilderF 121 5 w.heap.size w.heap.size (Lib.byteCells acc) wr∧wr.heap[w.heap.size+1]? =some (.stringIter s pos)∧Below w.heap.size w wr∧Hid (acc++encB st (zjT s fuel pos)=encB st (scal s))∧s.size≤pos+fuel∧acc.length≤12*pos∧pos≤s.size+4) (fun wr=>s.size - wr.iterPos (w.heap.size+1))
 case atStart=>
  refine ⟨0,s.size,[],(Lib.IsBuilderF.of (Lib.fresh_isBuilder _ _ w)).alloc _,?_,((yoL _ w).alloc (yoI _) _).alloc (by simp) _,rfl,by omega,by simp,by omega⟩
  have:=World.iter_heap (w.alloc (.cells #[.pointer none,.slice none 0 0] 121)) s 0
  simpa using this
 case round=>
  obtain ⟨pos,fuel,acc,hI,hit,hbw,HA,hfu,hal,hpo⟩:=hrel
  have hsz:w.heap.size+1<wr.heap.size:=(Array.getElem?_eq_some_iff.1 hit).1
  by_cases hp:pos<s.size
  ·have hnx: ∀ty,(Instr.next (.pointer (some ⟨w.heap.size+1,0,none⟩)) true ty).run Tryz.prog wr=_:=fun ty=>Lib.run_next_any_at wr (w.heap.size+1) s pos ty hit hp
   have hwd:=zfC s pos hp
   have hwl:=yfW s pos
   have hd1:=decode_le s pos
   have hI2:=hI.iterAt hit (pos+(Utf8.decode s pos).2)
   have hit2:=Lib.iterAt_heap wr (w.heap.size+1) s pos (pos+(Utf8.decode s pos).2) hit
   have hbw2:=Lib.below_iterAt hbw (k:=w.heap.size+1) (by omega) s (pos+(Utf8.decode s pos).2)
   have hsz2:w.heap.size+1<(wr.iterAt (w.heap.size+1) s (pos+(Utf8.decode s pos).2)).heap.size:=by rw [Lib.iterAt_size];omega
   obtain ⟨f,rfl⟩: ∃f,fuel=f+1:=⟨fuel - 1,by omega⟩
   have hA2:=HA.out
   rw [zgU s f pos hp,znN] at hA2
   have HA2:=yoH hA2
   clear hA2
   generalize wr.iterAt (w.heap.size+1) s (pos+(Utf8.decode s pos).2)=wi at*
   generalize hr:((Utf8.decode s pos).1:Int)=r at*
   have hr0:0≤r:=by omega
   have hr1:r≤2147483647:=by omega
   have HWP:Hid (wr.iterPos (w.heap.size+1)=pos):=by
    show wr.iterPos (w.heap.size+1)=pos
    simp only [World.iterPos,hit]
   clear hr
   have hel:=zeS r
   cases hin:inB st r with
   |false=>
    have hep:encP st r=Lib.encodeRune r:=by unfold encP;rw [hin];rfl
    have HEP:=yoH hep
    clear hep
    go_wp2_with fail
    refine (ykO st r _ hst).mono ?_
    rintro e w' ⟨rfl,rfl⟩
    rw [hin]
    go_wp2_with fail
    refine (Tryz.Builder_WriteRune_k w.heap.size w.heap.size _ r (by omega) hr1 _ hI2 (by rw [Lib.byteCells_length];omega) (by omega)).mono ?_
    rintro e w1 ⟨rfl,h1,b1,k1⟩
    have hit3:=k1.iter hit2 (by omega)
    go_wp2
    go_roundw
    case rel=>
     refine ⟨pos+(Utf8.decode s pos).2,f,acc++Lib.encodeRune r,?_,hit3,hbw2.trans b1,?_,by omega,by simp;omega,by omega⟩
     ·rw [Lib.byteCells_append,Lib.byteCells_encodeRune];exact .inr h1
     ·show (acc++Lib.encodeRune r)++_=_
      rw [List.append_assoc,←HEP.out];exact HA2.out
    case measure=>
     rw [HWP.out]
     simp only [World.iterPos,hit3]
     omega
   |true=>
    have hep:encP st r=pctL (Lib.encodeRune r):=by unfold encP;rw [hin];rfl
    have HEP:=yoH hep
    clear hep
    go_wp2_with fail
    refine (ykO st r _ hst).mono ?_
    rintro e w' ⟨rfl,rfl⟩
    rw [hin]
    have hrow:=ymE wi r 21
    have hI3:=hI2.alloc (.cells #[.int .i32 r] 21)
    have hit3:(wi.alloc (.cells #[.int .i32 r] 21)).heap[w.heap.size+1]? =some (.stringIter s (pos+(Utf8.decode s pos).2)):=by rw [Below.heap_alloc _ _ _ (by omega)];exact hit2
    have hbw3:=hbw2.alloc (by omega:w.heap.size≤wi.heap.size) (.cells #[.int .i32 r] 21)
    go_wp2_with fail
    refine (yhU _ [r] _ hrow (by simp) (by intro x hx;simp at hx;omega)).mono ?_
    rintro e w2 ⟨rfl,hb2⟩
    have hI4:=zvT hI3 hb2
    have hit4:=(hb2.block (w.heap.size+1) (by simp;omega)).trans hit3
    have hbw4:Below w.heap.size w w2:=hbw3.trans (hb2.mono (by simp;omega))
    clear hI2 hI3 hit2 hit3 hbw2 hbw3 hrow hb2
    rw [show zeK [r]=Lib.encodeRune r from by simp [zeK]]
    generalize hE:Lib.encodeRune r=E at*
    have HE:=yoH hE
    clear hE
    go_wp2
    go_loopw [26] (fun i wq=> ∃j:Nat,j≤E.length∧i= .int .i64 j∧Lib.IsBuilderF 121 5 w.heap.size w.heap.size (Lib.byteCells (acc++pctL (E.take j))) wq∧wq.heap[w.heap.size+1]? =some (.stringIter s (pos+(Utf8.decode s pos).2))∧Below w.heap.size w wq) (fun i _=>E.length - (intOf i).toNat)
    case atStart=>
     refine ⟨0,Nat.zero_le _,rfl,?_,hit4,hbw4⟩
     simpa [pctL] using hI4
    case round=>
     obtain ⟨j,hj,rfl,hIq,hitq,hbwq⟩:=hrel
     have hszq:w.heap.size+1<wr.heap.size:=(Array.getElem?_eq_some_iff.1 hitq).1
     by_cases hjlt:j<E.length
     ·have hjs:j<(ByteArray.mk E.toArray).size:=by rw [zaB];exact hjlt
      have hsn:=yaY E j hjlt
      have HSN:=yoH hsn
      have hpl:(pctL (E.take j)).length≤12:=by rw [zsA,List.length_take];omega
      clear hsn
      have hba:=z2Z E j hjs
      have HBA:=yoH hba
      clear hba
      go_wp2_with fail
      refine (yiT (ByteArray.mk E.toArray)[j] _).mono ?_
      rintro e w3 ⟨rfl,hb3⟩
      have hI5:=zvT hIq hb3
      have hit5:=(hb3.block (w.heap.size+1) (by omega)).trans hitq
      have hbw5:Below w.heap.size w w3:=hbwq.trans (hb3.mono (by omega))
      have hsz3:w.heap.size≤w3.heap.size:=hbw5.size
      go_wp2_with fail
      refine (Tryz.Builder_WriteString_k w.heap.size w.heap.size _ _ _ hI5 (by rw [Lib.byteCells_length,List.length_append,zaB,show (pctB (ByteArray.mk E.toArray)[j]).length=3 from rfl];omega) hsz3).mono ?_
      rintro e w4 ⟨rfl,h4,b4,k4⟩
      have hit6:=k4.iter hit5 (by omega)
      go_wp2
      go_roundw
      case rel=>
       refine ⟨j+1,by omega,by go_num,?_,hit6,hbw5.trans b4⟩
       rw [HSN.out,←List.append_assoc,Lib.byteCells_append,←HBA.out,←zyI]
       exact .inr h4
      case measure=>simp [intOf];omega
     ·have hfin:pctL (E.take j)=encP st r:=by rw [List.take_of_length_le (by omega),HEP.out]
      rw [hfin] at hIq
      clear hfin
      have hpl:=z1L st r
      generalize encP st r=EP at*
      go_wp2
      go_roundw
      case rel=>
       refine ⟨pos+(Utf8.decode s pos).2,f,acc++EP,hIq,hitq,hbwq,?_,by omega,by simp;omega,by omega⟩
       show (acc++EP)++_=_
       rw [List.append_assoc];exact HA2.out
      case measure=>
       simp only [World.iterPos,hitq]
       have:=HWP.out
       simp only [World.iterPos] at this
       omega
  ·have hnx: ∀ty,(Instr.next (.pointer (some ⟨w.heap.size+1,0,none⟩)) true ty).run Tryz.prog wr=_:=fun ty=>Lib.run_next_end_at wr (w.heap.size+1) s pos ty hit hp
   have hfin:acc=encB st (scal s):=by
    have:=HA.out
    rw [ziK s fuel pos hp] at this
    simpa [encB] using this
   subst hfin
   go_wp2_with fail
   refine (Tryz.Builder_String_any_k w.heap.size w.heap.size _ _ hI (by omega)).mono ?_
   rintro e w1 ⟨rfl,_,b1,_⟩
   go_wp2
   go_ret
   exact ⟨rfl,hbw.trans b1⟩
def digC (b:Int) (c:UInt8):Bool:=decide (0≤valZ (c.toNat:Int)∧valZ (c.toNat:Int)<b)
def zbR (b:Int) (l:List UInt8):Bool:=l.all (digC b)
def capZ (x:Int):Int:=if 1099511627776<x then 1099511627776 else x
def zxN (b:Int) (n:Int) (c:UInt8):Int:=capZ (n*b+valZ (c.toNat:Int))
def numZ (b:Int) (l:List UInt8):Int:=l.foldl (zxN b) 0
def zgT (l:List UInt8):List UInt8×Int:=
 match l with
 |a::c::r=>if a.toNat=48 then (if c.toNat=120∨c.toNat=88 then (r,16) else (c::r,8)) else (a::c::r,10)
 |_=>(l,10)
def zcZ (l:List UInt8):Int×Bool:=
 if l.isEmpty then (0,false) else if zbR (zgT l).2 (zgT l).1 then (numZ (zgT l).2 (zgT l).1,true) else (0,false)
theorem z3Z (b:Int) (s:ByteArray) (k:Nat) (h:k<s.size):zbR b (s.data.toList.take (k+1))=(zbR b (s.data.toList.take k)&&digC b s[k]):=by
 rw [zdH s k h];simp [zbR]
theorem z8S (b:Int) (s:ByteArray) (k:Nat) (h:k<s.size):numZ b (s.data.toList.take (k+1))=zxN b (numZ b (s.data.toList.take k)) s[k]:=by
 rw [zdH s k h];simp [numZ]
theorem zxC {b:Int} {c:UInt8} {v:Int} (hv:valZ (c.toNat:Int)=v) (h0:0≤v) (h1:v<b):digC b c=true:=yoK (by rw [hv];exact ⟨h0,h1⟩)
theorem zgN {b:Int} {c:UInt8} {v:Int} (hv:valZ (c.toNat:Int)=v) (h:v<0∨b≤v):digC b c=false:=yoJ (by rw [hv];omega)
theorem zeT (b:Int) (s:ByteArray) (k:Nat) (h:k<s.size) (hc:digC b s[k]=false):zbR b s.data.toList=false:=by
 unfold zbR
 rw [List.all_eq_false]
 refine ⟨s[k],?_,by rw [hc];simp⟩
 show s.data[k]∈_
 simp
theorem zmC (b:Int) (s:ByteArray) (k:Nat) (h:k<s.size) (hp:zbR b (s.data.toList.take k)=true) (hc:digC b s[k]=true):zbR b (s.data.toList.take (k+1))=true:=by
 rw [z3Z b s k h,hp,hc];rfl
theorem zkM (r:Int) (h:128≤r):valZ r= -1:=by
 unfold valZ;(repeat' split)<;>omega
theorem z1G (r:Int):valZ r<16:=by
 unfold valZ;(repeat' split)<;>omega
theorem ylR (x:Int):capZ x≤1099511627776:=by unfold capZ;split<;>omega
theorem ymW {x:Int} (h:1099511627776<x):capZ x=1099511627776:=if_pos h
theorem ynV {x:Int} (h: ¬1099511627776<x):capZ x=x:=if_neg h
theorem ygW (b n:Int) (c:UInt8) (v:Int) (hv:valZ (c.toNat:Int)=v):zxN b n c=capZ (n*b+v):=by rw [zxN,hv]
theorem zpX (l:List UInt8):(zgT l).2=8∨(zgT l).2=10∨(zgT l).2=16:=by
 unfold zgT
 repeat' split
 all_goals simp
theorem zrV (s:ByteArray) (h:2≤s.size): ∃r,s.data.toList=s[0]::s[1]::r∧s.data.toList.drop 2=r:=by
 refine ⟨s.data.toList.drop 2,?_,rfl⟩
 have e0:s.data.toList=s.data.toList.drop 0:=rfl
 conv=>lhs;rw [e0,List.drop_eq_getElem_cons (by simp;omega),List.drop_eq_getElem_cons (by simp;omega)]
 rfl
theorem zzC (s:ByteArray) (h:s.size<2):zgT s.data.toList=(s.data.toList,10):=by
 have hl:=zaN s
 match hd:s.data.toList,hl with
 |[],_=>rfl
 |[a],_=>rfl
 |a::c::r,hl=>simp at hl;omega
theorem z7B (s:ByteArray) (h:2≤s.size) (h0:s[0].toNat≠48):zgT s.data.toList=(s.data.toList,10):=by
 obtain ⟨r,hr,_⟩:=zrV s h
 rw [hr];simp [zgT,h0]
theorem z8P (s:ByteArray) (h:2≤s.size) (h0:s[0].toNat=48) (h1:s[1].toNat=120∨s[1].toNat=88):zgT s.data.toList=(s.data.toList.drop 2,16):=by
 obtain ⟨r,hr,h2⟩:=zrV s h
 rw [h2,hr];simp only [zgT,h0,h1,if_true]
theorem yaO (s:ByteArray) (h:2≤s.size) (h0:s[0].toNat=48) (h1: ¬(s[1].toNat=120∨s[1].toNat=88)):zgT s.data.toList=(s.data.toList.drop 1,8):=by
 obtain ⟨r,hr,_⟩:=zrV s h
 rw [hr];simp only [zgT,h0,h1,if_true,if_false];rfl
theorem zqS (s:ByteArray) (a:Nat):s.extract a s.size=⟨(s.data.toList.drop a).toArray⟩:=
 zlA s a s.size _ (List.take_of_length_le (by simp))
def z9U (w:World) (x:List UInt8×Int) (e:Ending) (w':World):Prop:=e= .returned (.tuple #[.string ⟨x.1.toArray⟩,.int .i64 x.2])∧w=w'
theorem ziO {w:World} {x:List UInt8×Int} {y:ByteArray} {b:Int} {l:List UInt8} (h:x=(l,b)) (hy:y=⟨l.toArray⟩):z9U w x (.returned (.tuple #[.string y,.int .i64 b])) w:=by
 subst h hy;exact ⟨rfl,rfl⟩
theorem znV (s:ByteArray) (w:World) (hs:s.size≤1073741824):
  Calls Tryz.prog 192 #[.string s] w (z9U w (zgT s.data.toList)):=by
 by_cases h2:s.size<2
 ·have HR:=yoH (zzC s h2)
  go_enter Tryz.func192,Tryz.ntmps192
  go_wp2
  go_ret2
  exact ziO HR.out (by simp)
 ·have h2':2≤s.size:=by omega
  have l0:0<s.size:=by omega
  have l1:1<s.size:=by omega
  obtain ⟨a,ha⟩: ∃a,s[0].toNat=a:=⟨_,rfl⟩
  obtain ⟨c,hc⟩: ∃a,s[1].toNat=a:=⟨_,rfl⟩
  by_cases h48:a=48
  ·subst h48
   by_cases hx:c=120∨c=88
   ·have HR:=yoH (z8P s h2' ha (by rw [hc];exact hx))
    rcases hx with rfl|rfl
    all_goals
     go_enter Tryz.func192,Tryz.ntmps192
     go_wp2
     go_ret2
     exact ziO HR.out (zqS s 2)
   ·have HR:=yoH (yaO s h2' ha (by rw [hc];exact hx))
    have b1:((c:Int)==120)=false:=beq_eq_false_iff_ne.2 (by omega)
    have b2:((c:Int)==88)=false:=beq_eq_false_iff_ne.2 (by omega)
    clear hx
    go_enter Tryz.func192,Tryz.ntmps192
    go_wp2
    go_ret2
    exact ziO HR.out (zqS s 1)
  ·have HR:=yoH (z7B s h2' (by rw [ha];exact h48))
   have b1:((a:Int) !=48)=true:=by rw [bne_iff_ne];omega
   go_enter Tryz.func192,Tryz.ntmps192
   go_wp2
   go_ret2
   exact ziO HR.out (by simp)
def ybY (w:World) (x:Int×Bool) (e:Ending) (w':World):Prop:=e= .returned (.tuple #[.int .u64 x.1,.bool x.2])∧Below w.heap.size w w'
theorem zhY {w w':World} {x:Int×Bool} {n:Int} {b:Bool} (h:x=(n,b)) (hb:Below w.heap.size w w'):ybY w x (.returned (.tuple #[.int .u64 n,.bool b])) w':=by
 subst h;exact ⟨rfl,hb⟩
theorem z9I (l:List UInt8) (r:List UInt8) (b:Int) (h:zgT l=(r,b)) (hd:zbR b r=false):zcZ l=(0,false):=by
 unfold zcZ
 rw [h,hd]
 split<;>rfl
theorem z6A (l:List UInt8) (r:List UInt8) (b:Int) (h:zgT l=(r,b)) (hn:l≠[]) (hd:zbR b r=true):zcZ l=(numZ b r,true):=by
 unfold zcZ
 rw [h,hd]
 cases l with
 |nil=>exact absurd rfl hn
 |cons a t=>rfl
theorem zxP (s:ByteArray) (h:s.size=0):s.data.toList=[]:=List.length_eq_zero_iff.1 (by rw [zaN];exact h)
theorem zgX (s:ByteArray) (h:s.size≠0):s.data.toList≠[]:=fun e=>h (by rw [←zaN,e];rfl)
theorem ybT (s:ByteArray):ByteArray.mk s.data.toList.toArray=s:=by simp
theorem zaL (l:List UInt8):(ByteArray.mk l.toArray).data.toList=l:=by simp
theorem zdP (s:ByteArray) (h:s.size=0):s=⟨#[]⟩:=by
 apply ByteArray.ext
 apply Array.ext'
 exact zxP s h
theorem zdX (s:ByteArray) (h:s.size≠0):s.toList.isEmpty=false:=by
 rw [ByteArray.toList_eq]
 cases hd:s.data.toList with
 |nil=>exact absurd hd (zgX s h)
 |cons a l=>rfl
theorem z3L (s:ByteArray) (d:ByteArray) (b:Int) (w:World) (hs:s.size≤1073741824) (hn:s.size≠0) (hb:b=8∨b=10∨b=16) (hr:zgT s.data.toList=(d.data.toList,b)):
  Calls Tryz.prog 141 #[.string s] w (ybY w (zcZ s.data.toList)):=by
 have HR:=yoH hr
 have HNO:=yoH (z9I s.data.toList _ b hr)
 have HYES:=yoH (z6A s.data.toList _ b hr (zgX s hn))
 have hse:=zdX s hn
 clear hr hn
 have hb1:8≤b:=by omega
 have hb2:b≤16:=by omega
 clear hb
 go_enter Tryz.func141,Tryz.ntmps141
 go_wp2_with fail
 refine (znV s _ hs).mono ?_
 rw [HR.out]
 rintro e w' ⟨rfl,rfl⟩
 simp only [ybT]
 go_wp2
 go_loopw [6] (fun n wr=> ∃(k:Nat) (A:Int),n= .int .u64 A∧0≤A∧A≤1099511627776∧k≤d.size∧wr.heap[w.heap.size]? =some (.stringIter d k)∧Below w.heap.size w wr∧w.heap.size+1≤wr.heap.size∧Hid (A=numZ b (d.data.toList.take k))∧Hid (zbR b (d.data.toList.take k)=true)) (fun _ wr=>d.size - wr.iterPos w.heap.size)
 case atStart=>exact ⟨0,0,rfl,by omega,by omega,Nat.zero_le _,World.iter_heap w d 0,(yoL _ w).alloc (yoI _) _,by simp [World.iter],rfl,rfl⟩
 case round=>
  obtain ⟨k,A,rfl,hA0,hA1,hk,hit,hbw,hsz,HA,HDG⟩:=hrel
  by_cases hp:k<d.size
  ·obtain ⟨c,hc⟩: ∃c,(d[k]'hp).toNat=c:=⟨_,rfl⟩
   have hnx: ∀ty,(Instr.next (.pointer (some ⟨w.heap.size,0,none⟩)) true ty).run Tryz.prog wr=_:=fun ty=>Lib.run_next_any_at wr w.heap.size d k ty hit hp
   by_cases hc128:c<128
   ·have hdec:=decode_ascii d k hp (by omega)
    rw [hc] at hdec
    rw [hdec] at hnx
    have hit2:=Lib.iterAt_heap wr w.heap.size d k (k+1) hit
    have hbw2:=Lib.below_iterAt hbw (k:=w.heap.size) (yoI _) d (k+1)
    have hsz2:w.heap.size+1≤(wr.iterAt w.heap.size d (k+1)).heap.size:=by rw [Lib.iterAt_size];exact hsz
    simp only at hnx
    generalize wr.iterAt w.heap.size d (k+1)=wi at*
    obtain ⟨v,hv⟩: ∃v,valZ (c:Int)=v:=⟨_,rfl⟩
    have hv16:v<16:=by rw [←hv];exact z1G _
    have HV:Hid (valZ (d[k].toNat:Int)=v):=by show valZ (d[k].toNat:Int)=v;rw [hc];exact hv
    have HIT:=yoH hit
    have HC:=yoH hc
    clear hit hc hdec
    by_cases h0:v<0
    ·have HF:=yoH (HNO.out (zeT b d k hp (zgN HV.out (.inl h0))))
     go_wp2_with (go_at_call 129;refine (zbW _ _).mono ?_;rintro e w' ⟨rfl,rfl⟩)
     go_ret2
     exact zhY HF.out hbw2
    ·by_cases h1:b≤v
     ·have HF:=yoH (HNO.out (zeT b d k hp (zgN HV.out (.inr h1))))
      go_wp2_with (go_at_call 129;refine (zbW _ _).mono ?_;rintro e w' ⟨rfl,rfl⟩)
      go_ret2
      exact zhY HF.out hbw2
     ·have HF:=yoH (zmC b d k hp HDG.out (zxC HV.out (by omega) (by omega)))
      have hsn:=z8S b d k hp
      rw [←HA.out,ygW _ _ _ v HV.out] at hsn
      have HSN:=yoH hsn
      clear hsn
      have hP0:0≤A*b:=Int.mul_nonneg hA0 (by omega)
      have hP1:A*b≤1099511627776*16:=Int.mul_le_mul hA1 hb2 (by omega) (by omega)
      by_cases ht:1099511627776<A*b+v
      ·have HC2:=yoH (HSN.out.trans (ymW ht))
       go_wp2_with (go_at_call 129;refine (zbW _ _).mono ?_;rintro e w' ⟨rfl,rfl⟩)
       go_roundw
       case rel=>exact ⟨k+1,1099511627776,rfl,by omega,by omega,by omega,hit2,hbw2,hsz2,HC2.out.symm,HF⟩
       case measure=>
        simp only [World.iterPos,hit2,HIT.out]
        omega
      ·have HC2:=yoH (HSN.out.trans (ynV ht))
       go_wp2_with (go_at_call 129;refine (zbW _ _).mono ?_;rintro e w' ⟨rfl,rfl⟩)
       go_roundw
       case rel=>exact ⟨k+1,_,rfl,by omega,by omega,by omega,hit2,hbw2,hsz2,HC2.out.symm,HF⟩
       case measure=>
        simp only [World.iterPos,hit2,HIT.out]
        omega
   ·have hh:=decode_high d k hp (by omega)
    obtain ⟨r,hr⟩: ∃r,(Utf8.decode d k).1=r:=⟨_,rfl⟩
    obtain ⟨wd,hwd⟩: ∃r,(Utf8.decode d k).2=r:=⟨_,rfl⟩
    have hrl:=decode_le d k
    rw [hr,hwd] at hnx
    rw [hr,hwd] at hh
    rw [hr] at hrl
    have hbw2:=Lib.below_iterAt hbw (k:=w.heap.size) (yoI _) d (k+wd)
    generalize wr.iterAt w.heap.size d (k+wd)=wi at*
    have hv:valZ (r:Int)= -1:=zkM _ (by omega)
    have HF:=yoH (HNO.out (zeT b d k hp (zgN (zkM _ (by omega)) (.inl (by omega)))))
    clear hc hr hwd
    go_wp2_with (go_at_call 129;refine (zbW _ _).mono ?_;rintro e w' ⟨rfl,rfl⟩)
    go_ret2
    exact zhY HF.out hbw2
  ·have hnx: ∀ty,(Instr.next (.pointer (some ⟨w.heap.size,0,none⟩)) true ty).run Tryz.prog wr=_:=fun ty=>Lib.run_next_end_at wr w.heap.size d k ty hit hp
   have hdt:=HDG.out
   rw [zeV d k hp] at hdt
   have hat:=HA.out
   rw [zeV d k hp] at hat
   have HF:=yoH (HYES.out hdt)
   have HAT:=yoH hat
   clear hdt hat
   go_wp2
   go_ret2
   exact zhY (by rw [HF.out,HAT.out]) hbw
theorem zjZ (s:ByteArray) (w:World) (hs:s.size≤1073741824):
  Calls Tryz.prog 141 #[.string s] w (ybY w (zcZ s.data.toList)):=by
 by_cases hn:s.size=0
 ·obtain rfl:=zdP s hn
  clear hn hs
  have HF:Hid (zcZ (ByteArray.mk #[]).data.toList=(0,false)):=rfl
  go_enter Tryz.func141,Tryz.ntmps141
  go_wp2
  go_ret2
  exact zhY HF.out (yoL _ _)
 ·obtain ⟨⟨r,b⟩,hr⟩: ∃x,zgT s.data.toList=x:=⟨_,rfl⟩
  have hb:=zpX s.data.toList
  rw [hr] at hb
  exact z3L s ⟨r.toArray⟩ b w hs hn hb (by rw [zaL];exact hr)
def decN (l:List UInt8):Int:=l.foldl (fun n c=>n*10+valZ (c.toNat:Int)) 0
def decZ (l:List UInt8) (m:Int):Int×Bool:=
 if (l.isEmpty||(decide (1<l.length)&&decide ((l.getD 0 0).toNat=48))|| !zbR 10 l)=true then (0,false) else if m<decN l then (0,false) else (decN l,true)
theorem yaI (s:ByteArray) (k:Nat) (h:k<s.size):decN (s.data.toList.take (k+1))=decN (s.data.toList.take k)*10+valZ (s[k].toNat:Int):=by
 rw [zdH s k h];simp [decN]
theorem zuP (l:List UInt8): ∀a:Int,0≤a→zbR 10 l=true→a≤l.foldl (fun n c=>n*10+valZ (c.toNat:Int)) a:=by
 induction l with
 |nil=>intro a _ _;exact Int.le_refl _
 |cons c l ih=>
  intro a ha hd
  have h1:digC 10 c=true∧zbR 10 l=true:=by simpa [zbR] using hd
  have h2:=of_decide_eq_true h1.1
  have:=ih (a*10+valZ (c.toNat:Int)) (by omega) h1.2
  exact Int.le_trans (by omega) this
theorem zoA (l:List UInt8) (hd:zbR 10 l=true):0≤decN l:=zuP l 0 (Int.le_refl _) hd
theorem z4B (b:Int) (l:List UInt8) (k:Nat):zbR b l=(zbR b (l.take k)&&zbR b (l.drop k)):=by
 unfold zbR
 rw [←List.all_append,List.take_append_drop]
theorem zlZ (l:List UInt8) (k:Nat) (hd:zbR 10 l=true):decN (l.take k)≤decN l:=by
 have h:=z4B 10 l k
 rw [hd] at h
 have h2:zbR 10 (l.take k)=true∧zbR 10 (l.drop k)=true:=by simpa using h.symm
 have e:decN l=(l.drop k).foldl (fun n c=>n*10+valZ (c.toNat:Int)) (decN (l.take k)):=by
  unfold decN
  rw [←List.foldl_append,List.take_append_drop]
 rw [e]
 exact zuP _ _ (zoA _ h2.1) h2.2
theorem zwG (l:List UInt8) (m:Int) (h:l=[]∨(1<l.length∧(l.getD 0 0).toNat=48)):decZ l m=(0,false):=by
 unfold decZ
 rw [if_pos]
 rcases h with rfl|⟨h1,h2⟩
 ·rfl
 ·rw [yoK h1,yoK h2];simp
theorem z0H (l:List UInt8) (m:Int) (h:zbR 10 l=false):decZ l m=(0,false):=by
 unfold decZ
 rw [if_pos (by rw [h];simp)]
theorem yjS (l:List UInt8) (m:Int) (k:Nat) (h:m<decN (l.take k)):decZ l m=(0,false):=by
 by_cases hd:zbR 10 l=true
 ·unfold decZ
  split
  ·rfl
  ·rw [if_pos]
   have:=zlZ l k hd
   omega
 ·exact z0H l m (by simpa using hd)
theorem yfG (l:List UInt8) (m:Int) (h0:l≠[]) (h1: ¬(1<l.length∧(l.getD 0 0).toNat=48)) (hd:zbR 10 l=true) (hm:decN l≤m):decZ l m=(decN l,true):=by
 unfold decZ
 rw [if_neg,if_neg (by omega)]
 rw [hd]
 cases l with
 |nil=>exact absurd rfl h0
 |cons a r=>
  by_cases e1:1<(a::r).length
  ·rw [yoK e1,yoJ (fun e=>h1 ⟨e1,e⟩)];simp
  ·rw [yoJ e1];simp
theorem zwR (s:ByteArray) (h:0<s.size):(s.data.toList.getD 0 0).toNat=s[0].toNat:=by
 rw [List.getD,zeW s 0 h];rfl
theorem z4A (r:Int):zbC r=decide (0≤valZ r∧valZ r<10):=by
 unfold zbC valZ
 by_cases h:48≤r∧r≤57
 ·rw [if_pos h,yoK h,yoK (by omega)]
 ·rw [if_neg h,yoJ h]
  refine (yoJ ?_).symm
  repeat' split
  all_goals omega
theorem zjO (c:UInt8):digC 10 c=zbC (c.toNat:Int):=(z4A _).symm
theorem zuG {r:Int} (h:zbC r=true):48≤r∧r≤57:=of_decide_eq_true h
theorem zqJ {r:Int} (h1:48≤r) (h2:r≤57):valZ r=r - 48:=if_pos ⟨h1,h2⟩
theorem zhH (r:Int) (h:128≤r):zbC r=false:=yoJ (by omega)
def ybV (w:World) (x:Int×Bool) (e:Ending) (w':World):Prop:=e= .returned (.tuple #[.int .i64 x.1,.bool x.2])∧Below w.heap.size w w'
theorem zfB {w w':World} {x:Int×Bool} {n:Int} {b:Bool} (h:x=(n,b)) (hb:Below w.heap.size w w'):ybV w x (.returned (.tuple #[.int .i64 n,.bool b])) w':=by
 subst h;exact ⟨rfl,hb⟩
theorem zxA (s:ByteArray) (m:Int) (w:World) (hs:s.size≤1073741824) (hm:m≤9223372036854775807) (hm0: -9223372036854775808≤m) (hn:1≤s.size) (hz: ¬(1<s.size∧s[0].toNat=48)):
  Calls Tryz.prog 245 #[.string s,.int .i64 m] w (ybV w (decZ s.data.toList m)):=by
 have HNO:=yoH (z0H s.data.toList m)
 have HBIG:=yoH (yjS s.data.toList m)
 have HYES:=yoH (yfG s.data.toList m (zgX s (by omega)) (by rw [zaN,zwR s (by omega)];exact hz))
 have hse:=zdX s (by omega)
 have l0:0<s.size:=by omega
 obtain ⟨a,ha⟩: ∃a,s[0].toNat=a:=⟨_,rfl⟩
 rw [ha] at hz
 rcases (show s.size≤1∨(1<s.size∧((a:Int)==48)=false) from by
   by_cases h1:1<s.size
   ·exact .inr ⟨h1,beq_eq_false_iff_ne.2 (fun e=>hz ⟨h1,by omega⟩)⟩
   ·exact .inl (by omega)) with h1|⟨h1,hb1⟩
 all_goals
  clear hz
  go_enter Tryz.func245,Tryz.ntmps245
  go_wp2
  go_loopw [6] (fun n wr=> ∃(k:Nat) (A:Int),n= .int .i64 A∧0≤A∧(A=0∨A≤m)∧k≤s.size∧wr.heap[w.heap.size]? =some (.stringIter s k)∧Below w.heap.size w wr∧w.heap.size+1≤wr.heap.size∧Hid (A=decN (s.data.toList.take k))∧Hid (zbR 10 (s.data.toList.take k)=true)∧Hid (1≤k→A≤m)) (fun _ wr=>s.size - wr.iterPos w.heap.size)
  case atStart=>exact ⟨0,0,rfl,by omega,.inl rfl,Nat.zero_le _,World.iter_heap w s 0,(yoL _ w).alloc (yoI _) _,by simp [World.iter],rfl,rfl,fun h=>absurd h (by omega)⟩
  case round=>
   obtain ⟨k,A,rfl,hA0,hA1,hk,hit,hbw,hsz,HA,HDG,HK⟩:=hrel
   have hA2:A≤9223372036854775807:=by omega
   clear hA1
   by_cases hp:k<s.size
   ·obtain ⟨c,hc⟩: ∃c,(s[k]'hp).toNat=c:=⟨_,rfl⟩
    have hnx: ∀ty,(Instr.next (.pointer (some ⟨w.heap.size,0,none⟩)) true ty).run Tryz.prog wr=_:=fun ty=>Lib.run_next_any_at wr w.heap.size s k ty hit hp
    by_cases hc128:c<128
    ·have hdec:=decode_ascii s k hp (by omega)
     rw [hc] at hdec
     rw [hdec] at hnx
     have hit2:=Lib.iterAt_heap wr w.heap.size s k (k+1) hit
     have hbw2:=Lib.below_iterAt hbw (k:=w.heap.size) (yoI _) s (k+1)
     have hsz2:w.heap.size+1≤(wr.iterAt w.heap.size s (k+1)).heap.size:=by rw [Lib.iterAt_size];exact hsz
     simp only at hnx
     generalize wr.iterAt w.heap.size s (k+1)=wi at*
     have HIT:=yoH hit
     have HC:=yoH hc
     clear hit hc hdec
     cases hdg:zbC (c:Int) with
     |false=>
      have HF:=yoH (HNO.out (zeT 10 s k hp (by rw [zjO,HC.out];exact hdg)))
      go_wp2_with (go_at_call 100;refine (zbZ _ _).mono ?_;rintro e w' ⟨rfl,rfl⟩)
      go_ret2
      exact zfB HF.out hbw2
     |true=>
      obtain ⟨hc1,hc2⟩:=zuG hdg
      have hv:valZ (c:Int)=(c:Int) - 48:=zqJ hc1 hc2
      have HF:=yoH (zmC 10 s k hp HDG.out (by rw [zjO,HC.out];exact hdg))
      have hsn:=yaI s k hp
      rw [←HA.out,HC.out,hv] at hsn
      have HSN:=yoH hsn
      clear hsn
      obtain ⟨v,hvv⟩: ∃v:Int,(c:Int) - 48=v:=⟨_,rfl⟩
      have hv0:0≤v:=by omega
      have hv9:v≤9:=by omega
      rw [hvv] at hv
      have HVV:=yoH hvv
      clear hvv
      by_cases hg:m<A*10+v
      ·have HB:=yoH (HBIG.out (k+1) (by rw [HSN.out,HVV.out];exact hg))
       by_cases hg1:m<v
       ·go_wp2_with (first|(go_at_call 100;refine (zbZ _ _).mono ?_;rintro e w' ⟨rfl,rfl⟩)|(go_at_call 129;refine (zbW _ _).mono ?_;rintro e w' ⟨rfl,rfl⟩))
        go_ret2
        exact zfB HB.out hbw2
       ·have hg2:(m - v)/10<A:=by omega
        go_wp2_with (first|(go_at_call 100;refine (zbZ _ _).mono ?_;rintro e w' ⟨rfl,rfl⟩)|(go_at_call 129;refine (zbW _ _).mono ?_;rintro e w' ⟨rfl,rfl⟩))
        go_ret2
        exact zfB HB.out hbw2
      ·have hg1: ¬m<v:=by omega
       have hg2: ¬(m - v)/10<A:=by omega
       go_wp2_with (first|(go_at_call 100;refine (zbZ _ _).mono ?_;rintro e w' ⟨rfl,rfl⟩)|(go_at_call 129;refine (zbW _ _).mono ?_;rintro e w' ⟨rfl,rfl⟩))
       go_roundw
       case rel=>exact ⟨k+1,A*10+v,rfl,by omega,by omega,by omega,hit2,hbw2,hsz2,(by show _=_;rw [HSN.out,HVV.out]),HF,fun _=>by omega⟩
       case measure=>
        simp only [World.iterPos,hit2,HIT.out]
        omega
    ·have hh:=decode_high s k hp (by omega)
     obtain ⟨r,hr⟩: ∃r,(Utf8.decode s k).1=r:=⟨_,rfl⟩
     obtain ⟨wd,hwd⟩: ∃r,(Utf8.decode s k).2=r:=⟨_,rfl⟩
     have hrl:=decode_le s k
     rw [hr,hwd] at hnx
     rw [hr,hwd] at hh
     rw [hr] at hrl
     have hbw2:=Lib.below_iterAt hbw (k:=w.heap.size) (yoI _) s (k+wd)
     generalize wr.iterAt w.heap.size s (k+wd)=wi at*
     have hv:zbC (r:Int)=false:=zhH _ (by omega)
     have HF:=yoH (HNO.out (zeT 10 s k hp (by rw [zjO];exact zhH _ (by omega))))
     clear hc hr hwd
     go_wp2_with (go_at_call 100;refine (zbZ _ _).mono ?_;rintro e w' ⟨rfl,rfl⟩)
     go_ret2
     exact zfB HF.out hbw2
   ·have hnx: ∀ty,(Instr.next (.pointer (some ⟨w.heap.size,0,none⟩)) true ty).run Tryz.prog wr=_:=fun ty=>Lib.run_next_end_at wr w.heap.size s k ty hit hp
    have hdt:=HDG.out
    rw [zeV s k hp] at hdt
    have hat:=HA.out
    rw [zeV s k hp] at hat
    have HF:=yoH (HYES.out hdt (by rw [←hat];exact HK.out (by omega)))
    have HAT:=yoH hat
    clear hdt hat
    go_wp2
    go_ret2
    exact zfB (by rw [HF.out,HAT.out]) hbw
theorem zmQ (s:ByteArray) (m:Int) (w:World) (hs:s.size≤1073741824) (hm:m≤9223372036854775807) (hm0: -9223372036854775808≤m):
  Calls Tryz.prog 245 #[.string s,.int .i64 m] w (ybV w (decZ s.data.toList m)):=by
 by_cases hn:s.size=0
 ·obtain rfl:=zdP s hn
  have HF:=yoH (zwG (ByteArray.mk #[]).data.toList m (.inl rfl))
  clear hn hs
  go_enter Tryz.func245,Tryz.ntmps245
  go_wp2
  go_ret2
  exact zfB HF.out (yoL _ _)
 ·by_cases hz:1<s.size∧s[0].toNat=48
  ·obtain ⟨h1,h0⟩:=hz
   have HF:=yoH (zwG s.data.toList m (.inr ⟨by rw [zaN];exact h1,by rw [zwR s (by omega)];exact h0⟩))
   have hse:=zdX s hn
   have l0:0<s.size:=by omega
   go_enter Tryz.func245,Tryz.ntmps245
   go_wp2
   go_ret2
   exact zfB HF.out (yoL _ _)
  ·exact zxA s m w hs hm hm0 (by omega) hz
def zfM (l:List UInt8):Bool:= !l.isEmpty&&zbR 10 l
theorem ycL {l:List UInt8} (h:zbR 10 l=false):zfM l=false:=by unfold zfM;rw [h];simp
theorem z3U {s:ByteArray} (hn:s.size≠0) (h:zbR 10 s.data.toList=true):zfM s.data.toList=true:=by
 unfold zfM;rw [h]
 cases hd:s.data.toList with
 |nil=>exact absurd hd (zgX s hn)
 |cons a l=>rfl
def zbN (w:World) (b:Bool) (e:Ending) (w':World):Prop:=e= .returned (.bool b)∧Below w.heap.size w w'
theorem zaE {w w':World} {x b:Bool} (h:x=b) (hb:Below w.heap.size w w'):zbN w x (.returned (.bool b)) w':=by
 subst h;exact ⟨rfl,hb⟩
theorem zgW (s:ByteArray) (w:World) (hs:s.size≤1073741824):
  Calls Tryz.prog 140 #[.string s] w (zbN w (zfM s.data.toList)):=by
 by_cases hn:s.size=0
 ·obtain rfl:=zdP s hn
  have HF:Hid (zfM (ByteArray.mk #[]).data.toList=false):=rfl
  clear hn hs
  go_enter Tryz.func140,Tryz.ntmps140
  go_wp2
  go_loopw [] (fun wr=>wr.heap[w.heap.size]? =some (.stringIter ⟨#[]⟩ 0)∧Below w.heap.size w wr) (fun _=>0)
  case atStart=>exact ⟨World.iter_heap w ⟨#[]⟩ 0,(yoL _ w).alloc (yoI _) _⟩
  case round=>
   obtain ⟨hit,hbw⟩:=hrel
   have hnx: ∀ty,(Instr.next (.pointer (some ⟨w.heap.size,0,none⟩)) true ty).run Tryz.prog wr=_:=fun ty=>Lib.run_next_end_at wr w.heap.size ⟨#[]⟩ 0 ty hit (by decide)
   go_wp2
   go_ret
   exact zaE HF.out hbw
 ·have HNO:=yoH (ycL (l:=s.data.toList))
  have HYES:=yoH (z3U hn)
  have hse:=zdX s hn
  clear hn
  go_enter Tryz.func140,Tryz.ntmps140
  go_wp2
  go_loopw [] (fun wr=> ∃(k:Nat),k≤s.size∧wr.heap[w.heap.size]? =some (.stringIter s k)∧Below w.heap.size w wr∧w.heap.size+1≤wr.heap.size∧Hid (zbR 10 (s.data.toList.take k)=true)) (fun wr=>s.size - wr.iterPos w.heap.size)
  case atStart=>exact ⟨0,Nat.zero_le _,World.iter_heap w s 0,(yoL _ w).alloc (yoI _) _,by simp [World.iter],rfl⟩
  case round=>
   obtain ⟨k,hk,hit,hbw,hsz,HDG⟩:=hrel
   by_cases hp:k<s.size
   ·obtain ⟨c,hc⟩: ∃c,(s[k]'hp).toNat=c:=⟨_,rfl⟩
    have hnx: ∀ty,(Instr.next (.pointer (some ⟨w.heap.size,0,none⟩)) true ty).run Tryz.prog wr=_:=fun ty=>Lib.run_next_any_at wr w.heap.size s k ty hit hp
    by_cases hc128:c<128
    ·have hdec:=decode_ascii s k hp (by omega)
     rw [hc] at hdec
     rw [hdec] at hnx
     have hit2:=Lib.iterAt_heap wr w.heap.size s k (k+1) hit
     have hbw2:=Lib.below_iterAt hbw (k:=w.heap.size) (yoI _) s (k+1)
     have hsz2:w.heap.size+1≤(wr.iterAt w.heap.size s (k+1)).heap.size:=by rw [Lib.iterAt_size];exact hsz
     simp only at hnx
     generalize wr.iterAt w.heap.size s (k+1)=wi at*
     have HIT:=yoH hit
     have HC:=yoH hc
     clear hit hc hdec
     cases hdg:zbC (c:Int) with
     |false=>
      have HF:=yoH (HNO.out (zeT 10 s k hp (by rw [zjO,HC.out];exact hdg)))
      go_wp2_with (go_at_call 100;refine (zbZ _ _).mono ?_;rintro e w' ⟨rfl,rfl⟩)
      go_ret
      exact zaE HF.out hbw2
     |true=>
      have HF:=yoH (zmC 10 s k hp HDG.out (by rw [zjO,HC.out];exact hdg))
      go_wp2_with (go_at_call 100;refine (zbZ _ _).mono ?_;rintro e w' ⟨rfl,rfl⟩)
      go_roundw
      case rel=>exact ⟨k+1,by omega,hit2,hbw2,hsz2,HF⟩
      case measure=>
       simp only [World.iterPos,hit2,HIT.out]
       omega
    ·have hh:=decode_high s k hp (by omega)
     obtain ⟨r,hr⟩: ∃r,(Utf8.decode s k).1=r:=⟨_,rfl⟩
     obtain ⟨wd,hwd⟩: ∃r,(Utf8.decode s k).2=r:=⟨_,rfl⟩
     have hrl:=decode_le s k
     rw [hr,hwd] at hnx
     rw [hr,hwd] at hh
     rw [hr] at hrl
     have hbw2:=Lib.below_iterAt hbw (k:=w.heap.size) (yoI _) s (k+wd)
     generalize wr.iterAt w.heap.size s (k+wd)=wi at*
     have hv:zbC (r:Int)=false:=zhH _ (by omega)
     have HF:=yoH (HNO.out (zeT 10 s k hp (by rw [zjO];exact zhH _ (by omega))))
     clear hc hr hwd
     go_wp2_with (go_at_call 100;refine (zbZ _ _).mono ?_;rintro e w' ⟨rfl,rfl⟩)
     go_ret
     exact zaE HF.out hbw2
   ·have hnx: ∀ty,(Instr.next (.pointer (some ⟨w.heap.size,0,none⟩)) true ty).run Tryz.prog wr=_:=fun ty=>Lib.run_next_end_at wr w.heap.size s k ty hit hp
    have hdt:=HDG.out
    rw [zeV s k hp] at hdt
    have HF:=yoH (HYES.out hdt)
    clear hdt
    go_wp2
    go_ret
    exact zaE HF.out hbw
def zkI (ps:List (List UInt8)):List UInt8:=
 if 1<ps.length∧ps.getD (ps.length - 1) []=[] then ps.getD (ps.length - 2) [] else ps.getD (ps.length - 1) []
def zaU (l:List UInt8):List (List UInt8):=zbG (hasB [46]) l
def zpB (x:List UInt8):Bool:=zfM x||(zcZ x).2
def ziC (l:List UInt8):Bool:=zpB (zkI (zaU l))
theorem ygY (p:UInt8→Bool) (l:List UInt8): ∀st:List (List UInt8)×List UInt8,(∀x∈(l.foldl (zaT p) st).1,x∈st.1∨x.length≤st.2.length+l.length)∧(l.foldl (zaT p) st).2.length≤st.2.length+l.length:=by
 induction l with
 |nil=>intro st;exact ⟨fun x hx=> .inl hx,by simp⟩
 |cons c l ih=>
  intro st
  simp only [List.foldl_cons,List.length_cons]
  have h:=ih (zaT p st c)
  by_cases hp:p c=true
  ·have e:zaT p st c=(st.1++[st.2],[]):=by simp [zaT,hp]
   rw [e] at h ⊢
   refine ⟨fun x hx=> ?_,by have:=h.2;simp at this;omega⟩
   rcases h.1 x hx with h1|h1
   ·simp at h1
    rcases h1 with h1|h1
    ·exact .inl h1
    ·subst h1;exact .inr (by omega)
   ·simp at h1;exact .inr (by omega)
  ·have e:zaT p st c=(st.1,st.2++[c]):=by simp [zaT,hp]
   rw [e] at h ⊢
   refine ⟨fun x hx=> ?_,by have:=h.2;simp at this;omega⟩
   rcases h.1 x hx with h1|h1
   ·exact .inl h1
   ·simp at h1;exact .inr (by omega)
theorem yiC (p:UInt8→Bool) (l x:List UInt8) (h:x∈zbG p l):x.length≤l.length:=by
 have k:=ygY p l ([],[])
 unfold zbG at h
 rcases List.mem_append.1 h with h|h
 ·rcases k.1 x h with h|h
  ·simp at h
  ·simpa using h
 ·simp at h
  subst h
  exact Nat.le_trans k.2 (by simp)
theorem ziU (p:UInt8→Bool) (l:List UInt8) (j:Nat):((zbG p l).getD j []).length≤l.length:=by
 by_cases h:j<(zbG p l).length
 ·refine yiC p l _ ?_
  rw [List.getD,List.getElem?_eq_getElem h]
  exact List.getElem_mem h
 ·rw [List.getD,List.getElem?_eq_none (by omega)]
  simp
theorem znT (n:Nat) (x:List UInt8) (ps:List (List UInt8)) (h:ps.length=n+1) (hx:ps.getD n []=x) (hc:n=0∨x≠[]):zkI ps=x:=by
 unfold zkI
 rw [h,Nat.add_sub_cancel,hx,if_neg]
 rintro ⟨h1,h2⟩
 rcases hc with h3|h3
 ·omega
 ·exact h3 h2
theorem zyM (n:Nat) (y:List UInt8) (ps:List (List UInt8)) (h:ps.length=n+2) (hx:ps.getD (n+1) []=[]) (hy:ps.getD n []=y):zkI ps=y:=by
 unfold zkI
 rw [h,show n+2 - 1=n+1 from rfl,hx,if_pos ⟨by omega,rfl⟩,show n+2 - 2=n from rfl,hy]
theorem zeU {x:List UInt8} (h:x≠[]):x.isEmpty=false:=by cases x with|nil=>exact absurd rfl h|cons a l=>rfl
theorem zjN {x:List UInt8} (h:zfM x=true):zpB x=true:=by unfold zpB;rw [h];rfl
theorem zjQ {x:List UInt8} {b:Bool} (h:zfM x=false) (hb:(zcZ x).2=b):zpB x=b:=by unfold zpB;rw [h,hb];rfl
theorem yhZ (s:ByteArray) (w:World) (hs:s.size≤1073741824) (x:List UInt8) (hl:(zaU s.data.toList).length=1) (hx:(zaU s.data.toList).getD 0 []=x):
  Calls Tryz.prog 91 #[.string s] w (zbN w (ziC s.data.toList)):=by
 have hxl:x.length≤s.size:=by rw [←hx,←zaN];exact ziU _ _ _
 have HE0:=yoH (show ziC s.data.toList=zpB x from by unfold ziC;rw [znT 0 x _ hl hx (.inl rfl)])
 have HL:=yoH hl
 have HX:=yoH hx
 clear hl hx
 go_enter Tryz.func91,Tryz.ntmps91
 go_wp2_with fail
 refine (zdN s _ _ hs).mono ?_
 rintro e w1 ⟨v,rfl,hp,hb1⟩
 have hp':zbA w.heap.size w1 v (zaU s.data.toList):=hp
 obtain ⟨g,cap,rfl,hg,hcell⟩:=hp'.form (by rw [HL.out];omega)
 rw [HL.out]
 rw [HL.out] at hcell
 have hcx:=hcell 0 (by omega)
 rw [HX.out] at hcx
 clear hcell hp hp'
 by_cases haz:zfM x=true
 -- digits alone
 ·have HE:=yoH (HE0.out.trans (zjN haz))
  have HAZ:=yoH haz
  clear haz
  go_wp2_with fail
  refine (zgW ⟨x.toArray⟩ _ (by rw [zaB];omega)).mono ?_
  rw [zaL,HAZ.out]
  rintro e w2 ⟨rfl,hb2⟩
  have hc2:Below w.heap.size w w2:=hb1.trans (hb2.mono hb1.size)
  clear hb1 hb2
  go_wp2
  go_ret
  exact zaE HE.out hc2
 ·have haf:zfM x=false:=by simpa using haz
  have HE:=yoH (HE0.out.trans (zjQ haf rfl))
  have HAZ:=yoH haf
  clear haz haf
  go_wp2_with fail
  refine (zgW ⟨x.toArray⟩ _ (by rw [zaB];omega)).mono ?_
  rw [zaL,HAZ.out]
  rintro e w2 ⟨rfl,hb2⟩
  have hc2:Below w.heap.size w w2:=hb1.trans (hb2.mono hb1.size)
  have hcx2:=(hb2.cell (p:=⟨g,0,none⟩) hg).trans hcx
  clear hb1 hb2 hcx
  go_wp2_with fail
  refine (zjZ ⟨x.toArray⟩ _ (by rw [zaB];omega)).mono ?_
  rw [zaL]
  rintro e w3 ⟨rfl,hb3⟩
  have hc3:Below w.heap.size w w3:=hc2.trans (hb3.mono hc2.size)
  clear hc2 hb3 hcx2
  go_wp2
  go_ret
  exact zaE HE.out hc3
theorem z4L (s:ByteArray) (w:World) (hs:s.size≤1073741824) (n:Nat) (x:List UInt8) (hl:(zaU s.data.toList).length=n+2) (hx:(zaU s.data.toList).getD (n+1) []=x) (hne:x≠[]):
  Calls Tryz.prog 91 #[.string s] w (zbN w (ziC s.data.toList)):=by
 have hxl:x.length≤s.size:=by rw [←hx,←zaN];exact ziU _ _ _
 have HE0:=yoH (show ziC s.data.toList=zpB x from by unfold ziC;rw [znT (n+1) x _ hl hx (.inr hne)])
 have hxe:x.isEmpty=false:=zeU hne
 have HL:=yoH hl
 have HX:=yoH hx
 clear hl hx hne
 have hnb:n≤1073741824:=by
  have h1:=zdK (hasB [46]) s.data.toList
  rw [zaN] at h1
  have h2:=HL.out
  unfold zaU at h2
  omega
 go_enter Tryz.func91,Tryz.ntmps91
 go_wp2_with fail
 refine (zdN s _ _ hs).mono ?_
 rintro e w1 ⟨v,rfl,hp,hb1⟩
 have hp':zbA w.heap.size w1 v (zaU s.data.toList):=hp
 obtain ⟨g,cap,rfl,hg,hcell⟩:=hp'.form (by rw [HL.out];omega)
 rw [HL.out]
 rw [HL.out] at hcell
 have hcx:=hcell (n+1) (by omega)
 rw [HX.out] at hcx
 clear hcell hp hp'
 by_cases haz:zfM x=true
 -- digits alone
 ·have HE:=yoH (HE0.out.trans (zjN haz))
  have HAZ:=yoH haz
  clear haz
  go_wp2_with fail
  refine (zgW ⟨x.toArray⟩ _ (by rw [zaB];omega)).mono ?_
  rw [zaL,HAZ.out]
  rintro e w2 ⟨rfl,hb2⟩
  have hc2:Below w.heap.size w w2:=hb1.trans (hb2.mono hb1.size)
  clear hb1 hb2
  go_wp2
  go_ret
  exact zaE HE.out hc2
 ·have haf:zfM x=false:=by simpa using haz
  have HE:=yoH (HE0.out.trans (zjQ haf rfl))
  have HAZ:=yoH haf
  clear haz haf
  go_wp2_with fail
  refine (zgW ⟨x.toArray⟩ _ (by rw [zaB];omega)).mono ?_
  rw [zaL,HAZ.out]
  rintro e w2 ⟨rfl,hb2⟩
  have hc2:Below w.heap.size w w2:=hb1.trans (hb2.mono hb1.size)
  have hcx2:=(hb2.cell (p:=⟨g,(n+1),none⟩) hg).trans hcx
  clear hb1 hb2 hcx
  go_wp2_with fail
  refine (zjZ ⟨x.toArray⟩ _ (by rw [zaB];omega)).mono ?_
  rw [zaL]
  rintro e w3 ⟨rfl,hb3⟩
  have hc3:Below w.heap.size w w3:=hc2.trans (hb3.mono hc2.size)
  clear hc2 hb3 hcx2
  go_wp2
  go_ret
  exact zaE HE.out hc3
theorem zvJ (s:ByteArray) (w:World) (hs:s.size≤1073741824) (n:Nat) (x:List UInt8) (hl:(zaU s.data.toList).length=n+2) (hx:(zaU s.data.toList).getD n []=x) (hy:(zaU s.data.toList).getD (n+1) []=[]):
  Calls Tryz.prog 91 #[.string s] w (zbN w (ziC s.data.toList)):=by
 have hxl:x.length≤s.size:=by rw [←hx,←zaN];exact ziU _ _ _
 have HE0:=yoH (show ziC s.data.toList=zpB x from by unfold ziC;rw [zyM n x _ hl hy hx])
 have HL:=yoH hl
 have HX:=yoH hx
 have HY:=yoH hy
 clear hl hx hy
 have hnb:n≤1073741824:=by
  have h1:=zdK (hasB [46]) s.data.toList
  rw [zaN] at h1
  have h2:=HL.out
  unfold zaU at h2
  omega
 go_enter Tryz.func91,Tryz.ntmps91
 go_wp2_with fail
 refine (zdN s _ _ hs).mono ?_
 rintro e w1 ⟨v,rfl,hp,hb1⟩
 have hp':zbA w.heap.size w1 v (zaU s.data.toList):=hp
 obtain ⟨g,cap,rfl,hg,hcell⟩:=hp'.form (by rw [HL.out];omega)
 rw [HL.out]
 rw [HL.out] at hcell
 have hcx:=hcell n (by omega)
 rw [HX.out] at hcx
 have hcy:=hcell (n+1) (by omega)
 rw [HY.out] at hcy
 clear hcell hp hp'
 by_cases haz:zfM x=true
 -- digits alone
 ·have HE:=yoH (HE0.out.trans (zjN haz))
  have HAZ:=yoH haz
  clear haz
  go_wp2_with fail
  refine (zgW ⟨x.toArray⟩ _ (by rw [zaB];omega)).mono ?_
  rw [zaL,HAZ.out]
  rintro e w2 ⟨rfl,hb2⟩
  have hc2:Below w.heap.size w w2:=hb1.trans (hb2.mono hb1.size)
  clear hb1 hb2
  go_wp2
  go_ret
  exact zaE HE.out hc2
 ·have haf:zfM x=false:=by simpa using haz
  have HE:=yoH (HE0.out.trans (zjQ haf rfl))
  have HAZ:=yoH haf
  clear haz haf
  go_wp2_with fail
  refine (zgW ⟨x.toArray⟩ _ (by rw [zaB];omega)).mono ?_
  rw [zaL,HAZ.out]
  rintro e w2 ⟨rfl,hb2⟩
  have hc2:Below w.heap.size w w2:=hb1.trans (hb2.mono hb1.size)
  have hcx2:=(hb2.cell (p:=⟨g,n,none⟩) hg).trans hcx
  clear hb1 hb2 hcx
  go_wp2_with fail
  refine (zjZ ⟨x.toArray⟩ _ (by rw [zaB];omega)).mono ?_
  rw [zaL]
  rintro e w3 ⟨rfl,hb3⟩
  have hc3:Below w.heap.size w w3:=hc2.trans (hb3.mono hc2.size)
  clear hc2 hb3 hcx2
  go_wp2
  go_ret
  exact zaE HE.out hc3
theorem yhR (s:ByteArray) (w:World) (hs:s.size≤1073741824):
  Calls Tryz.prog 91 #[.string s] w (zbN w (ziC s.data.toList)):=by
 have h0:0<(zaU s.data.toList).length:=zkH _ _
 by_cases h1:(zaU s.data.toList).length=1
 ·exact yhZ s w hs _ h1 rfl
 ·obtain ⟨n,hn⟩: ∃n,(zaU s.data.toList).length=n+2:=⟨(zaU s.data.toList).length - 2,by omega⟩
  by_cases he:(zaU s.data.toList).getD (n+1) []=[]
  ·exact zvJ s w hs n _ hn rfl he
  ·exact z4L s w hs n _ hn rfl he
theorem z1U (p:UInt8→Bool) (l:List UInt8): ∀(xs:List (List UInt8)) (t:List UInt8),(∀c∈l,p c=false)→l.foldl (zaT p) (xs,t)=(xs,t++l):=by
 induction l with
 |nil=>intro xs t _;simp
 |cons c l ih=>
  intro xs t h
  have hc:=h c (by simp)
  simp only [List.foldl_cons,zaT,hc]
  rw [show (if false=true then (xs++[t],[]) else (xs,t++[c]))=(xs,t++[c]) from rfl,ih _ _ (fun d hd=>h d (by simp [hd]))]
  simp
theorem has46 (c:UInt8):hasB [46] c=decide (c=46):=by
 simp only [hasB,List.any_cons,List.any_nil,Bool.or_false]
 by_cases h:c=46
 ·subst h;rfl
 ·rw [yoJ h];exact beq_eq_false_iff_ne.2 (fun e=>h e.symm)
end
end
section
open Go.RowKit
theorem yaQ (n:Nat) (h:n<16):valZ ((hexN n).toNat:Int)=n∧(hexN n).toNat≠37∧(hexN n).toNat<128:=by
 have key: ∀n:Fin 16,valZ ((hexN n.val).toNat:Int)=n.val∧(hexN n.val).toNat≠37∧(hexN n.val).toNat<128:=by decide+kernel
 exact key ⟨n,h⟩
theorem ykB (st:Nat) (n:Nat) (hs:st<6) (h:n<16):inB st ((hexN n).toNat:Int)=false∧inB st 37=false:=by
 have key: ∀st:Fin 6,∀n:Fin 16,inB (st.val:Int) ((hexN n.val).toNat:Int)=false∧inB (st.val:Int) 37=false:=by decide+kernel
 exact key ⟨st,hs⟩ ⟨n,h⟩
theorem zuM {st r:Int} (h0:0≤st) (h1:st≤5) (h:inB st r=false):31<r∧r≤126:=by
 by_cases hc:r≤31∨126<r
 ·rw [ybF h0 h1 hc] at h;cases h
 ·omega
theorem zfW {r:Int} (h0:0≤r) (h1:r<128):Lib.encodeRune r=[r.toNat.toUInt8]:=by
 unfold Lib.encodeRune
 rw [Lib.encodeRuneZ_one h0 (by omega)]
 rfl
theorem zuH (st:Int) (h0:0≤st) (h1:st≤5) (l:List Int): ∀b∈encB st l,b.toNat<128∧inB st (b.toNat:Int)=false:=by
 intro b hb
 obtain ⟨r,_,hb⟩:=List.mem_flatMap.1 hb
 cases hin:inB st r with
 |true=>
  have e:encP st r=pctL (Lib.encodeRune r):=by unfold encP;rw [hin];rfl
  rw [e] at hb
  obtain ⟨c,_,hb⟩:=List.mem_flatMap.1 hb
  have hc:=c.toNat_lt
  have hst:st=(st.toNat:Int):=(Int.toNat_of_nonneg h0).symm
  have k1:=ykB st.toNat (c.toNat/16) (by omega) (by omega)
  have k2:=ykB st.toNat (c.toNat % 16) (by omega) (by omega)
  rw [←hst] at k1 k2
  have v1:=yaQ (c.toNat/16) (by omega)
  have v2:=yaQ (c.toNat % 16) (by omega)
  simp only [pctB,List.mem_cons,List.not_mem_nil,or_false] at hb
  rcases hb with rfl|rfl|rfl
  ·exact ⟨by decide,k1.2⟩
  ·exact ⟨v1.2.2,k1.1⟩
  ·exact ⟨v2.2.2,k2.1⟩
 |false=>
  have e:encP st r=Lib.encodeRune r:=by unfold encP;rw [hin];rfl
  have ha:=zuM h0 h1 hin
  rw [e,zfW (by omega) (by omega)] at hb
  simp only [List.mem_cons,List.not_mem_nil,or_false] at hb
  subst hb
  rw [z5A r (by omega) (by omega),Int.toNat_of_nonneg (by omega)]
  exact ⟨by omega,hin⟩
def zoD (e:List UInt8):List Int:=e.map fun b=>(b.toNat:Int)
theorem zyH (e:List UInt8) (h: ∀b∈e,b.toNat<128):zeK (zoD e)=e:=by
 induction e with
 |nil=>rfl
 |cons b e ih=>
  have hb:=h b (List.mem_cons_self ..)
  have ih':=ih (fun x hx=>h x (List.mem_cons_of_mem _ hx))
  show zeK ((b.toNat:Int)::zoD e)=b::e
  rw [ziM,ih',zfW (by omega) (by omega),zgZ]
  rfl
theorem z5P (e:List UInt8) (h: ∀b∈e,b.toNat<128):scal ⟨e.toArray⟩=zoD e:=by
 have h1:=z8U (zoD e)
 rw [zyH e h] at h1
 rw [h1]
 have: ∀x∈zoD e,fixZ x=x:=by
  intro x hx
  obtain ⟨b,hb,rfl⟩:=List.mem_map.1 hx
  have:=h b hb
  have hv:isB (b.toNat:Int)=true:=yoK (by omega)
  exact if_pos hv
 exact (List.map_congr_left this).trans (List.map_id _)
theorem ygD (st:Int) (e:List UInt8) (h: ∀b∈e,b.toNat<128∧inB st (b.toNat:Int)=false):encB st (zoD e)=e:=by
 induction e with
 |nil=>rfl
 |cons b e ih=>
  have hb:=h b (List.mem_cons_self ..)
  have ih':=ih (fun x hx=>h x (List.mem_cons_of_mem _ hx))
  show encB st ((b.toNat:Int)::zoD e)=b::e
  have he:encP st (b.toNat:Int)=[b]:=by
   unfold encP
   rw [hb.2,zfW (by omega) (by omega),zgZ]
   rfl
  rw [znN,ih',he]
  rfl
end
end Go.Proofs.YtmjappnpedjlnaaGreatDoor
