/-
  What the law WhatwgChains leans on, and its walk (2 of 33).
-/
import Derived.IntWalk
import Derived.StillTailTactics
import Derived.Deep.RegionHeld3
import Derived.Deep.AppendLies
import Derived.Test.YtcagcjdhbijknaaGreatDoorWhatwgChainsPkA
namespace Go.Proofs.YtcagcjdhbijknaaGreatDoor
set_option maxRecDepth 100000
set_option maxHeartbeats 16000000
abbrev ygO := @Lib.hid
abbrev ygP := @Nat.le_refl
abbrev ygQ := @decide_eq_false
abbrev ygR := @decide_eq_true
abbrev ygS := @Go.RowKit.Below.refl
section
section
open Go.RowKit
def hexN (n:Nat):UInt8:=([48,49,50,51,52,53,54,55,56,57,65,66,67,68,69,70]:List UInt8).getD n 0
def pctB (c:UInt8):List UInt8:=[37,hexN (c.toNat/16),hexN (c.toNat % 16)]
theorem ydD (n:Nat) (h:n<(ByteArray.mk #[48,49,50,51,52,53,54,55,56,57,65,66,67,68,69,70]).size):((ByteArray.mk #[48,49,50,51,52,53,54,55,56,57,65,66,67,68,69,70])[n]'h).toNat=(hexN n).toNat:=by
 have key: ∀n:Fin 16,((ByteArray.mk #[48,49,50,51,52,53,54,55,56,57,65,66,67,68,69,70])[n.val]'n.isLt).toNat=(hexN n.val).toNat:=by decide
 exact key ⟨n,h⟩
theorem yaM (c:UInt8) (w:World):
  Calls Tryz.prog 136 #[.int .u8 (c.toNat:Int)] w fun e w'=>e= .returned (.string ⟨(pctB c).toArray⟩)∧Below w.heap.size w w':=by
 obtain ⟨n,hn⟩: ∃n,c.toNat=n:=⟨_,rfl⟩
 have hc:n<256:=by rw [←hn];exact c.toNat_lt
 have hR:pctB c=[37,hexN (n/16),hexN (n % 16)]:=by unfold pctB;rw [hn]
 rw [hn,hR]
 clear hn hR c
 have h1:(0:Int)≤(n:Int)/16:=by omega
 have h2:(n:Int)/16<16:=by omega
 have h3:(0:Int)≤(n:Int) % 16:=by omega
 have h4:(n:Int) % 16<16:=by omega
 have k1:n/16<(ByteArray.mk #[48,49,50,51,52,53,54,55,56,57,65,66,67,68,69,70]).size:=by show n/16<16;omega
 have k2:n % 16<(ByteArray.mk #[48,49,50,51,52,53,54,55,56,57,65,66,67,68,69,70]).size:=by show n % 16<16;omega
 have hcv:=ziR (P:=Tryz.prog) w.drew 73 9 5 [37,(((ByteArray.mk #[48,49,50,51,52,53,54,55,56,57,65,66,67,68,69,70])[n/16]'k1).toNat:Int),(((ByteArray.mk #[48,49,50,51,52,53,54,55,56,57,65,66,67,68,69,70])[n % 16]'k2).toNat:Int)]
  (by
   intro x hx
   simp only [List.mem_cons,List.not_mem_nil,or_false] at hx
   rcases hx with rfl|rfl|rfl
   ·decide
   ·have:=((ByteArray.mk #[48,49,50,51,52,53,54,55,56,57,65,66,67,68,69,70])[n/16]'k1).toNat_lt;omega
   ·have:=((ByteArray.mk #[48,49,50,51,52,53,54,55,56,57,65,66,67,68,69,70])[n % 16]'k2).toNat_lt;omega)
  Tryz.underlying73 Tryz.underlying5 Tryz.underlying9
 have hcv2:(convert 73 9 (.slice (some ⟨w.heap.size,0,none⟩) 3 3)).run Tryz.prog ((w.alloc (.cells #[.int .u8 37,.int .u8 (((ByteArray.mk #[48,49,50,51,52,53,54,55,56,57,65,66,67,68,69,70])[n/16]'k1).toNat:Int),.int .u8 (((ByteArray.mk #[48,49,50,51,52,53,54,55,56,57,65,66,67,68,69,70])[n % 16]'k2).toNat:Int)] 5)).drew)=_:=hcv
 clear hcv
 have hR:zfM [37,(((ByteArray.mk #[48,49,50,51,52,53,54,55,56,57,65,66,67,68,69,70])[n/16]'k1).toNat:Int),(((ByteArray.mk #[48,49,50,51,52,53,54,55,56,57,65,66,67,68,69,70])[n % 16]'k2).toNat:Int)]=[37,hexN (n/16),hexN (n % 16)]:=by
  simp only [zfM,List.map_cons,List.map_nil,ydD _ k1,ydD _ k2,znD]
  rfl
 rw [hR] at hcv2
 clear hR
 generalize [37,hexN (n/16),hexN (n % 16)]=R at hcv2 ⊢
 go_enter Tryz.func136,Tryz.ntmps136
 go_wp2
 go_region
 all_goals (go_wp2;go_ret;exact ⟨rfl,((ygS _ _).alloc (ygP _) _).drew⟩)
theorem yfV (n:Nat) (h:n<16):(ByteArray.mk #[48,49,50,51,52,53,54,55,56,57,65,66,67,68,69,70]).extract n (n+1)=⟨[hexN n].toArray⟩:=by
 have key: ∀n:Fin 16,((ByteArray.mk #[48,49,50,51,52,53,54,55,56,57,65,66,67,68,69,70]).extract n.val (n.val+1)).data.toList=[hexN n.val]:=by decide
 apply ByteArray.ext
 apply Array.ext'
 exact key ⟨n,h⟩
theorem z1H (n:Int) (w:World) (h0:0≤n) (h1:n<16):
  Calls Tryz.prog 140 #[.int .u8 n] w fun e w'=>e= .returned (.string ⟨[hexN n.toNat].toArray⟩)∧w=w':=by
 obtain ⟨k,rfl⟩:=Int.eq_ofNat_of_zero_le h0
 have hk:k<16:=by omega
 have HX:=ygO (yfV k hk)
 rw [Int.toNat_natCast]
 go_enter Tryz.func140,Tryz.ntmps140
 go_wp2
 go_ret
 exact ⟨by rw [←HX.out];rfl,rfl⟩
theorem zwQ (c:UInt8) (w:World):
  Calls Tryz.prog 98 #[.int .u8 (c.toNat:Int)] w fun e w'=>e= .returned (.string ⟨(pctB c).toArray⟩)∧w=w':=by
 obtain ⟨n,hn⟩: ∃n,c.toNat=n:=⟨_,rfl⟩
 have hc:n<256:=by rw [←hn];exact c.toNat_lt
 have hR:pctB c=[37,hexN (n/16),hexN (n % 16)]:=by unfold pctB;rw [hn]
 rw [hn,hR]
 clear hn hR c
 go_enter Tryz.func98,Tryz.ntmps98
 go_wp2_with (go_at_call 140;refine (z1H _ _ (by omega) (by omega)).mono ?_;rintro e w' ⟨rfl,rfl⟩)
 go_ret
 refine ⟨?_,rfl⟩
 have e1:((n:Int)/16).toNat=n/16:=by omega
 have e2:((n:Int) % 16).toNat=n % 16:=by omega
 first
  |(rw [←e1,←e2];rfl)
  |rfl
  |(simp only [e1,e2];rfl)
def setL:Nat→List Int
 |1=>[32,34,60,62,96]
 |2=>[32,34,35,60,62]
 |3=>[32,34,35,60,62,39]
 |4=>[32,34,35,60,62,63,94,96,123,125]
 |5=>[32,34,35,60,62,63,94,96,123,125,47,58,59,61,64,91,92,93,124]
 |_=>[]
def inB (s r:Int):Bool:=decide (0≤s∧s≤5)&&(decide (r≤31∨126<r)||(setL s.toNat).contains r)
theorem z3S {s r:Int} (h:s<0∨5<s):inB s r=false:=by
 unfold inB
 rw [ygQ (by omega)];rfl
theorem zxA {s r:Int} (h0:0≤s) (h1:s≤5) (h:r≤31∨126<r):inB s r=true:=by
 unfold inB
 rw [ygR ⟨h0,h1⟩,ygR h];rfl
theorem zfI {s r:Int} (h0:0≤s) (h1:s≤5) (h2:31<r) (h3:r≤126):inB s r=(setL s.toNat).contains r:=by
 unfold inB
 rw [ygR ⟨h0,h1⟩,ygQ (by omega)];simp
theorem yfE (n:Nat) (h:n<127):decide (0≤Lib.indexByte ([]:List UInt8) n.toUInt8)=(setL 0).contains (n:Int):=by
 have key: ∀n:Fin 127,decide (0≤Lib.indexByte ([]:List UInt8) n.val.toUInt8)=(setL 0).contains (n.val:Int):=by decide+kernel
 exact key ⟨n,h⟩
theorem ygB (r:Int) (w:World) (h2:31<r) (h3:r≤126):
  Calls Tryz.prog 133 #[.int .u8 0,.int .i32 r] w fun e w'=>e= .returned (.bool (inB 0 r))∧w=w':=by
 obtain ⟨n,rfl⟩:=Int.eq_ofNat_of_zero_le (show 0≤r by omega)
 have HB:=ygO ((zfI (s:=0) (by decide) (by decide) h2 h3).trans (yfE n (by omega)).symm)
 go_enter Tryz.func133,Tryz.ntmps133
 go_wp2_with (first|(go_at_call 24;refine (Tryz.strings_ContainsRune_ascii _ _ _ (by omega) (by omega)).mono ?_;rintro e w' ⟨rfl,rfl⟩)|go_in)
 go_ret
 exact ⟨zaD (by rw [HB.out];have d1:decide ((n:Int)≤31)=false:=ygQ (by omega);have d2:decide (126<(n:Int))=false:=ygQ (by omega);simp only [d1,d2,Bool.false_or]),rfl⟩
theorem yfB (n:Nat) (h:n<127):decide (0≤Lib.indexByte ([32,34,60,62,96]:List UInt8) n.toUInt8)=(setL 1).contains (n:Int):=by
 have key: ∀n:Fin 127,decide (0≤Lib.indexByte ([32,34,60,62,96]:List UInt8) n.val.toUInt8)=(setL 1).contains (n.val:Int):=by decide+kernel
 exact key ⟨n,h⟩
theorem yeU (r:Int) (w:World) (h2:31<r) (h3:r≤126):
  Calls Tryz.prog 133 #[.int .u8 1,.int .i32 r] w fun e w'=>e= .returned (.bool (inB 1 r))∧w=w':=by
 obtain ⟨n,rfl⟩:=Int.eq_ofNat_of_zero_le (show 0≤r by omega)
 have HB:=ygO ((zfI (s:=1) (by decide) (by decide) h2 h3).trans (yfB n (by omega)).symm)
 go_enter Tryz.func133,Tryz.ntmps133
 go_wp2_with (first|(go_at_call 24;refine (Tryz.strings_ContainsRune_ascii _ _ _ (by omega) (by omega)).mono ?_;rintro e w' ⟨rfl,rfl⟩)|go_in)
 go_ret
 exact ⟨zaD (by rw [HB.out];have d1:decide ((n:Int)≤31)=false:=ygQ (by omega);have d2:decide (126<(n:Int))=false:=ygQ (by omega);simp only [d1,d2,Bool.false_or]),rfl⟩
theorem yfX (n:Nat) (h:n<127):decide (0≤Lib.indexByte ([32,34,35,60,62]:List UInt8) n.toUInt8)=(setL 2).contains (n:Int):=by
 have key: ∀n:Fin 127,decide (0≤Lib.indexByte ([32,34,35,60,62]:List UInt8) n.val.toUInt8)=(setL 2).contains (n.val:Int):=by decide+kernel
 exact key ⟨n,h⟩
theorem yfF (r:Int) (w:World) (h2:31<r) (h3:r≤126):
  Calls Tryz.prog 133 #[.int .u8 2,.int .i32 r] w fun e w'=>e= .returned (.bool (inB 2 r))∧w=w':=by
 obtain ⟨n,rfl⟩:=Int.eq_ofNat_of_zero_le (show 0≤r by omega)
 have HB:=ygO ((zfI (s:=2) (by decide) (by decide) h2 h3).trans (yfX n (by omega)).symm)
 go_enter Tryz.func133,Tryz.ntmps133
 go_wp2_with (first|(go_at_call 24;refine (Tryz.strings_ContainsRune_ascii _ _ _ (by omega) (by omega)).mono ?_;rintro e w' ⟨rfl,rfl⟩)|go_in)
 go_ret
 exact ⟨zaD (by rw [HB.out];have d1:decide ((n:Int)≤31)=false:=ygQ (by omega);have d2:decide (126<(n:Int))=false:=ygQ (by omega);simp only [d1,d2,Bool.false_or]),rfl⟩
theorem yfY (n:Nat) (h:n<127):decide (0≤Lib.indexByte ([32,34,35,60,62,39]:List UInt8) n.toUInt8)=(setL 3).contains (n:Int):=by
 have key: ∀n:Fin 127,decide (0≤Lib.indexByte ([32,34,35,60,62,39]:List UInt8) n.val.toUInt8)=(setL 3).contains (n.val:Int):=by decide+kernel
 exact key ⟨n,h⟩
theorem yfJ (r:Int) (w:World) (h2:31<r) (h3:r≤126):
  Calls Tryz.prog 133 #[.int .u8 3,.int .i32 r] w fun e w'=>e= .returned (.bool (inB 3 r))∧w=w':=by
 obtain ⟨n,rfl⟩:=Int.eq_ofNat_of_zero_le (show 0≤r by omega)
 have HB:=ygO ((zfI (s:=3) (by decide) (by decide) h2 h3).trans (yfY n (by omega)).symm)
 go_enter Tryz.func133,Tryz.ntmps133
 go_wp2_with (first|(go_at_call 24;refine (Tryz.strings_ContainsRune_ascii _ _ _ (by omega) (by omega)).mono ?_;rintro e w' ⟨rfl,rfl⟩)|go_in)
 go_ret
 exact ⟨zaD (by rw [HB.out];have d1:decide ((n:Int)≤31)=false:=ygQ (by omega);have d2:decide (126<(n:Int))=false:=ygQ (by omega);simp only [d1,d2,Bool.false_or]),rfl⟩
theorem yeK (n:Nat) (h:n<127):decide (0≤Lib.indexByte ([32,34,35,60,62,63,94,96,123,125]:List UInt8) n.toUInt8)=(setL 4).contains (n:Int):=by
 have key: ∀n:Fin 127,decide (0≤Lib.indexByte ([32,34,35,60,62,63,94,96,123,125]:List UInt8) n.val.toUInt8)=(setL 4).contains (n.val:Int):=by decide+kernel
 exact key ⟨n,h⟩
theorem yeL (r:Int) (w:World) (h2:31<r) (h3:r≤126):
  Calls Tryz.prog 133 #[.int .u8 4,.int .i32 r] w fun e w'=>e= .returned (.bool (inB 4 r))∧w=w':=by
 obtain ⟨n,rfl⟩:=Int.eq_ofNat_of_zero_le (show 0≤r by omega)
 have HB:=ygO ((zfI (s:=4) (by decide) (by decide) h2 h3).trans (yeK n (by omega)).symm)
 go_enter Tryz.func133,Tryz.ntmps133
 go_wp2_with (first|(go_at_call 24;refine (Tryz.strings_ContainsRune_ascii _ _ _ (by omega) (by omega)).mono ?_;rintro e w' ⟨rfl,rfl⟩)|go_in)
 go_ret
 exact ⟨zaD (by rw [HB.out];have d1:decide ((n:Int)≤31)=false:=ygQ (by omega);have d2:decide (126<(n:Int))=false:=ygQ (by omega);simp only [d1,d2,Bool.false_or]),rfl⟩
theorem ydX (n:Nat) (h:n<127):decide (0≤Lib.indexByte ([32,34,35,60,62,63,94,96,123,125,47,58,59,61,64,91,92,93,124]:List UInt8) n.toUInt8)=(setL 5).contains (n:Int):=by
 have key: ∀n:Fin 127,decide (0≤Lib.indexByte ([32,34,35,60,62,63,94,96,123,125,47,58,59,61,64,91,92,93,124]:List UInt8) n.val.toUInt8)=(setL 5).contains (n.val:Int):=by decide+kernel
 exact key ⟨n,h⟩
theorem ydQ (r:Int) (w:World) (h2:31<r) (h3:r≤126):
  Calls Tryz.prog 133 #[.int .u8 5,.int .i32 r] w fun e w'=>e= .returned (.bool (inB 5 r))∧w=w':=by
 obtain ⟨n,rfl⟩:=Int.eq_ofNat_of_zero_le (show 0≤r by omega)
 have HB:=ygO ((zfI (s:=5) (by decide) (by decide) h2 h3).trans (ydX n (by omega)).symm)
 go_enter Tryz.func133,Tryz.ntmps133
 go_wp2_with (first|(go_at_call 24;refine (Tryz.strings_ContainsRune_ascii _ _ _ (by omega) (by omega)).mono ?_;rintro e w' ⟨rfl,rfl⟩)|go_in)
 go_ret
 exact ⟨zaD (by rw [HB.out];have d1:decide ((n:Int)≤31)=false:=ygQ (by omega);have d2:decide (126<(n:Int))=false:=ygQ (by omega);simp only [d1,d2,Bool.false_or]),rfl⟩
theorem in_ctl (s r:Int) (w:World) (h0:0≤s) (h1:s≤5) (h:r≤31∨126<r):
  Calls Tryz.prog 133 #[.int .u8 s,.int .i32 r] w fun e w'=>e= .returned (.bool (inB s r))∧w=w':=by
 have HB:=ygO (zxA h0 h1 h)
 rcases h with h|h
 ·go_enter Tryz.func133,Tryz.ntmps133
  go_wp2
  go_ret
  exact ⟨zaD HB.out.symm,rfl⟩
 ·go_enter Tryz.func133,Tryz.ntmps133
  go_wp2
  go_ret
  exact ⟨zaD HB.out.symm,rfl⟩
theorem in_out (s r:Int) (w:World) (h:5<s):
  Calls Tryz.prog 133 #[.int .u8 s,.int .i32 r] w fun e w'=>e= .returned (.bool (inB s r))∧w=w':=by
 have HB:=ygO (z3S (s:=s) (r:=r) (.inr h))
 go_enter Tryz.func133,Tryz.ntmps133
 go_wp2
 go_ret
 exact ⟨zaD HB.out.symm,rfl⟩
theorem ydA (s r:Int) (w:World) (h0:0≤s):
  Calls Tryz.prog 133 #[.int .u8 s,.int .i32 r] w fun e w'=>e= .returned (.bool (inB s r))∧w=w':=by
 by_cases h5:5<s
 ·exact in_out s r w h5
 ·by_cases hc:r≤31∨126<r
  ·exact in_ctl s r w h0 (by omega) hc
  ·rcases (show s=0∨s=1∨s=2∨s=3∨s=4∨s=5 from by omega) with rfl|rfl|rfl|rfl|rfl|rfl
   ·exact ygB r w (by omega) (by omega)
   ·exact yeU r w (by omega) (by omega)
   ·exact yfF r w (by omega) (by omega)
   ·exact yfJ r w (by omega) (by omega)
   ·exact yeL r w (by omega) (by omega)
   ·exact ydQ r w (by omega) (by omega)
theorem zgO (s:ByteArray) (n:Int) (w:World) (hs:s.size≤1073741824) (h0:0≤n) (h1:n<256):
  Calls Tryz.prog 94 #[.string s,.int .u8 n] w fun e w'=>e= .returned (.bool (hasB s.data.toList n.toNat.toUInt8))∧w=w':=by
 have h:=znO s n.toNat.toUInt8 w hs
 rw [yeM n h0 h1,Int.toNat_of_nonneg h0] at h
 exact h
theorem z2X (r:Int) (w:World) (h:(setL 0).contains r=true):
  Calls Tryz.prog 97 #[.int .i64 0,.int .i32 r] w fun e w'=>e= .returned (.bool true)∧w=w':=by
 cases h
theorem z6D (r:Int) (w:World) (h2:31<r) (h3:r≤126) (_h:(setL 0).contains r=false):
  Calls Tryz.prog 97 #[.int .i64 0,.int .i32 r] w fun e w'=>e= .returned (.bool false)∧w=w':=by
 go_enter Tryz.func97,Tryz.ntmps97
 go_wp2
 all_goals
  go_ret
  exact ⟨rfl,rfl⟩
theorem z2V (r:Int) (w:World) (h:(setL 1).contains r=true):
  Calls Tryz.prog 97 #[.int .i64 1,.int .i32 r] w fun e w'=>e= .returned (.bool true)∧w=w':=by
 have hm:r=32∨r=34∨r=60∨r=62∨r=96:=by simpa [setL] using h
 clear h
 rcases hm with rfl|rfl|rfl|rfl|rfl
 all_goals
  go_enter Tryz.func97,Tryz.ntmps97
  go_wp2_with (first|(go_at_call 94;refine (zgO _ _ _ (by decide) (by omega) (by omega)).mono ?_;rintro e w' ⟨rfl,rfl⟩))
  go_ret
  exact ⟨by first|rfl|exact zaD (by decide),rfl⟩
theorem z3K (r:Int) (w:World) (h2:31<r) (h3:r≤126) (h:(setL 1).contains r=false):
  Calls Tryz.prog 97 #[.int .i64 1,.int .i32 r] w fun e w'=>e= .returned (.bool false)∧w=w':=by
 have hm: ¬(r=32∨r=34∨r=60∨r=62∨r=96):=by
  intro hh
  have:(setL 1).contains r=true:=by simpa [setL] using hh
  rw [this] at h
  cases h
 clear h
 have n32:(r==32)=false:=beq_eq_false_iff_ne.2 (by omega)
 have n34:(r==34)=false:=beq_eq_false_iff_ne.2 (by omega)
 have n60:(r==60)=false:=beq_eq_false_iff_ne.2 (by omega)
 have n62:(r==62)=false:=beq_eq_false_iff_ne.2 (by omega)
 have n96:(r==96)=false:=beq_eq_false_iff_ne.2 (by omega)
 clear hm
 go_enter Tryz.func97,Tryz.ntmps97
 go_wp2_with (first|(go_at_call 94;refine (zgO _ _ _ (by decide) (by omega) (by omega)).mono ?_;rintro e w' ⟨rfl,rfl⟩))
 go_ret
 exact ⟨by first|rfl|exact zaD (by simp),rfl⟩
theorem z1M (r:Int) (w:World) (h:(setL 2).contains r=true):
  Calls Tryz.prog 97 #[.int .i64 2,.int .i32 r] w fun e w'=>e= .returned (.bool true)∧w=w':=by
 have hm:r=32∨r=34∨r=35∨r=60∨r=62:=by simpa [setL] using h
 clear h
 rcases hm with rfl|rfl|rfl|rfl|rfl
 all_goals
  go_enter Tryz.func97,Tryz.ntmps97
  go_wp2_with (first|(go_at_call 94;refine (zgO _ _ _ (by decide) (by omega) (by omega)).mono ?_;rintro e w' ⟨rfl,rfl⟩))
  go_ret
  exact ⟨by first|rfl|exact zaD (by decide),rfl⟩
theorem z8P (r:Int) (w:World) (h2:31<r) (h3:r≤126) (h:(setL 2).contains r=false):
  Calls Tryz.prog 97 #[.int .i64 2,.int .i32 r] w fun e w'=>e= .returned (.bool false)∧w=w':=by
 have hm: ¬(r=32∨r=34∨r=35∨r=60∨r=62):=by
  intro hh
  have:(setL 2).contains r=true:=by simpa [setL] using hh
  rw [this] at h
  cases h
 clear h
 have n32:(r==32)=false:=beq_eq_false_iff_ne.2 (by omega)
 have n34:(r==34)=false:=beq_eq_false_iff_ne.2 (by omega)
 have n35:(r==35)=false:=beq_eq_false_iff_ne.2 (by omega)
 have n60:(r==60)=false:=beq_eq_false_iff_ne.2 (by omega)
 have n62:(r==62)=false:=beq_eq_false_iff_ne.2 (by omega)
 clear hm
 go_enter Tryz.func97,Tryz.ntmps97
 go_wp2_with (first|(go_at_call 94;refine (zgO _ _ _ (by decide) (by omega) (by omega)).mono ?_;rintro e w' ⟨rfl,rfl⟩))
 go_ret
 exact ⟨by first|rfl|exact zaD (by simp),rfl⟩
theorem z1R (r:Int) (w:World) (h:(setL 3).contains r=true):
  Calls Tryz.prog 97 #[.int .i64 3,.int .i32 r] w fun e w'=>e= .returned (.bool true)∧w=w':=by
 have hm:r=32∨r=34∨r=35∨r=60∨r=62∨r=39:=by simpa [setL] using h
 clear h
 rcases hm with rfl|rfl|rfl|rfl|rfl|rfl
 all_goals
  go_enter Tryz.func97,Tryz.ntmps97
  go_wp2_with (first|(go_at_call 94;refine (zgO _ _ _ (by decide) (by omega) (by omega)).mono ?_;rintro e w' ⟨rfl,rfl⟩))
  go_ret
  exact ⟨by first|rfl|exact zaD (by decide),rfl⟩
theorem z8Y (r:Int) (w:World) (h2:31<r) (h3:r≤126) (h:(setL 3).contains r=false):
  Calls Tryz.prog 97 #[.int .i64 3,.int .i32 r] w fun e w'=>e= .returned (.bool false)∧w=w':=by
 have hm: ¬(r=32∨r=34∨r=35∨r=60∨r=62∨r=39):=by
  intro hh
  have:(setL 3).contains r=true:=by simpa [setL] using hh
  rw [this] at h
  cases h
 clear h
 have n32:(r==32)=false:=beq_eq_false_iff_ne.2 (by omega)
 have n34:(r==34)=false:=beq_eq_false_iff_ne.2 (by omega)
 have n35:(r==35)=false:=beq_eq_false_iff_ne.2 (by omega)
 have n39:(r==39)=false:=beq_eq_false_iff_ne.2 (by omega)
 have n60:(r==60)=false:=beq_eq_false_iff_ne.2 (by omega)
 have n62:(r==62)=false:=beq_eq_false_iff_ne.2 (by omega)
 clear hm
 go_enter Tryz.func97,Tryz.ntmps97
 go_wp2_with (first|(go_at_call 94;refine (zgO _ _ _ (by decide) (by omega) (by omega)).mono ?_;rintro e w' ⟨rfl,rfl⟩))
 go_ret
 exact ⟨by first|rfl|exact zaD (by simp),rfl⟩
theorem z1X (r:Int) (w:World) (h:(setL 4).contains r=true):
  Calls Tryz.prog 97 #[.int .i64 4,.int .i32 r] w fun e w'=>e= .returned (.bool true)∧w=w':=by
 have hm:r=32∨r=34∨r=35∨r=60∨r=62∨r=63∨r=94∨r=96∨r=123∨r=125:=by simpa [setL] using h
 clear h
 rcases hm with rfl|rfl|rfl|rfl|rfl|rfl|rfl|rfl|rfl|rfl
 all_goals
  go_enter Tryz.func97,Tryz.ntmps97
  go_wp2_with (first|(go_at_call 94;refine (zgO _ _ _ (by decide) (by omega) (by omega)).mono ?_;rintro e w' ⟨rfl,rfl⟩))
  go_ret
  exact ⟨by first|rfl|exact zaD (by decide),rfl⟩
theorem z4T (r:Int) (w:World) (h2:31<r) (h3:r≤126) (h:(setL 4).contains r=false):
  Calls Tryz.prog 97 #[.int .i64 4,.int .i32 r] w fun e w'=>e= .returned (.bool false)∧w=w':=by
 have hm: ¬(r=32∨r=34∨r=35∨r=60∨r=62∨r=63∨r=94∨r=96∨r=123∨r=125):=by
  intro hh
  have:(setL 4).contains r=true:=by simpa [setL] using hh
  rw [this] at h
  cases h
 clear h
 have n32:(r==32)=false:=beq_eq_false_iff_ne.2 (by omega)
 have n34:(r==34)=false:=beq_eq_false_iff_ne.2 (by omega)
 have n35:(r==35)=false:=beq_eq_false_iff_ne.2 (by omega)
 have n60:(r==60)=false:=beq_eq_false_iff_ne.2 (by omega)
 have n62:(r==62)=false:=beq_eq_false_iff_ne.2 (by omega)
 have n63:(r==63)=false:=beq_eq_false_iff_ne.2 (by omega)
 have n94:(r==94)=false:=beq_eq_false_iff_ne.2 (by omega)
 have n96:(r==96)=false:=beq_eq_false_iff_ne.2 (by omega)
 have n123:(r==123)=false:=beq_eq_false_iff_ne.2 (by omega)
 have n125:(r==125)=false:=beq_eq_false_iff_ne.2 (by omega)
 clear hm
 go_enter Tryz.func97,Tryz.ntmps97
 go_wp2_with (first|(go_at_call 94;refine (zgO _ _ _ (by decide) (by omega) (by omega)).mono ?_;rintro e w' ⟨rfl,rfl⟩))
 go_ret
 exact ⟨by first|rfl|exact zaD (by simp),rfl⟩
theorem z1E (r:Int) (w:World) (h:(setL 5).contains r=true):
  Calls Tryz.prog 97 #[.int .i64 5,.int .i32 r] w fun e w'=>e= .returned (.bool true)∧w=w':=by
 have hm:r=32∨r=34∨r=35∨r=60∨r=62∨r=63∨r=94∨r=96∨r=123∨r=125∨r=47∨r=58∨r=59∨r=61∨r=64∨r=91∨r=92∨r=93∨r=124:=by simpa [setL] using h
 clear h
 rcases hm with rfl|rfl|rfl|rfl|rfl|rfl|rfl|rfl|rfl|rfl|rfl|rfl|rfl|rfl|rfl|rfl|rfl|rfl|rfl
 all_goals
  go_enter Tryz.func97,Tryz.ntmps97
  go_wp2_with (first|(go_at_call 94;refine (zgO _ _ _ (by decide) (by omega) (by omega)).mono ?_;rintro e w' ⟨rfl,rfl⟩))
  go_ret
  exact ⟨by first|rfl|exact zaD (by decide),rfl⟩
theorem z5Q (r:Int) (w:World) (h2:31<r) (h3:r≤126) (h:(setL 5).contains r=false):
  Calls Tryz.prog 97 #[.int .i64 5,.int .i32 r] w fun e w'=>e= .returned (.bool false)∧w=w':=by
 have hm: ¬(r=32∨r=34∨r=35∨r=60∨r=62∨r=63∨r=94∨r=96∨r=123∨r=125∨r=47∨r=58∨r=59∨r=61∨r=64∨r=91∨r=92∨r=93∨r=124):=by
  intro hh
  have:(setL 5).contains r=true:=by simpa [setL] using hh
  rw [this] at h
  cases h
 clear h
 have n32:(r==32)=false:=beq_eq_false_iff_ne.2 (by omega)
 have n34:(r==34)=false:=beq_eq_false_iff_ne.2 (by omega)
 have n35:(r==35)=false:=beq_eq_false_iff_ne.2 (by omega)
 have n47:(r==47)=false:=beq_eq_false_iff_ne.2 (by omega)
 have n58:(r==58)=false:=beq_eq_false_iff_ne.2 (by omega)
 have n59:(r==59)=false:=beq_eq_false_iff_ne.2 (by omega)
 have n60:(r==60)=false:=beq_eq_false_iff_ne.2 (by omega)
 have n61:(r==61)=false:=beq_eq_false_iff_ne.2 (by omega)
 have n62:(r==62)=false:=beq_eq_false_iff_ne.2 (by omega)
 have n63:(r==63)=false:=beq_eq_false_iff_ne.2 (by omega)
 have n64:(r==64)=false:=beq_eq_false_iff_ne.2 (by omega)
 have n91:(r==91)=false:=beq_eq_false_iff_ne.2 (by omega)
 have n92:(r==92)=false:=beq_eq_false_iff_ne.2 (by omega)
 have n93:(r==93)=false:=beq_eq_false_iff_ne.2 (by omega)
 have n94:(r==94)=false:=beq_eq_false_iff_ne.2 (by omega)
 have n96:(r==96)=false:=beq_eq_false_iff_ne.2 (by omega)
 have n123:(r==123)=false:=beq_eq_false_iff_ne.2 (by omega)
 have n124:(r==124)=false:=beq_eq_false_iff_ne.2 (by omega)
 have n125:(r==125)=false:=beq_eq_false_iff_ne.2 (by omega)
 have hhas:hasB (ByteArray.mk #[47,58,59,61,64,91,93,124]).data.toList r.toNat.toUInt8=false:=by
  have key: ∀n:Fin 127,(n.val=47∨n.val=58∨n.val=59∨n.val=61∨n.val=64∨n.val=91∨n.val=93∨n.val=124)∨hasB [47,58,59,61,64,91,93,124] n.val.toUInt8=false:=by decide+kernel
  rcases key ⟨r.toNat,by omega⟩ with hk|hk
  ·simp only at hk;omega
  ·exact hk
 clear hm
 go_enter Tryz.func97,Tryz.ntmps97
 go_wp2_with (first|(go_at_call 94;refine (zgO _ _ _ (by decide) (by omega) (by omega)).mono ?_;rintro e w' ⟨rfl,rfl⟩))
 go_ret
 exact ⟨by first|rfl|exact zaD (by simp [hhas]),rfl⟩
theorem z9N (s r:Int) (w:World) (h0:0≤s) (h1:s≤5) (h:r≤31∨126<r):
  Calls Tryz.prog 97 #[.int .i64 s,.int .i32 r] w fun e w'=>e= .returned (.bool (inB s r))∧w=w':=by
 have HB:=ygO (zxA h0 h1 h)
 rcases h with h|h
 ·go_enter Tryz.func97,Tryz.ntmps97
  go_wp2
  go_ret
  exact ⟨zaD HB.out.symm,rfl⟩
 ·go_enter Tryz.func97,Tryz.ntmps97
  go_wp2
  go_ret
  exact ⟨zaD HB.out.symm,rfl⟩
theorem z4Z (s r:Int) (w:World) (h:5<s):
  Calls Tryz.prog 97 #[.int .i64 s,.int .i32 r] w fun e w'=>e= .returned (.bool (inB s r))∧w=w':=by
 have HB:=ygO (z3S (s:=s) (r:=r) (.inr h))
 go_enter Tryz.func97,Tryz.ntmps97
 go_wp2
 go_ret
 exact ⟨zaD HB.out.symm,rfl⟩
theorem zvI (s r:Int) (w:World) (h0:0≤s):
  Calls Tryz.prog 97 #[.int .i64 s,.int .i32 r] w fun e w'=>e= .returned (.bool (inB s r))∧w=w':=by
 by_cases h5:5<s
 ·exact z4Z s r w h5
 ·by_cases hc:r≤31∨126<r
  ·exact z9N s r w h0 (by omega) hc
  ·rcases (show s=0∨s=1∨s=2∨s=3∨s=4∨s=5 from by omega) with rfl|rfl|rfl|rfl|rfl|rfl
   ·rw [zfI (s:=0) (by decide) (by decide) (by omega) (by omega),show (0:Int).toNat=0 from rfl]
    cases hm:(setL 0).contains r with
    |true=>exact z2X r w hm
    |false=>exact z6D r w (by omega) (by omega) hm
   ·rw [zfI (s:=1) (by decide) (by decide) (by omega) (by omega),show (1:Int).toNat=1 from rfl]
    cases hm:(setL 1).contains r with
    |true=>exact z2V r w hm
    |false=>exact z3K r w (by omega) (by omega) hm
   ·rw [zfI (s:=2) (by decide) (by decide) (by omega) (by omega),show (2:Int).toNat=2 from rfl]
    cases hm:(setL 2).contains r with
    |true=>exact z1M r w hm
    |false=>exact z8P r w (by omega) (by omega) hm
   ·rw [zfI (s:=3) (by decide) (by decide) (by omega) (by omega),show (3:Int).toNat=3 from rfl]
    cases hm:(setL 3).contains r with
    |true=>exact z1R r w hm
    |false=>exact z8Y r w (by omega) (by omega) hm
   ·rw [zfI (s:=4) (by decide) (by decide) (by omega) (by omega),show (4:Int).toNat=4 from rfl]
    cases hm:(setL 4).contains r with
    |true=>exact z1X r w hm
    |false=>exact z4T r w (by omega) (by omega) hm
   ·rw [zfI (s:=5) (by decide) (by decide) (by omega) (by omega),show (5:Int).toNat=5 from rfl]
    cases hm:(setL 5).contains r with
    |true=>exact z1E r w hm
    |false=>exact z5Q r w (by omega) (by omega) hm
def zfY:List UInt8→Option UInt8
 |c::a::b::_=>if c.toNat=37∧0≤valZ (a.toNat:Int)∧0≤valZ (b.toNat:Int) then some (UInt8.ofNat ((valZ (a.toNat:Int)*16+valZ (b.toNat:Int)).toNat)) else none
 |_=>none
def decL:Nat→List UInt8→List UInt8
 |0,_=>[]
 |_+1,[]=>[]
 |f+1,c::r=>match zfY (c::r) with
  |some v=>v::decL f (r.drop 2)
  |none=>c::decL f r
def decB (l:List UInt8):List UInt8:=decL l.length l
theorem zsE (r:Int):valZ r<16:=by unfold valZ;(repeat' split)<;>omega
theorem z7R (r:Int): -1≤valZ r:=by unfold valZ;(repeat' split)<;>omega
theorem zfL (s:ByteArray) (k:Nat) (h:k<s.size):s.data.toList.drop k=s[k]::s.data.toList.drop (k+1):=by
 rw [List.drop_eq_getElem_cons (by simpa using h)]
 rfl
theorem zmV (s:ByteArray) (k:Nat) (h: ¬k<s.size):s.data.toList.drop k=[]:=List.drop_eq_nil_of_le (by simpa using h)
theorem zlK (s:ByteArray) (k:Nat) (hk:k+2<s.size) (h37:s[k].toNat=37) (h1:0≤valZ (s[k+1].toNat:Int)) (h2:0≤valZ (s[k+2].toNat:Int)):
  zfY (s.data.toList.drop k)=some (UInt8.ofNat ((valZ (s[k+1].toNat:Int)*16+valZ (s[k+2].toNat:Int)).toNat)):=by
 rw [zfL s k (by omega),zfL s (k+1) (by omega),zfL s (k+2) (by omega)]
 simp only [zfY]
 rw [if_pos ⟨h37,h1,h2⟩]
theorem zgU (s:ByteArray) (k:Nat) (hk:k+2<s.size) (h:s[k].toNat≠37∨valZ (s[k+1].toNat:Int)<0∨valZ (s[k+2].toNat:Int)<0):
  zfY (s.data.toList.drop k)=none:=by
 rw [zfL s k (by omega),zfL s (k+1) (by omega),zfL s (k+2) (by omega)]
 simp only [zfY]
 rw [if_neg (by omega)]
theorem zjP (s:ByteArray) (k:Nat) (hk:s.size≤k+2):zfY (s.data.toList.drop k)=none:=by
 by_cases h0:k<s.size
 ·rw [zfL s k h0]
  by_cases h1:k+1<s.size
  ·rw [zfL s (k+1) h1,zmV s (k+2) (by omega)]
   rfl
  ·rw [zmV s (k+1) h1]
   rfl
 ·rw [zmV s k h0]
  rfl
theorem ycG (a b:Int) (h0:0≤a) (h1:a<16) (h2:0≤b) (h3:b<16):bits BinOp.or IntKind.i64 (a*16) b % 256=a*16+b:=by
 have key: ∀a b:Fin 16,bits BinOp.or IntKind.i64 ((a.val:Int)*16) (b.val:Int) % 256=(a.val:Int)*16+(b.val:Int):=by decide+kernel
 have:=key ⟨a.toNat,by omega⟩ ⟨b.toNat,by omega⟩
 simp only [Int.toNat_of_nonneg h0,Int.toNat_of_nonneg h2] at this
 exact this
def zxN (o:Option UInt8) (w:World) (e:Ending) (w':World):Prop:=e= .returned (.tuple #[.int .u8 ((o.getD 0).toNat:Int),.bool o.isSome])∧ ∃n,w'=w.drewN n
theorem zgK {o:Option UInt8} {w:World} {e:Ending} {w':World} (ho:o=none) (he:e= .returned (.tuple #[.int .u8 0,.bool false])) (n:Nat) (hw:w'=w.drewN n):zxN o w e w':=by
 subst ho
 exact ⟨he,n,hw⟩
theorem zsM {o:Option UInt8} {v:UInt8} {x:Int} {w:World} {e:Ending} {w':World} (ho:o=some v) (he:e= .returned (.tuple #[.int .u8 x,.bool true])) (hx:x=(v.toNat:Int)) (n:Nat) (hw:w'=w.drewN n):zxN o w e w':=by
 subst ho hx
 exact ⟨he,n,hw⟩
theorem zpX (x:Int) (h0:0≤x) (h1:x<256):x=((UInt8.ofNat x.toNat).toNat:Int):=by
 have:x.toNat % 256=x.toNat:=Nat.mod_eq_of_lt (by omega)
 simp [this]
 omega
theorem zoD (s:ByteArray) (k:Nat) (w:World) (hs:s.size≤1073741824) (hk:k<s.size):
  Calls Tryz.prog 114 #[.string s,.int .i64 k] w (zxN (zfY (s.data.toList.drop k)) w):=by
 obtain ⟨c0,hc0⟩: ∃c,s[k].toNat=c:=⟨_,rfl⟩
 by_cases h2:k+2<s.size
 ·obtain ⟨c1,hc1⟩: ∃c,s[k+1].toNat=c:=⟨_,rfl⟩
  obtain ⟨c2,hc2⟩: ∃c,s[k+2].toNat=c:=⟨_,rfl⟩
  have l1:c1<256:=by rw [←hc1];exact s[k+1].toNat_lt
  have l2:c2<256:=by rw [←hc2];exact s[k+2].toNat_lt
  by_cases h37:c0=37
  ·subst h37
   obtain ⟨v1,hv1⟩: ∃v,valZ (c1:Int)=v:=⟨_,rfl⟩
   obtain ⟨v2,hv2⟩: ∃v,valZ (c2:Int)=v:=⟨_,rfl⟩
   have b1:v1<16:=by rw [←hv1];exact zsE _
   have b2:v2<16:=by rw [←hv2];exact zsE _
   have b3: -1≤v1:=by rw [←hv1];exact z7R _
   have b4: -1≤v2:=by rw [←hv2];exact z7R _
   have hb37:((37:Int) !=37)=false:=by decide
   by_cases hv:0≤v1∧0≤v2
   ·obtain ⟨b5,b6⟩:=hv
    have HT:=ygO (zlK s k h2 hc0 (by rw [hc1,hv1];exact b5) (by rw [hc2,hv2];exact b6))
    rw [hc1,hc2,hv1,hv2] at HT
    have HO:=ygO (ycG v1 v2 b5 b1 b6 b2)
    have HX:=ygO (zpX (v1*16+v2) (by omega) (by omega))
    have p1:(0:Int)≤(k:Int)+1:=by omega
    have p2:(0:Int)≤(k:Int)+2:=by omega
    have p3:(k:Int)+1<(s.size:Int):=by omega
    have p4:(k:Int)+2<(s.size:Int):=by omega
    have q1:IntKind.i64.wrap ((k:Int)+1)=(k:Int)+1:=IntWalk.i64_in _ (by omega)
    have q2:IntKind.i64.wrap ((k:Int)+2)=(k:Int)+2:=IntWalk.i64_in _ (by omega)
    have r1:((k:Int)+1).toNat=k+1:=by omega
    have r2:((k:Int)+2).toNat=k+2:=by omega
    go_enter Tryz.func114,Tryz.ntmps114
    go_wp2_with fail
    go_quiet ((go_at_call 132;exact Calls.quiet_of_same ((zdH _ _).mono fun _ _ h=>⟨h.1,h.2.symm⟩)))
    clear q1 q2 r1 r2
    go_wp2
    go_ret2
    exact zsM HT.out rfl (HO.out.trans HX.out) nq rfl
   ·have HT:=ygO (zgU s k h2 (by rw [hc1,hc2,hv1,hv2];omega))
    have p1:(0:Int)≤(k:Int)+1:=by omega
    have p2:(0:Int)≤(k:Int)+2:=by omega
    have p3:(k:Int)+1<(s.size:Int):=by omega
    have p4:(k:Int)+2<(s.size:Int):=by omega
    by_cases hv1n:v1<0
    all_goals
     have q1:IntKind.i64.wrap ((k:Int)+1)=(k:Int)+1:=IntWalk.i64_in _ (by omega)
     have q2:IntKind.i64.wrap ((k:Int)+2)=(k:Int)+2:=IntWalk.i64_in _ (by omega)
     have r1:((k:Int)+1).toNat=k+1:=by omega
     have r2:((k:Int)+2).toNat=k+2:=by omega
     go_enter Tryz.func114,Tryz.ntmps114
     go_wp2_with fail
     go_quiet ((go_at_call 132;exact Calls.quiet_of_same ((zdH _ _).mono fun _ _ h=>⟨h.1,h.2.symm⟩)))
     clear q1 q2 r1 r2
     have hv2n:v1<0∨v2<0:=by omega
     go_wp2
     all_goals
      go_ret2
      exact zgK HT.out rfl nq rfl
  ·have HT:=ygO (zgU s k h2 (.inl (by rw [hc0];exact h37)))
   have hb:((c0:Int) !=37)=true:=by rw [bne_iff_ne];omega
   go_enter Tryz.func114,Tryz.ntmps114
   go_wp2
   go_ret2
   exact zgK HT.out rfl 0 rfl
 ·have HT:=ygO (zjP s k (by omega))
  by_cases h37:c0=37
  ·subst h37
   go_enter Tryz.func114,Tryz.ntmps114
   go_wp2
   go_ret2
   exact zgK HT.out rfl 0 rfl
  ·have hb:((c0:Int) !=37)=true:=by rw [bne_iff_ne];omega
   go_enter Tryz.func114,Tryz.ntmps114
   go_wp2
   go_ret2
   exact zgK HT.out rfl 0 rfl
theorem zqH (s:ByteArray) (k:Nat) (w:World) (hs:s.size≤1073741824) (hk:k<s.size):
  Calls Tryz.prog 147 #[.string s,.int .i64 k] w fun e w'=>e= .returned (.bool (zfY (s.data.toList.drop k)).isSome)∧w=w':=by
 obtain ⟨c0,hc0⟩: ∃c,s[k].toNat=c:=⟨_,rfl⟩
 by_cases h2:k+2<s.size
 ·obtain ⟨c1,hc1⟩: ∃c,s[k+1].toNat=c:=⟨_,rfl⟩
  obtain ⟨c2,hc2⟩: ∃c,s[k+2].toNat=c:=⟨_,rfl⟩
  have l1:c1<256:=by rw [←hc1];exact s[k+1].toNat_lt
  have l2:c2<256:=by rw [←hc2];exact s[k+2].toNat_lt
  by_cases h37:c0=37
  ·subst h37
   obtain ⟨v1,hv1⟩: ∃v,valZ (c1:Int)=v:=⟨_,rfl⟩
   obtain ⟨v2,hv2⟩: ∃v,valZ (c2:Int)=v:=⟨_,rfl⟩
   by_cases b5:0≤v1
   ·by_cases b6:0≤v2
    ·have HT:=ygO (congrArg Option.isSome (zlK s k h2 hc0 (by rw [hc1,hv1];exact b5) (by rw [hc2,hv2];exact b6)))
     go_enter Tryz.func147,Tryz.ntmps147
     go_wp2_with (go_at_call 148;refine (zcM _ _).mono ?_;rintro e w' ⟨rfl,rfl⟩)
     go_ret
     exact ⟨zaD (by rw [HT.out];simp [*]),rfl⟩
    ·have HT:=ygO (congrArg Option.isSome (zgU s k h2 (by rw [hc1,hc2,hv1,hv2];omega)))
     go_enter Tryz.func147,Tryz.ntmps147
     go_wp2_with (go_at_call 148;refine (zcM _ _).mono ?_;rintro e w' ⟨rfl,rfl⟩)
     go_ret
     exact ⟨zaD (by rw [HT.out];simp [*];try omega),rfl⟩
   ·have HT:=ygO (congrArg Option.isSome (zgU s k h2 (by rw [hc1,hc2,hv1,hv2];omega)))
    go_enter Tryz.func147,Tryz.ntmps147
    go_wp2_with (go_at_call 148;refine (zcM _ _).mono ?_;rintro e w' ⟨rfl,rfl⟩)
    all_goals
     go_ret
     exact ⟨zaD (by rw [HT.out];simp [*];try omega),rfl⟩
  ·have HT:=ygO (congrArg Option.isSome (zgU s k h2 (.inl (by rw [hc0];exact h37))))
   have hb:((c0:Int)==37)=false:=beq_eq_false_iff_ne.2 (by omega)
   go_enter Tryz.func147,Tryz.ntmps147
   go_wp2
   go_ret
   exact ⟨zaD (by rw [HT.out];first|rfl|(simp [*];done)),rfl⟩
 ·have HT:=ygO (congrArg Option.isSome (zjP s k (by omega)))
  go_enter Tryz.func147,Tryz.ntmps147
  go_wp2
  go_ret
  exact ⟨zaD (by rw [HT.out];first|rfl|(simp;omega)),rfl⟩
theorem zyT (s:ByteArray) (f k:Nat) (h: ¬k<s.size):decL f (s.data.toList.drop k)=[]:=by
 rw [zmV s k h]
 cases f<;>rfl
theorem zvE (s:ByteArray) (f k:Nat) (v:UInt8) (h:k<s.size) (ht:zfY (s.data.toList.drop k)=some v):decL (f+1) (s.data.toList.drop k)=v::decL f (s.data.toList.drop (k+3)):=by
 rw [zfL s k h] at ht ⊢
 simp only [decL,ht,List.drop_drop]
theorem zuN (s:ByteArray) (f k:Nat) (h:k<s.size) (ht:zfY (s.data.toList.drop k)=none):decL (f+1) (s.data.toList.drop k)=s[k]::decL f (s.data.toList.drop (k+1)):=by
 rw [zfL s k h] at ht ⊢
 simp only [decL,ht]
theorem zqI (s:ByteArray) (k:Nat) (v:UInt8) (h:zfY (s.data.toList.drop k)=some v):k+2<s.size:=by
 by_cases hk:k+2<s.size
 ·exact hk
 ·rw [zjP s k (by omega)] at h;cases h
theorem z2I (s:ByteArray) (w:World) (hs:s.size≤1073741824):
  Calls Tryz.prog 68 #[.string s] w fun e w'=>e= .returned (.string ⟨(decB s.data.toList).toArray⟩)∧Below w.heap.size w w':=by
 go_enter Tryz.func68,Tryz.ntmps68
 go_wp2
 go_loopw [4] (fun i wr=> ∃(k fuel:Nat) (T:List UInt8),i= .int .i64 k∧k≤s.size∧Lib.IsBuilderF 105 5 w.heap.size w.heap.size (Lib.byteCells T) wr∧Below w.heap.size w wr∧T.length≤k∧s.size≤k+fuel∧Hid (T++decL fuel (s.data.toList.drop k)=decB s.data.toList)) (fun i _=>s.size - (intOf i).toNat)
 case atStart=>
  refine ⟨0,s.size,[],rfl,Nat.zero_le _,Lib.IsBuilderF.of (Lib.fresh_isBuilder _ _ w),(ygS _ w).alloc (ygP _) _,by simp,by omega,?_⟩
  show []++decL s.size (s.data.toList.drop 0)=decL s.data.toList.length s.data.toList
  rw [zaH];rfl
 case round=>
  obtain ⟨k,fuel,T,rfl,hk,hI,hbw,hTl,hfu,HD⟩:=hrel
  have hsz:=hbw.size
  by_cases hlt:k<s.size
  ·obtain ⟨f,rfl⟩: ∃f,fuel=f+1:=⟨fuel - 1,by omega⟩
   cases hth:zfY (s.data.toList.drop k) with
   |some v=>
    have hroom:=zqI s k v hth
    have hD2:=HD.out
    rw [zvE s f k v hlt hth] at hD2
    have HD2:=ygO hD2
    have HTH:=ygO hth
    clear hD2 hth
    go_wp2_with fail
    refine (zoD s k _ hs hlt).mono ?_
    rw [HTH.out]
    rintro e w' ⟨rfl,nq,rfl⟩
    have hI2:Lib.IsBuilderF 105 5 w.heap.size w.heap.size (Lib.byteCells T) (wr.drewN nq):=hI
    have hb2:=zaU hbw nq
    have hsz2:w.heap.size≤(wr.drewN nq).heap.size:=hsz
    generalize wr.drewN nq=w2 at*
    go_wp2_with fail
    refine (Tryz.Builder_WriteByte_k w.heap.size w.heap.size _ _ _ hI2 (by rw [Lib.byteCells_length];omega) hsz2).mono ?_
    rintro e w3 ⟨rfl,h3,b3,_⟩
    go_wp2
    go_roundw
    case rel=>
     refine ⟨k+3,f,T++[v],by go_num,by omega,?_,hb2.trans b3,by simp;omega,by omega,?_⟩
     ·rw [zlN T v _ rfl];exact .inr h3
     ·show (T++[v])++_=_
      rw [List.append_assoc];exact HD2.out
    case measure=>simp [intOf];omega
   |none=>
    have hD2:=HD.out
    rw [zuN s f k hlt hth] at hD2
    have HD2:=ygO hD2
    have HTH:=ygO hth
    clear hD2 hth
    go_wp2_with fail
    refine (zoD s k _ hs hlt).mono ?_
    rw [HTH.out]
    rintro e w' ⟨rfl,nq,rfl⟩
    have hI2:Lib.IsBuilderF 105 5 w.heap.size w.heap.size (Lib.byteCells T) (wr.drewN nq):=hI
    have hb2:=zaU hbw nq
    have hsz2:w.heap.size≤(wr.drewN nq).heap.size:=hsz
    generalize wr.drewN nq=w2 at*
    go_wp2_with fail
    refine (Tryz.Builder_WriteByte_k w.heap.size w.heap.size _ _ _ hI2 (by rw [Lib.byteCells_length];omega) hsz2).mono ?_
    rintro e w3 ⟨rfl,h3,b3,_⟩
    go_wp2
    go_roundw
    case rel=>
     refine ⟨k+1,f,T++[s[k]],by go_num,by omega,?_,hb2.trans b3,by simp;omega,by omega,?_⟩
     ·rw [zlN T s[k] _ rfl];exact .inr h3
     ·show (T++[s[k]])++_=_
      rw [List.append_assoc];exact HD2.out
    case measure=>simp [intOf];omega
  ·have hfin:T=decB s.data.toList:=by
    have:=HD.out
    rwa [zyT s fuel k hlt,List.append_nil] at this
   subst hfin
   go_wp2_with fail
   refine (Tryz.Builder_String_any_k w.heap.size w.heap.size _ _ hI (by omega)).mono ?_
   rintro e w1 ⟨rfl,_,b1,_⟩
   go_wp2
   go_ret
   exact ⟨rfl,hbw.trans b1⟩
theorem zkL (s:ByteArray) (w:World) (hs:s.size≤1073741824):
  Calls Tryz.prog 101 #[.string s] w fun e w'=>e= .returned (.string ⟨(decB s.data.toList).toArray⟩)∧Below w.heap.size w w':=by
 obtain ⟨i0,hi,hz0,hz1,hz2⟩:=info_parts Tryz.infoByte
 go_enter Tryz.func101,Tryz.ntmps101
 go_wp2
 go_loopw [3,4] (fun v i wr=> ∃(k fuel:Nat) (T:List UInt8),i= .int .i64 k∧k≤s.size∧Gath w.heap.size wr v T∧Below w.heap.size w wr∧T.length≤k∧s.size≤k+fuel∧Hid (T++decL fuel (s.data.toList.drop k)=decB s.data.toList)) (fun _ i _=>s.size - (intOf i).toNat)
 case atStart=>
  refine ⟨0,s.size,[],rfl,Nat.zero_le _,Gath.nil _ _,ygS _ w,by simp,by omega,?_⟩
  show []++decL s.size (s.data.toList.drop 0)=decL s.data.toList.length s.data.toList
  rw [zaH];rfl
 case round=>
  obtain ⟨k,fuel,T,rfl,hk,hown,hbw,hTl,hfu,HD⟩:=hrel
  have hsz:=hbw.size
  unfold Gath at hown
  by_cases hlt:k<s.size
  ·obtain ⟨f,rfl⟩: ∃f,fuel=f+1:=⟨fuel - 1,by omega⟩
   cases hth:zfY (s.data.toList.drop k) with
   |some v=>
    have hroom:=zqI s k v hth
    have hD2:=HD.out
    rw [zvE s f k v hlt hth] at hD2
    have HD2:=ygO hD2
    have hth2:(zfY (s.data.toList.drop k)).isSome=true:=by rw [hth];rfl
    obtain ⟨c1,hc1⟩: ∃c,s[k+1].toNat=c:=⟨_,rfl⟩
    obtain ⟨c2,hc2⟩: ∃c,s[k+2].toNat=c:=⟨_,rfl⟩
    have l1:c1<256:=by rw [←hc1];exact s[k+1].toNat_lt
    have l2:c2<256:=by rw [←hc2];exact s[k+2].toNat_lt
    obtain ⟨v1,hv1⟩: ∃v,valZ (c1:Int)=v:=⟨_,rfl⟩
    obtain ⟨v2,hv2⟩: ∃v,valZ (c2:Int)=v:=⟨_,rfl⟩
    have b1:v1<16:=by rw [←hv1];exact zsE _
    have b2:v2<16:=by rw [←hv2];exact zsE _
    have hgood:0≤v1∧0≤v2∧s[k].toNat=37:=by
     by_cases hg:s[k].toNat≠37∨v1<0∨v2<0
     ·rw [zgU s k hroom (by rw [hc1,hc2,hv1,hv2];exact hg)] at hth;cases hth
     ·omega
    obtain ⟨b5,b6,h37⟩:=hgood
    have hv:v=UInt8.ofNat ((v1*16+v2).toNat):=by
     have h3:=zlK s k hroom h37 (by rw [hc1,hv1];exact b5) (by rw [hc2,hv2];exact b6)
     rw [hth,hc1,hc2,hv1,hv2] at h3
     exact Option.some.inj h3
    have hvx:(v.toNat:Int)=16*v1+v2:=by
     rw [hv,←zpX (v1*16+v2) (by omega) (by omega)];omega
    have HVX:=ygO hvx
    have HTH:=ygO hth
    clear hD2 hth hv hvx h37
    go_wp2_with (go_at_call 147;refine (zqH s k _ hs hlt).mono ?_;rintro e w' ⟨rfl,rfl⟩)
    have p1:(0:Int)≤(k:Int)+1:=by omega
    have p2:(0:Int)≤(k:Int)+2:=by omega
    have p3:(k:Int)+1<(s.size:Int):=by omega
    have p4:(k:Int)+2<(s.size:Int):=by omega
    have q1:IntKind.i64.wrap ((k:Int)+1)=(k:Int)+1:=IntWalk.i64_in _ (by omega)
    have q2:IntKind.i64.wrap ((k:Int)+2)=(k:Int)+2:=IntWalk.i64_in _ (by omega)
    have q3:IntKind.i64.wrap (16*v1)=16*v1:=IntWalk.i64_in _ (by omega)
    have q4:IntKind.i64.wrap (16*v1+v2)=16*v1+v2:=IntWalk.i64_in _ (by omega)
    have r1:((k:Int)+1).toNat=k+1:=by omega
    have q5:IntKind.i32.wrap (c1:Int)=(c1:Int):=IntWalk.i32_in _ (by omega)
    have q6:IntKind.i32.wrap (c2:Int)=(c2:Int):=IntWalk.i32_in _ (by omega)
    have q7:IntKind.u8.wrap (16*v1+v2)=16*v1+v2:=IntWalk.u8_in _ (by omega)
    have r2:((k:Int)+2).toNat=k+2:=by omega
    go_region_held3 (fun _=>True) (exact trivial)
     (first
      |(go_at_call 148;refine (zcM _ _).mono ?_;rintro e w' ⟨rfl,rfl⟩)
      |(refine step_append_lies _ (by rfl) _ _ _ (by rfl) w.heap.size 5 i0 _ 1 1 Tryz.underlying73 hi hz0 hz1 hz2 rfl (by omega) _ T.length (Lib.byteCells T) (by rfl) ((hown.alloc _).drew) ⟨wr.heap.size,0,none⟩ 1 1 [.int .u8 (16*v1+v2)] (by rfl) (by rfl) (World.news_of_block (cs:= #[.int .u8 (16*v1+v2)]) (t:=5) (fr:=(0,0)) (heap_alloc_new wr _)) (by simp [Value.oneCell']) (by omega) (by unfold maxLen;omega) (by omega) (by simp;omega) (wr.heap.size+1) (by simp) ?_;intro gg cap w1 hown1 hgrow hat hlt2))
    all_goals
     clear q1 q2 q3 q4 q5 q6 q7 r1 r2
     have hbw3:Below w.heap.size w w1:=((hbw.alloc (by omega) _).drew).grown hgrow (by simp;omega) (fun j hj=>by have:=hown.lt j hj;omega)
     clear hgrow hown hat
     go_wp2
     go_roundw
     case rel=>
      refine ⟨k+3,f,T++[v],by go_num,by omega,Gath.snoc hown1 HVX.out,hbw3,by simp;omega,by omega,?_⟩
      show (T++[v])++_=_
      rw [List.append_assoc];exact HD2.out
     case measure=>simp [intOf];omega
   |none=>
    have hD2:=HD.out
    rw [zuN s f k hlt hth] at hD2
    have HD2:=ygO hD2
    have hth2:(zfY (s.data.toList.drop k)).isSome=false:=by rw [hth];rfl
    obtain ⟨c,hc⟩: ∃c,s[k].toNat=c:=⟨_,rfl⟩
    have HC:=ygO hc
    clear hD2 hth
    go_wp2_with (first|(go_at_call 147;refine (zqH s k _ hs hlt).mono ?_;rintro e w' ⟨rfl,rfl⟩)|(at_builtin;refine zbN _ rfl _ _ 73 rfl w.heap.size 5 i0 (.int .u8 0) 1 Tryz.underlying73 hi hz0 hz1 hz2 rfl _ _ _ rfl hown (.int .u8 (c:Int)) rfl rfl (by omega) (by omega) hsz ?_;intro v' w1 hown' hk'))
    go_roundw
    case rel=>
     refine ⟨k+1,f,T++[s[k]],by go_num,by omega,Gath.snoc hown' (by rw [HC.out]),hbw.trans hk',by simp;omega,by omega,?_⟩
     show (T++[s[k]])++_=_
     rw [List.append_assoc];exact HD2.out
    case measure=>simp [intOf];omega
  ·have hfin:decB s.data.toList=T:=by
    have:=HD.out
    rw [zyT s fuel k hlt,List.append_nil] at this
    exact this.symm
   have hcv:=Gath.conv hown
   have HF:=ygO hfin
   clear hfin
   go_wp2
   go_ret
   exact ⟨by rw [HF.out];rfl,hbw⟩
def pctL (l:List UInt8):List UInt8:=l.flatMap pctB
def encP (s r:Int):List UInt8:=if inB s r=true then pctL (Lib.encodeRune r) else Lib.encodeRune r
def encB (s:Int) (l:List Int):List UInt8:=l.flatMap (encP s)
theorem zzU (l:List UInt8):(pctL l).length=3*l.length:=by
 induction l with
 |nil=>rfl
 |cons c l ih=>simp only [pctL,List.flatMap_cons,List.length_append] at ih ⊢;rw [ih];simp [pctB];omega
theorem zyO (s r:Int):(encP s r).length≤12:=by
 have:=zfP r
 unfold encP
 split
 ·rw [zzU];omega
 ·omega
theorem zsX (l:List UInt8) (k:Nat) (h:k<l.length):pctL (l.take (k+1))=pctL (l.take k)++pctB l[k]:=by
 unfold pctL
 rw [List.take_succ_eq_append_getElem h,List.flatMap_append]
 simp
theorem z7D (s r:Int) (l:List Int):encB s (r::l)=encP s r++encB s l:=by simp [encB]
theorem ztC (s:Int) (l:List Int) (k:Nat) (h:k<l.length):encB s (l.take (k+1))=encB s (l.take k)++encP s l[k]:=by
 unfold encB
 rw [List.take_succ_eq_append_getElem h,List.flatMap_append]
 simp
theorem zmJ (s:Int) (l:List Int): ∀k,(encB s (l.take k)).length≤12*k
 |0=>by simp [encB]
 |k+1=>by
  have ih:=zmJ s l k
  by_cases h:k<l.length
  ·rw [ztC s l k h,List.length_append];have:=zyO s l[k];omega
  ·rw [List.take_of_length_le (by omega)];rw [List.take_of_length_le (by omega)] at ih;omega
theorem zuS {T e:TypeId} {B b:Nat} {bs:List Value} {w w':World} (h:Lib.IsBuilderF T e B b bs w) (hb:Below w.heap.size w w'):Lib.IsBuilderF T e B b bs w':=by
 have key: ∀p,Lib.BuilderAtF T e B b p bs w→Lib.BuilderAtF T e B b p bs w':=by
  intro p hh
  obtain ⟨hB,v,hv,hown,hne⟩:=hh
  refine ⟨hB,v,(hb.block b (Array.getElem?_eq_some_iff.1 hv).1).trans hv,⟨hown.1,?_⟩,hne⟩
  rcases hown.2 with hn|⟨g,cap,cur,fz,hv2,hbg,hg,rest⟩
  ·exact .inl hn
  ·exact .inr ⟨g,cap,cur,fz,hv2,hbg,(hb.block g (Array.getElem?_eq_some_iff.1 hg).1).trans hg,rest⟩
 exact h.elim (fun x=> .inl (key _ x)) (fun x=> .inr (key _ x))
theorem ydL (w:World) (r:Int) (t:TypeId):RowR (w.alloc (.cells #[.int .i32 r] t)) (.slice (some ⟨w.heap.size,0,none⟩) 1 1) ([r].map (Value.int .i32)):=by
 refine ⟨_,1,rfl,fun j u hj=>⟨_,rfl,?_⟩⟩
 exact zsB w (.int .i32 r) t j u hj
theorem zwY (l:List UInt8):Lib.strCells ⟨l.toArray⟩=Lib.byteCells l:=rfl
theorem zpY (l:List UInt8) (k:Nat) (h:k<(ByteArray.mk l.toArray).size):(ByteArray.mk l.toArray)[k]=l[k]'(by simpa [ByteArray.size] using h):=rfl
theorem z0U (st:Int) (s:ByteArray) (w:World) (hst:0≤st) (hs:s.size≤67108864):
  Calls Tryz.prog 90 #[.int .u8 st,.string s] w fun e w'=>e= .returned (.string ⟨(encB st (scal s)).toArray⟩)∧Below w.heap.size w w':=by
 go_enter Tryz.func90,Tryz.ntmps90
 go_wp2
 go_loopw [] (fun wr=> ∃(pos fuel:Nat) (acc:List UInt8),Lib.IsBuilderF 105 5 w.heap.size w.heap.size (Lib.byteCells acc) wr∧wr.heap[w.heap.size+1]? =some (.stringIter s pos)∧Below w.heap.size w wr∧Hid (acc++encB st (zlA s fuel pos)=encB st (scal s))∧s.size≤pos+fuel∧acc.length≤12*pos∧pos≤s.size+4) (fun wr=>s.size - wr.iterPos (w.heap.size+1))
 case atStart=>
  refine ⟨0,s.size,[],(Lib.IsBuilderF.of (Lib.fresh_isBuilder _ _ w)).alloc _,?_,((ygS _ w).alloc (ygP _) _).alloc (by simp) _,rfl,by omega,by simp,by omega⟩
  have:=World.iter_heap (w.alloc (.cells #[.pointer none,.slice none 0 0] 105)) s 0
  simpa using this
 case round=>
  obtain ⟨pos,fuel,acc,hI,hit,hbw,HA,hfu,hal,hpo⟩:=hrel
  have hsz:w.heap.size+1<wr.heap.size:=(Array.getElem?_eq_some_iff.1 hit).1
  by_cases hp:pos<s.size
  ·have hnx: ∀ty,(Instr.next (.pointer (some ⟨w.heap.size+1,0,none⟩)) true ty).run Tryz.prog wr=_:=fun ty=>Lib.run_next_any_at wr (w.heap.size+1) s pos ty hit hp
   have hwd:=znY s pos hp
   have hwl:=zyQ s pos
   have hd1:=decode_le s pos
   have hI2:=hI.iterAt hit (pos+(Utf8.decode s pos).2)
   have hit2:=Lib.iterAt_heap wr (w.heap.size+1) s pos (pos+(Utf8.decode s pos).2) hit
   have hbw2:=Lib.below_iterAt hbw (k:=w.heap.size+1) (by omega) s (pos+(Utf8.decode s pos).2)
   have hsz2:w.heap.size+1<(wr.iterAt (w.heap.size+1) s (pos+(Utf8.decode s pos).2)).heap.size:=by rw [Lib.iterAt_size];omega
   obtain ⟨f,rfl⟩: ∃f,fuel=f+1:=⟨fuel - 1,by omega⟩
   have hA2:=HA.out
   rw [ziT s f pos hp,z7D] at hA2
   have HA2:=ygO hA2
   clear hA2
   generalize wr.iterAt (w.heap.size+1) s (pos+(Utf8.decode s pos).2)=wi at*
   generalize hr:((Utf8.decode s pos).1:Int)=r at*
   have hr0:0≤r:=by omega
   have hr1:r≤2147483647:=by omega
   have HWP:Hid (wr.iterPos (w.heap.size+1)=pos):=by
    show wr.iterPos (w.heap.size+1)=pos
    simp only [World.iterPos,hit]
   clear hr
   have hel:=zfP r
   cases hin:inB st r with
   |false=>
    have hep:encP st r=Lib.encodeRune r:=by unfold encP;rw [hin];rfl
    have HEP:=ygO hep
    clear hep
    go_wp2_with fail
    refine (ydA st r _ hst).mono ?_
    rintro e w' ⟨rfl,rfl⟩
    rw [hin]
    go_wp2_with fail
    refine (Tryz.Builder_WriteRune_k w.heap.size w.heap.size _ r (by omega) hr1 _ hI2 (by rw [Lib.byteCells_length];omega) (by omega)).mono ?_
    rintro e w1 ⟨rfl,h1,b1,k1⟩
    have hit3:=k1.iter hit2 (by omega)
    go_wp2
    go_roundw
    case rel=>
     refine ⟨pos+(Utf8.decode s pos).2,f,acc++Lib.encodeRune r,?_,hit3,hbw2.trans b1,?_,by omega,by simp;omega,by omega⟩
     ·rw [Lib.byteCells_append,Lib.byteCells_encodeRune];exact .inr h1
     ·show (acc++Lib.encodeRune r)++_=_
      rw [List.append_assoc,←HEP.out];exact HA2.out
    case measure=>
     rw [HWP.out]
     simp only [World.iterPos,hit3]
     omega
   |true=>
    have hep:encP st r=pctL (Lib.encodeRune r):=by unfold encP;rw [hin];rfl
    have HEP:=ygO hep
    clear hep
    go_wp2_with fail
    refine (ydA st r _ hst).mono ?_
    rintro e w' ⟨rfl,rfl⟩
    rw [hin]
    have hrow:=ydL wi r 21
    have hI3:=hI2.alloc (.cells #[.int .i32 r] 21)
    have hit3:(wi.alloc (.cells #[.int .i32 r] 21)).heap[w.heap.size+1]? =some (.stringIter s (pos+(Utf8.decode s pos).2)):=by rw [Below.heap_alloc _ _ _ (by omega)];exact hit2
    have hbw3:=hbw2.alloc (by omega:w.heap.size≤wi.heap.size) (.cells #[.int .i32 r] 21)
    go_wp2_with fail
    refine (yaY _ [r] _ hrow (by simp) (by intro x hx;simp at hx;omega)).mono ?_
    rintro e w2 ⟨rfl,hb2⟩
    have hI4:=zuS hI3 hb2
    have hit4:=(hb2.block (w.heap.size+1) (by simp;omega)).trans hit3
    have hbw4:Below w.heap.size w w2:=hbw3.trans (hb2.mono (by simp;omega))
    clear hI2 hI3 hit2 hit3 hbw2 hbw3 hrow hb2
    rw [show zkG [r]=Lib.encodeRune r from by simp [zkG]]
    generalize hE:Lib.encodeRune r=E at*
    have HE:=ygO hE
    clear hE
    go_wp2
    go_loopw [26] (fun i wq=> ∃j:Nat,j≤E.length∧i= .int .i64 j∧Lib.IsBuilderF 105 5 w.heap.size w.heap.size (Lib.byteCells (acc++pctL (E.take j))) wq∧wq.heap[w.heap.size+1]? =some (.stringIter s (pos+(Utf8.decode s pos).2))∧Below w.heap.size w wq) (fun i _=>E.length - (intOf i).toNat)
    case atStart=>
     refine ⟨0,Nat.zero_le _,rfl,?_,hit4,hbw4⟩
     simpa [pctL] using hI4
    case round=>
     obtain ⟨j,hj,rfl,hIq,hitq,hbwq⟩:=hrel
     have hszq:w.heap.size+1<wr.heap.size:=(Array.getElem?_eq_some_iff.1 hitq).1
     by_cases hjlt:j<E.length
     ·have hjs:j<(ByteArray.mk E.toArray).size:=by rw [zaA];exact hjlt
      have hsn:=zsX E j hjlt
      have HSN:=ygO hsn
      have hpl:(pctL (E.take j)).length≤12:=by rw [zzU,List.length_take];omega
      clear hsn
      have hba:=zpY E j hjs
      have HBA:=ygO hba
      clear hba
      go_wp2_with fail
      refine (yaM (ByteArray.mk E.toArray)[j] _).mono ?_
      rintro e w3 ⟨rfl,hb3⟩
      have hI5:=zuS hIq hb3
      have hit5:=(hb3.block (w.heap.size+1) (by omega)).trans hitq
      have hbw5:Below w.heap.size w w3:=hbwq.trans (hb3.mono (by omega))
      have hsz3:w.heap.size≤w3.heap.size:=hbw5.size
      go_wp2_with fail
      refine (Tryz.Builder_WriteString_k w.heap.size w.heap.size _ _ _ hI5 (by rw [Lib.byteCells_length,List.length_append,zaA,show (pctB (ByteArray.mk E.toArray)[j]).length=3 from rfl];omega) hsz3).mono ?_
      rintro e w4 ⟨rfl,h4,b4,k4⟩
      have hit6:=k4.iter hit5 (by omega)
      go_wp2
      go_roundw
      case rel=>
       refine ⟨j+1,by omega,by go_num,?_,hit6,hbw5.trans b4⟩
       rw [HSN.out,←List.append_assoc,Lib.byteCells_append,←HBA.out,←zwY]
       exact .inr h4
      case measure=>simp [intOf];omega
     ·have hfin:pctL (E.take j)=encP st r:=by rw [List.take_of_length_le (by omega),HEP.out]
      rw [hfin] at hIq
      clear hfin
      have hpl:=zyO st r
      generalize encP st r=EP at*
      go_wp2
      go_roundw
      case rel=>
       refine ⟨pos+(Utf8.decode s pos).2,f,acc++EP,hIq,hitq,hbwq,?_,by omega,by simp;omega,by omega⟩
       show (acc++EP)++_=_
       rw [List.append_assoc];exact HA2.out
      case measure=>
       simp only [World.iterPos,hitq]
       have:=HWP.out
       simp only [World.iterPos] at this
       omega
  ·have hnx: ∀ty,(Instr.next (.pointer (some ⟨w.heap.size+1,0,none⟩)) true ty).run Tryz.prog wr=_:=fun ty=>Lib.run_next_end_at wr (w.heap.size+1) s pos ty hit hp
   have hfin:acc=encB st (scal s):=by
    have:=HA.out
    rw [zjT s fuel pos hp] at this
    simpa [encB] using this
   subst hfin
   go_wp2_with fail
   refine (Tryz.Builder_String_any_k w.heap.size w.heap.size _ _ hI (by omega)).mono ?_
   rintro e w1 ⟨rfl,_,b1,_⟩
   go_wp2
   go_ret
   exact ⟨rfl,hbw.trans b1⟩
def zmL (b:Bool) (l:List UInt8):List UInt8:=if b then pctL l else l
theorem znK (l:List UInt8) (j:Nat) (h:j<l.length):zmL true (l.take (j+1))=zmL true (l.take j)++pctB l[j]:=zsX l j h
theorem zmP (l:List UInt8) (j:Nat) (h:j<l.length):zmL false (l.take (j+1))=zmL false (l.take j)++[l[j]]:=by
 unfold zmL
 rw [List.take_succ_eq_append_getElem h]
 rfl
theorem z6Q (s r:Int):zmL (inB s r) (Lib.encodeRune r)=encP s r:=by
 unfold zmL encP
 rfl
theorem zdQ (st:Int) (s:ByteArray) (w:World) (hst:0≤st) (hs:s.size≤67108864):
  Calls Tryz.prog 56 #[.int .i64 st,.string s] w fun e w'=>e= .returned (.string ⟨(encB st (scal s)).toArray⟩)∧Below w.heap.size w w':=by
 have hsl:=zzI s
 go_enter Tryz.func56,Tryz.ntmps56
 go_wp2_with fail
 refine (zpI _ _ (by omega)).mono ?_
 rintro e w1 ⟨v1,rfl,hown1,hb1⟩
 have hrow:=RowR.of_own hown1
 obtain ⟨ao,cc,rfl,hcc⟩:=hrow
 simp only [List.length_map] at*
 generalize hL:scal s=L at*
 have HL:=ygO hL
 clear hL hown1
 have HC:=ygO hcc
 clear hcc
 go_wp2
 go_loopw [5,13] (fun o i wr=> ∃(k:Nat) (T:List UInt8),k≤L.length∧i= .int .i64 k∧o= .string ⟨T.toArray⟩∧T.length≤12*k∧Hid (T=encB st (L.take k))∧Below w1.heap.size w1 wr) (fun _ i _=>L.length - (intOf i).toNat)
 case atStart=>exact ⟨0,[],Nat.zero_le _,rfl,rfl,by simp,rfl,ygS _ _⟩
 case round=>
  obtain ⟨k,T,hk,rfl,rfl,hTl,HT,hbw⟩:=hrel
  have hsz:=hbw.size
  by_cases hlt:k<L.length
  ·obtain ⟨r,hr⟩: ∃r,r=L[k]:=⟨_,rfl⟩
   obtain ⟨d1,rfl,hd1⟩:=HC.out k (.int .i32 r) (by simp [hr,hlt])
   have hd2:wr.cell? (d1.add k)=some (.int .i32 r):=(hbw.cell (World.block_lt_of_cell? _ _ hd1)).trans hd1
   have hsn:=ztC st L k hlt
   rw [←hr,←HT.out,←z6Q] at hsn
   have HSN:=ygO hsn
   have hel:=zfP r
   clear hsn hr hd1
   go_wp2_with fail
   refine (ydN _ _).mono ?_
   rintro e w2 ⟨rfl,hb2⟩
   have hbw2:Below w1.heap.size w1 w2:=hbw.trans (hb2.mono hsz)
   clear hb2 hd2 hbw
   generalize hE:Lib.encodeRune r=E at*
   clear hE
   generalize hB:inB st r=b at*
   have HB:=ygO hB
   clear hB
   go_wp2
   go_loop [5,9] (fun o i=> ∃(j:Nat) (U:List UInt8),j≤E.length∧i= .int .i64 j∧o= .string ⟨U.toArray⟩∧U.length≤12*k+3*j∧Hid (U=T++zmL b (E.take j))) (fun _ i=>E.length - (intOf i).toNat)
   case atStart=>
    refine ⟨0,T,Nat.zero_le _,rfl,rfl,by omega,?_⟩
    show T=T++zmL b (E.take 0)
    cases b<;>simp [zmL,pctL]
   case round=>
    obtain ⟨j,U,hj,rfl,rfl,hUl,HU⟩:=hrel
    by_cases hjlt:j<E.length
    ·have hjs:j<(ByteArray.mk E.toArray).size:=by rw [zaA];exact hjlt
     have hba:=zpY E j hjs
     have HBA:=ygO hba
     clear hba
     cases b with
     |true=>
      have HSN2:=ygO (znK E j hjlt)
      go_wp2_with fail
      refine (zvI st r _ hst).mono ?_
      rintro e w' ⟨rfl,rfl⟩
      rw [HB.out]
      go_wp2_with fail
      refine (zwQ (ByteArray.mk E.toArray)[j] _).mono ?_
      rintro e w' ⟨rfl,rfl⟩
      have hp3:(pctB (ByteArray.mk E.toArray)[j]).length=3:=rfl
      generalize hpb:pctB (ByteArray.mk E.toArray)[j]=pb at*
      have HPB:=ygO hpb
      have HP3:=ygO hp3
      have hp3':pb.length≤3:=by rw [hp3];exact ygP _
      clear hpb hp3
      go_wp2
      go_round
      case rel=>
       refine ⟨j+1,U++pb,by omega,by go_num,?_,by simp;omega,?_⟩
       ·first|rfl|(rw [zuM])
       ·show U++pb=T++zmL true (E.take (j+1))
        rw [HSN2.out,←List.append_assoc,←HU.out,←HPB.out,HBA.out]
      case measure=>simp [intOf];omega
     |false=>
      have HSN2:=ygO (zmP E j hjlt)
      have hsl2:=fun W:World=>zkD (P:=Tryz.prog) W 9 (ByteArray.mk E.toArray) (j:Int) ((j:Int)+1) j (j+1) rfl (by omega) (by omega) (by rw [zaA];omega) Tryz.underlying9
      have hap:=zqN U (ByteArray.mk E.toArray) j hjs
      have HAP:=ygO hap
      have hxs:((ByteArray.mk E.toArray).extract j (j+1)).size≤1:=by rw [ByteArray.size_extract];omega
      clear hap
      go_wp2_with fail
      refine (zvI st r _ hst).mono ?_
      rintro e w' ⟨rfl,rfl⟩
      rw [HB.out]
      go_wp2
      go_round
      case rel=>
       refine ⟨j+1,U++[(ByteArray.mk E.toArray)[j]],by omega,by go_num,?_,by simp;omega,?_⟩
       ·rw [←HAP.out]
       ·show U++[_]=T++zmL false (E.take (j+1))
        rw [HSN2.out,←List.append_assoc,←HU.out,HBA.out]
      case measure=>simp [intOf];omega
    ·have hfin:encB st (L.take (k+1))=U:=by
      rw [HSN.out,HU.out,List.take_of_length_le (by omega)]
     have HF:=ygO hfin
     clear hfin
     go_wp2
     go_roundw
     case rel=>exact ⟨k+1,U,by omega,by go_num,rfl,by omega,HF.out.symm,hbw2⟩
     case measure=>simp [intOf];omega
  ·have hfin:encB st L=T:=by rw [HT.out,List.take_of_length_le (by omega)]
   have HF:=ygO hfin
   clear hfin
   go_wp2
   go_ret
   exact ⟨by rw [HL.out,HF.out];rfl,hb1.trans (hbw.mono hb1.size)⟩
def digC (b:Int) (c:UInt8):Bool:=decide (0≤valZ (c.toNat:Int)∧valZ (c.toNat:Int)<b)
def zbO (b:Int) (l:List UInt8):Bool:=l.all (digC b)
def capZ (x:Int):Int:=if 1099511627776<x then 1099511627776 else x
def zwU (b:Int) (n:Int) (c:UInt8):Int:=capZ (n*b+valZ (c.toNat:Int))
def numZ (b:Int) (l:List UInt8):Int:=l.foldl (zwU b) 0
def zgT (l:List UInt8):List UInt8×Int:=
 match l with
 |a::c::r=>if a.toNat=48 then (if c.toNat=120∨c.toNat=88 then (r,16) else (c::r,8)) else (a::c::r,10)
 |_=>(l,10)
def zcR (l:List UInt8):Int×Bool:=
 if l.isEmpty then (0,false) else if zbO (zgT l).2 (zgT l).1 then (numZ (zgT l).2 (zgT l).1,true) else (0,false)
theorem z2U (b:Int) (s:ByteArray) (k:Nat) (h:k<s.size):zbO b (s.data.toList.take (k+1))=(zbO b (s.data.toList.take k)&&digC b s[k]):=by
 rw [zeA s k h];simp [zbO]
theorem zvA (b:Int) (s:ByteArray) (k:Nat) (h:k<s.size):numZ b (s.data.toList.take (k+1))=zwU b (numZ b (s.data.toList.take k)) s[k]:=by
 rw [zeA s k h];simp [numZ]
theorem zkJ {b:Int} {c:UInt8} {v:Int} (hv:valZ (c.toNat:Int)=v) (h0:0≤v) (h1:v<b):digC b c=true:=ygR (by rw [hv];exact ⟨h0,h1⟩)
theorem zeT {b:Int} {c:UInt8} {v:Int} (hv:valZ (c.toNat:Int)=v) (h:v<0∨b≤v):digC b c=false:=ygQ (by rw [hv];omega)
theorem zeJ (b:Int) (s:ByteArray) (k:Nat) (h:k<s.size) (hc:digC b s[k]=false):zbO b s.data.toList=false:=by
 unfold zbO
 rw [List.all_eq_false]
 refine ⟨s[k],?_,by rw [hc];simp⟩
 show s.data[k]∈_
 simp
theorem ziS (b:Int) (s:ByteArray) (k:Nat) (h:k<s.size) (hp:zbO b (s.data.toList.take k)=true) (hc:digC b s[k]=true):zbO b (s.data.toList.take (k+1))=true:=by
 rw [z2U b s k h,hp,hc];rfl
theorem zjZ (r:Int) (h:128≤r):valZ r= -1:=by
 unfold valZ;(repeat' split)<;>omega
theorem zrY (r:Int):valZ r<16:=by
 unfold valZ;(repeat' split)<;>omega
theorem ydJ (x:Int):capZ x≤1099511627776:=by unfold capZ;split<;>omega
theorem z7C {x:Int} (h:1099511627776<x):capZ x=1099511627776:=if_pos h
theorem z9X {x:Int} (h: ¬1099511627776<x):capZ x=x:=if_neg h
theorem zzP (b n:Int) (c:UInt8) (v:Int) (hv:valZ (c.toNat:Int)=v):zwU b n c=capZ (n*b+v):=by rw [zwU,hv]
theorem zpN (l:List UInt8):(zgT l).2=8∨(zgT l).2=10∨(zgT l).2=16:=by
 unfold zgT
 repeat' split
 all_goals simp
theorem zrA (s:ByteArray) (h:2≤s.size): ∃r,s.data.toList=s[0]::s[1]::r∧s.data.toList.drop 2=r:=by
 refine ⟨s.data.toList.drop 2,?_,rfl⟩
 have e0:s.data.toList=s.data.toList.drop 0:=rfl
 conv=>lhs;rw [e0,List.drop_eq_getElem_cons (by simp;omega),List.drop_eq_getElem_cons (by simp;omega)]
 rfl
theorem zoN (s:ByteArray) (h:s.size<2):zgT s.data.toList=(s.data.toList,10):=by
 have hl:=zaH s
 match hd:s.data.toList,hl with
 |[],_=>rfl
 |[a],_=>rfl
 |a::c::r,hl=>simp at hl;omega
theorem zuC (s:ByteArray) (h:2≤s.size) (h0:s[0].toNat≠48):zgT s.data.toList=(s.data.toList,10):=by
 obtain ⟨r,hr,_⟩:=zrA s h
 rw [hr];simp [zgT,h0]
theorem zsW (s:ByteArray) (h:2≤s.size) (h0:s[0].toNat=48) (h1:s[1].toNat=120∨s[1].toNat=88):zgT s.data.toList=(s.data.toList.drop 2,16):=by
 obtain ⟨r,hr,h2⟩:=zrA s h
 rw [h2,hr];simp only [zgT,h0,h1,if_true]
theorem ztM (s:ByteArray) (h:2≤s.size) (h0:s[0].toNat=48) (h1: ¬(s[1].toNat=120∨s[1].toNat=88)):zgT s.data.toList=(s.data.toList.drop 1,8):=by
 obtain ⟨r,hr,_⟩:=zrA s h
 rw [hr];simp only [zgT,h0,h1,if_true,if_false];rfl
theorem ziU (s:ByteArray) (a:Nat):s.extract a s.size=⟨(s.data.toList.drop a).toArray⟩:=
 zfS s a s.size _ (List.take_of_length_le (by simp))
def z6C (w:World) (x:List UInt8×Int) (e:Ending) (w':World):Prop:=e= .returned (.tuple #[.string ⟨x.1.toArray⟩,.int .i64 x.2])∧w=w'
theorem ziQ {w:World} {x:List UInt8×Int} {y:ByteArray} {b:Int} {l:List UInt8} (h:x=(l,b)) (hy:y=⟨l.toArray⟩):z6C w x (.returned (.tuple #[.string y,.int .i64 b])) w:=by
 subst h hy;exact ⟨rfl,rfl⟩
theorem znR (s:ByteArray) (w:World) (hs:s.size≤1073741824):
  Calls Tryz.prog 161 #[.string s] w (z6C w (zgT s.data.toList)):=by
 by_cases h2:s.size<2
 ·have HR:=ygO (zoN s h2)
  go_enter Tryz.func161,Tryz.ntmps161
  go_wp2
  go_ret2
  exact ziQ HR.out (by simp)
 ·have h2':2≤s.size:=by omega
  have l0:0<s.size:=by omega
  have l1:1<s.size:=by omega
  obtain ⟨a,ha⟩: ∃a,s[0].toNat=a:=⟨_,rfl⟩
  obtain ⟨c,hc⟩: ∃a,s[1].toNat=a:=⟨_,rfl⟩
  by_cases h48:a=48
  ·subst h48
   by_cases hx:c=120∨c=88
   ·have HR:=ygO (zsW s h2' ha (by rw [hc];exact hx))
    rcases hx with rfl|rfl
    all_goals
     go_enter Tryz.func161,Tryz.ntmps161
     go_wp2
     go_ret2
     exact ziQ HR.out (ziU s 2)
   ·have HR:=ygO (ztM s h2' ha (by rw [hc];exact hx))
    have b1:((c:Int)==120)=false:=beq_eq_false_iff_ne.2 (by omega)
    have b2:((c:Int)==88)=false:=beq_eq_false_iff_ne.2 (by omega)
    clear hx
    go_enter Tryz.func161,Tryz.ntmps161
    go_wp2
    go_ret2
    exact ziQ HR.out (ziU s 1)
  ·have HR:=ygO (zuC s h2' (by rw [ha];exact h48))
   have b1:((a:Int) !=48)=true:=by rw [bne_iff_ne];omega
   go_enter Tryz.func161,Tryz.ntmps161
   go_wp2
   go_ret2
   exact ziQ HR.out (by simp)
def zyL (w:World) (x:Int×Bool) (e:Ending) (w':World):Prop:=e= .returned (.tuple #[.int .u64 x.1,.bool x.2])∧Below w.heap.size w w'
theorem zdE {w w':World} {x:Int×Bool} {n:Int} {b:Bool} (h:x=(n,b)) (hb:Below w.heap.size w w'):zyL w x (.returned (.tuple #[.int .u64 n,.bool b])) w':=by
 subst h;exact ⟨rfl,hb⟩
theorem zbL (s:ByteArray) (b:Int) (w:World) (hs:s.size≤1073741824):
  Calls Tryz.prog 151 #[.string s,.int .i64 b] w fun e w'=>e= .returned (.bool (zbO b s.data.toList))∧w=w':=by
 go_enter Tryz.func151,Tryz.ntmps151
 go_wp2
 go_loop [5] (fun i=> ∃k:Nat,k≤s.size∧i= .int .i64 k∧Hid (zbO b (s.data.toList.take k)=true)) (fun i=>s.size - (intOf i).toNat)
 case atStart=>exact ⟨0,Nat.zero_le _,rfl,rfl⟩
 case round=>
  obtain ⟨k,hk,rfl,H⟩:=hrel
  by_cases hlt:k<s.size
  ·obtain ⟨c,hc⟩: ∃c,(s[k]'hlt).toNat=c:=⟨_,rfl⟩
   have hc256:c<256:=by rw [←hc];exact (s[k]'hlt).toNat_lt
   obtain ⟨v,hv⟩: ∃v,valZ (c:Int)=v:=⟨_,rfl⟩
   have HV:Hid (valZ (s[k].toNat:Int)=v):=by show valZ (s[k].toNat:Int)=v;rw [hc];exact hv
   by_cases h0:v<0
   ·have HF:=ygO (zeJ b s k hlt (zeT HV.out (.inl h0)))
    go_wp2_with (go_at_call 148;refine (zcM _ _).mono ?_;rintro e w' ⟨rfl,rfl⟩)
    go_ret
    exact ⟨zaD HF.out.symm,rfl⟩
   ·by_cases h1:b≤v
    ·have HF:=ygO (zeJ b s k hlt (zeT HV.out (.inr h1)))
     go_wp2_with (go_at_call 148;refine (zcM _ _).mono ?_;rintro e w' ⟨rfl,rfl⟩)
     go_ret
     exact ⟨zaD HF.out.symm,rfl⟩
    ·have HF:=ygO (ziS b s k hlt H.out (zkJ HV.out (by omega) (by omega)))
     go_wp2_with (go_at_call 148;refine (zcM _ _).mono ?_;rintro e w' ⟨rfl,rfl⟩)
     go_round
     case rel=>exact ⟨k+1,by omega,by go_num,HF⟩
     case measure=>simp [intOf];omega
  ·have HF:Hid (zbO b s.data.toList=true):=by
    show zbO b s.data.toList=true
    have:=H.out
    rwa [zdF s k hlt] at this
   go_wp2
   go_ret
   exact ⟨zaD HF.out.symm,rfl⟩
theorem z3I (b:Int) (s:ByteArray) (k:Nat) (h:k<s.size) (hd:zbO b s.data.toList=true):0≤valZ (s[k].toNat:Int)∧valZ (s[k].toNat:Int)<b:=by
 unfold zbO at hd
 rw [List.all_eq_true] at hd
 have:=hd s[k] (by show s.data[k]∈_;simp)
 exact of_decide_eq_true this
theorem zfF (s:ByteArray) (b:Int) (w:World) (hs:s.size≤1073741824) (hb:b=8∨b=10∨b=16) (hd:zbO b s.data.toList=true):
  Calls Tryz.prog 179 #[.string s,.int .i64 b] w fun e w'=>e= .returned (.int .u64 (numZ b s.data.toList))∧w=w':=by
 have HD:=ygO hd
 clear hd
 have hb1:8≤b:=by omega
 have hb2:b≤16:=by omega
 clear hb
 go_enter Tryz.func179,Tryz.ntmps179
 go_wp2
 go_loop [5,6] (fun n i=> ∃(k:Nat) (A:Int),k≤s.size∧i= .int .i64 k∧n= .int .i64 A∧0≤A∧A≤1099511627776∧Hid (A=numZ b (s.data.toList.take k))) (fun _ i=>s.size - (intOf i).toNat)
 case atStart=>exact ⟨0,0,Nat.zero_le _,rfl,rfl,by omega,by omega,rfl⟩
 case round=>
  obtain ⟨k,A,hk,rfl,rfl,hA0,hA1,HA⟩:=hrel
  by_cases hlt:k<s.size
  ·obtain ⟨c,hc⟩: ∃c,(s[k]'hlt).toNat=c:=⟨_,rfl⟩
   have hc256:c<256:=by rw [←hc];exact (s[k]'hlt).toNat_lt
   obtain ⟨v,hv⟩: ∃v,valZ (c:Int)=v:=⟨_,rfl⟩
   have hvb:=z3I b s k hlt HD.out
   rw [hc,hv] at hvb
   obtain ⟨hv0,hv1⟩:=hvb
   have hsn:=zvA b s k hlt
   rw [←HA.out,zzP _ _ _ v (by rw [hc];exact hv)] at hsn
   have HSN:=ygO hsn
   clear hsn
   have hP0:0≤A*b:=Int.mul_nonneg hA0 (by omega)
   have hP1:A*b≤1099511627776*16:=Int.mul_le_mul hA1 hb2 (by omega) (by omega)
   by_cases ht:1099511627776<A*b+v
   ·have HC:=ygO (HSN.out.trans (z7C ht))
    go_wp2_with (go_at_call 148;refine (zcM _ _).mono ?_;rintro e w' ⟨rfl,rfl⟩)
    go_round
    case rel=>exact ⟨k+1,1099511627776,by omega,by go_num,rfl,by omega,by omega,HC.out.symm⟩
    case measure=>simp [intOf];omega
   ·have HC:=ygO (HSN.out.trans (z9X ht))
    go_wp2_with (go_at_call 148;refine (zcM _ _).mono ?_;rintro e w' ⟨rfl,rfl⟩)
    go_round
    case rel=>exact ⟨k+1,_,by omega,by go_num,rfl,by omega,by omega,HC.out.symm⟩
    case measure=>simp [intOf];omega
  ·have HF:Hid (numZ b s.data.toList=A):=by
    show numZ b s.data.toList=A
    rw [HA.out,zdF s k hlt]
   go_wp2
   go_ret
   exact ⟨zcJ HF.out.symm,rfl⟩
theorem ziG (l:List UInt8) (r:List UInt8) (b:Int) (h:zgT l=(r,b)) (hd:zbO b r=false):zcR l=(0,false):=by
 unfold zcR
 rw [h,hd]
 split<;>rfl
theorem zhC (l:List UInt8) (r:List UInt8) (b:Int) (h:zgT l=(r,b)) (hn:l≠[]) (hd:zbO b r=true):zcR l=(numZ b r,true):=by
 unfold zcR
 rw [h,hd]
 cases l with
 |nil=>exact absurd rfl hn
 |cons a t=>rfl
theorem zwH (s:ByteArray) (h:s.size=0):s.data.toList=[]:=List.length_eq_zero_iff.1 (by rw [zaH];exact h)
theorem zdN (s:ByteArray) (h:s.size≠0):s.data.toList≠[]:=fun e=>h (by rw [←zaH,e];rfl)
theorem z8Q (s:ByteArray):ByteArray.mk s.data.toList.toArray=s:=by simp
theorem zaB (l:List UInt8):(ByteArray.mk l.toArray).data.toList=l:=by simp
theorem zdI (s:ByteArray) (h:s.size=0):s=⟨#[]⟩:=by
 apply ByteArray.ext
 apply Array.ext'
 exact zwH s h
theorem zeQ (s:ByteArray) (h:s.size≠0):s.toList.isEmpty=false:=by
 rw [ByteArray.toList_eq]
 cases hd:s.data.toList with
 |nil=>exact absurd hd (zdN s h)
 |cons a l=>rfl
theorem z1T (s:ByteArray) (d:ByteArray) (b:Int) (w:World) (hs:s.size≤1073741824) (hn:s.size≠0) (hb:b=8∨b=10∨b=16) (hr:zgT s.data.toList=(d.data.toList,b)):
  Calls Tryz.prog 117 #[.string s] w (zyL w (zcR s.data.toList)):=by
 have HR:=ygO hr
 have HNO:=ygO (ziG s.data.toList _ b hr)
 have HYES:=ygO (zhC s.data.toList _ b hr (zdN s hn))
 have hse:=zeQ s hn
 clear hr hn
 have hb1:8≤b:=by omega
 have hb2:b≤16:=by omega
 clear hb
 go_enter Tryz.func117,Tryz.ntmps117
 go_wp2_with fail
 refine (znR s _ hs).mono ?_
 rw [HR.out]
 rintro e w' ⟨rfl,rfl⟩
 simp only [z8Q]
 go_wp2
 go_loopw [6] (fun n wr=> ∃(k:Nat) (A:Int),n= .int .u64 A∧0≤A∧A≤1099511627776∧k≤d.size∧wr.heap[w.heap.size]? =some (.stringIter d k)∧Below w.heap.size w wr∧w.heap.size+1≤wr.heap.size∧Hid (A=numZ b (d.data.toList.take k))∧Hid (zbO b (d.data.toList.take k)=true)) (fun _ wr=>d.size - wr.iterPos w.heap.size)
 case atStart=>exact ⟨0,0,rfl,by omega,by omega,Nat.zero_le _,World.iter_heap w d 0,(ygS _ w).alloc (ygP _) _,by simp [World.iter],rfl,rfl⟩
 case round=>
  obtain ⟨k,A,rfl,hA0,hA1,hk,hit,hbw,hsz,HA,HDG⟩:=hrel
  by_cases hp:k<d.size
  ·obtain ⟨c,hc⟩: ∃c,(d[k]'hp).toNat=c:=⟨_,rfl⟩
   have hnx: ∀ty,(Instr.next (.pointer (some ⟨w.heap.size,0,none⟩)) true ty).run Tryz.prog wr=_:=fun ty=>Lib.run_next_any_at wr w.heap.size d k ty hit hp
   by_cases hc128:c<128
   ·have hdec:=decode_ascii d k hp (by omega)
    rw [hc] at hdec
    rw [hdec] at hnx
    have hit2:=Lib.iterAt_heap wr w.heap.size d k (k+1) hit
    have hbw2:=Lib.below_iterAt hbw (k:=w.heap.size) (ygP _) d (k+1)
    have hsz2:w.heap.size+1≤(wr.iterAt w.heap.size d (k+1)).heap.size:=by rw [Lib.iterAt_size];exact hsz
    simp only at hnx
    generalize wr.iterAt w.heap.size d (k+1)=wi at*
    obtain ⟨v,hv⟩: ∃v,valZ (c:Int)=v:=⟨_,rfl⟩
    have hv16:v<16:=by rw [←hv];exact zrY _
    have HV:Hid (valZ (d[k].toNat:Int)=v):=by show valZ (d[k].toNat:Int)=v;rw [hc];exact hv
    have HIT:=ygO hit
    have HC:=ygO hc
    clear hit hc hdec
    by_cases h0:v<0
    ·have HF:=ygO (HNO.out (zeJ b d k hp (zeT HV.out (.inl h0))))
     go_wp2_with (go_at_call 132;refine (zdH _ _).mono ?_;rintro e w' ⟨rfl,rfl⟩)
     go_ret2
     exact zdE HF.out hbw2
    ·by_cases h1:b≤v
     ·have HF:=ygO (HNO.out (zeJ b d k hp (zeT HV.out (.inr h1))))
      go_wp2_with (go_at_call 132;refine (zdH _ _).mono ?_;rintro e w' ⟨rfl,rfl⟩)
      go_ret2
      exact zdE HF.out hbw2
     ·have HF:=ygO (ziS b d k hp HDG.out (zkJ HV.out (by omega) (by omega)))
      have hsn:=zvA b d k hp
      rw [←HA.out,zzP _ _ _ v HV.out] at hsn
      have HSN:=ygO hsn
      clear hsn
      have hP0:0≤A*b:=Int.mul_nonneg hA0 (by omega)
      have hP1:A*b≤1099511627776*16:=Int.mul_le_mul hA1 hb2 (by omega) (by omega)
      by_cases ht:1099511627776<A*b+v
      ·have HC2:=ygO (HSN.out.trans (z7C ht))
       go_wp2_with (go_at_call 132;refine (zdH _ _).mono ?_;rintro e w' ⟨rfl,rfl⟩)
       go_roundw
       case rel=>exact ⟨k+1,1099511627776,rfl,by omega,by omega,by omega,hit2,hbw2,hsz2,HC2.out.symm,HF⟩
       case measure=>
        simp only [World.iterPos,hit2,HIT.out]
        omega
      ·have HC2:=ygO (HSN.out.trans (z9X ht))
       go_wp2_with (go_at_call 132;refine (zdH _ _).mono ?_;rintro e w' ⟨rfl,rfl⟩)
       go_roundw
       case rel=>exact ⟨k+1,_,rfl,by omega,by omega,by omega,hit2,hbw2,hsz2,HC2.out.symm,HF⟩
       case measure=>
        simp only [World.iterPos,hit2,HIT.out]
        omega
   ·have hh:=decode_high d k hp (by omega)
    obtain ⟨r,hr⟩: ∃r,(Utf8.decode d k).1=r:=⟨_,rfl⟩
    obtain ⟨wd,hwd⟩: ∃r,(Utf8.decode d k).2=r:=⟨_,rfl⟩
    have hrl:=decode_le d k
    rw [hr,hwd] at hnx
    rw [hr,hwd] at hh
    rw [hr] at hrl
    have hbw2:=Lib.below_iterAt hbw (k:=w.heap.size) (ygP _) d (k+wd)
    generalize wr.iterAt w.heap.size d (k+wd)=wi at*
    have hv:valZ (r:Int)= -1:=zjZ _ (by omega)
    have HF:=ygO (HNO.out (zeJ b d k hp (zeT (zjZ _ (by omega)) (.inl (by omega)))))
    clear hc hr hwd
    go_wp2_with (go_at_call 132;refine (zdH _ _).mono ?_;rintro e w' ⟨rfl,rfl⟩)
    go_ret2
    exact zdE HF.out hbw2
  ·have hnx: ∀ty,(Instr.next (.pointer (some ⟨w.heap.size,0,none⟩)) true ty).run Tryz.prog wr=_:=fun ty=>Lib.run_next_end_at wr w.heap.size d k ty hit hp
   have hdt:=HDG.out
   rw [zdF d k hp] at hdt
   have hat:=HA.out
   rw [zdF d k hp] at hat
   have HF:=ygO (HYES.out hdt)
   have HAT:=ygO hat
   clear hdt hat
   go_wp2
   go_ret2
   exact zdE (by rw [HF.out,HAT.out]) hbw
theorem zkN (s:ByteArray) (w:World) (hs:s.size≤1073741824):
  Calls Tryz.prog 117 #[.string s] w (zyL w (zcR s.data.toList)):=by
 by_cases hn:s.size=0
 ·obtain rfl:=zdI s hn
  clear hn hs
  have HF:Hid (zcR (ByteArray.mk #[]).data.toList=(0,false)):=rfl
  go_enter Tryz.func117,Tryz.ntmps117
  go_wp2
  go_ret2
  exact zdE HF.out (ygS _ _)
 ·obtain ⟨⟨r,b⟩,hr⟩: ∃x,zgT s.data.toList=x:=⟨_,rfl⟩
  have hb:=zpN s.data.toList
  rw [hr] at hb
  exact z1T s ⟨r.toArray⟩ b w hs hn hb (by rw [zaB];exact hr)
theorem zkW (s:ByteArray) (a:Nat) (d:ByteArray) (h:s.extract a s.size=d):s.data.toList.drop a=d.data.toList:=by
 rw [←h,ziU]
theorem zmI (s:ByteArray) (a:Nat) (d:ByteArray) (h:s.extract a s.size=d):d.size≤s.size:=by
 rw [←h];simp [ByteArray.size_extract]
theorem zdP (s:ByteArray) (w:World) (hs:s.size≤1073741824):
  Calls Tryz.prog 150 #[.string s] w (zyL w (zcR s.data.toList)):=by
 by_cases hn:s.size=0
 ·obtain rfl:=zdI s hn
  clear hn hs
  have HF:Hid (zcR (ByteArray.mk #[]).data.toList=(0,false)):=rfl
  go_enter Tryz.func150,Tryz.ntmps150
  go_wp2
  go_ret2
  exact zdE HF.out (ygS _ _)
 ·have hn1:1≤s.size:=by omega
  have hnb:((s.size:Int)==0)=false:=beq_eq_false_iff_ne.2 (by omega)
  by_cases h2:s.size<2
  ·have HR:=ygO (zoN s h2)
   by_cases hdg:zbO 10 s.data.toList=true
   ·have HF:=ygO (zhC s.data.toList _ 10 HR.out (zdN s hn) hdg)
    have HDG:=ygO hdg
    clear hdg hn
    go_enter Tryz.func150,Tryz.ntmps150
    go_wp2_with fail
    refine (zbL s 10 _ (by omega)).mono ?_
    rw [HDG.out]
    rintro e w' ⟨rfl,rfl⟩
    go_wp2_with fail
    refine (zfF s 10 _ (by omega) (by omega) HDG.out).mono ?_
    rintro e w' ⟨rfl,rfl⟩
    go_wp2
    go_ret2
    exact zdE HF.out (ygS _ _)
   ·have hdf:zbO 10 s.data.toList=false:=by simpa using hdg
    have HF:=ygO (ziG s.data.toList _ 10 HR.out hdf)
    have HDG:=ygO hdf
    clear hdg hdf hn
    go_enter Tryz.func150,Tryz.ntmps150
    go_wp2_with fail
    refine (zbL s 10 _ (by omega)).mono ?_
    rw [HDG.out]
    rintro e w' ⟨rfl,rfl⟩
    go_wp2
    go_ret2
    exact zdE HF.out (ygS _ _)
  ·have h2':2≤s.size:=by omega
   have l0:0<s.size:=by omega
   have l1:1<s.size:=by omega
   obtain ⟨a,ha⟩: ∃a,s[0].toNat=a:=⟨_,rfl⟩
   obtain ⟨c,hc⟩: ∃a,s[1].toNat=a:=⟨_,rfl⟩
   by_cases h48:a=48
   ·subst h48
    by_cases hx:c=120∨c=88
    ·have HR0:=zsW s h2' ha (by rw [hc];exact hx)
     obtain ⟨d,hd⟩: ∃d,s.extract 2 s.size=d:=⟨_,rfl⟩
     have hdz:=zmI s 2 d hd
     rw [zkW s 2 d hd] at HR0
     have HR:=ygO HR0
     clear HR0
     rcases hx with rfl|rfl
     all_goals
      by_cases hdg:zbO 16 d.data.toList=true
      ·have HF:=ygO (zhC s.data.toList _ 16 HR.out (zdN s hn) hdg)
       have HDG:=ygO hdg
       clear hdg hn
       go_enter Tryz.func150,Tryz.ntmps150
       go_wp2_with fail
       go_quiet (fail)
       go_wp2_with fail
       go_quiet (fail)
       go_wp2_with fail
       refine (zbL d 16 _ (by omega)).mono ?_
       rw [HDG.out]
       rintro e w' ⟨rfl,rfl⟩
       go_wp2_with fail
       refine (zfF d 16 _ (by omega) (by omega) HDG.out).mono ?_
       rintro e w' ⟨rfl,rfl⟩
       go_wp2
       go_ret2
       exact zdE HF.out (by first|exact zaU (ygS _ _) _|exact zaU (zaU (ygS _ _) _) _)
      ·have hdf:zbO 16 d.data.toList=false:=by simpa using hdg
       have HF:=ygO (ziG s.data.toList _ 16 HR.out hdf)
       have HDG:=ygO hdf
       clear hdg hdf hn
       go_enter Tryz.func150,Tryz.ntmps150
       go_wp2_with fail
       go_quiet (fail)
       go_wp2_with fail
       go_quiet (fail)
       go_wp2_with fail
       refine (zbL d 16 _ (by omega)).mono ?_
       rw [HDG.out]
       rintro e w' ⟨rfl,rfl⟩
       go_wp2
       go_ret2
       exact zdE HF.out (by first|exact zaU (ygS _ _) _|exact zaU (zaU (ygS _ _) _) _)
    ·have HR0:=ztM s h2' ha (by rw [hc];exact hx)
     obtain ⟨d,hd⟩: ∃d,s.extract 1 s.size=d:=⟨_,rfl⟩
     have hdz:=zmI s 1 d hd
     rw [zkW s 1 d hd] at HR0
     have HR:=ygO HR0
     have b1:((c:Int)==120)=false:=beq_eq_false_iff_ne.2 (by omega)
     have b2:((c:Int)==88)=false:=beq_eq_false_iff_ne.2 (by omega)
     clear hx HR0
     by_cases hdg:zbO 8 d.data.toList=true
     ·have HF:=ygO (zhC s.data.toList _ 8 HR.out (zdN s hn) hdg)
      have HDG:=ygO hdg
      clear hdg hn
      go_enter Tryz.func150,Tryz.ntmps150
      go_wp2_with fail
      go_quiet (fail)
      go_wp2_with fail
      refine (zbL d 8 _ (by omega)).mono ?_
      rw [HDG.out]
      rintro e w' ⟨rfl,rfl⟩
      go_wp2_with fail
      refine (zfF d 8 _ (by omega) (by omega) HDG.out).mono ?_
      rintro e w' ⟨rfl,rfl⟩
      go_wp2
      go_ret2
      exact zdE HF.out (by first|exact zaU (ygS _ _) _|exact zaU (zaU (ygS _ _) _) _)
     ·have hdf:zbO 8 d.data.toList=false:=by simpa using hdg
      have HF:=ygO (ziG s.data.toList _ 8 HR.out hdf)
      have HDG:=ygO hdf
      clear hdg hdf hn
      go_enter Tryz.func150,Tryz.ntmps150
      go_wp2_with fail
      go_quiet (fail)
      go_wp2_with fail
      refine (zbL d 8 _ (by omega)).mono ?_
      rw [HDG.out]
      rintro e w' ⟨rfl,rfl⟩
      go_wp2
      go_ret2
      exact zdE HF.out (by first|exact zaU (ygS _ _) _|exact zaU (zaU (ygS _ _) _) _)
   ·have HR:=ygO (zuC s h2' (by rw [ha];exact h48))
    have b1:((a:Int)==48)=false:=beq_eq_false_iff_ne.2 (by omega)
    by_cases hdg:zbO 10 s.data.toList=true
    ·have HF:=ygO (zhC s.data.toList _ 10 HR.out (zdN s hn) hdg)
     have HDG:=ygO hdg
     clear hdg hn
     go_enter Tryz.func150,Tryz.ntmps150
     go_wp2_with fail
     refine (zbL s 10 _ (by omega)).mono ?_
     rw [HDG.out]
     rintro e w' ⟨rfl,rfl⟩
     go_wp2_with fail
     refine (zfF s 10 _ (by omega) (by omega) HDG.out).mono ?_
     rintro e w' ⟨rfl,rfl⟩
     go_wp2
     go_ret2
     exact zdE HF.out (ygS _ _)
    ·have hdf:zbO 10 s.data.toList=false:=by simpa using hdg
     have HF:=ygO (ziG s.data.toList _ 10 HR.out hdf)
     have HDG:=ygO hdf
     clear hdg hdf hn
     go_enter Tryz.func150,Tryz.ntmps150
     go_wp2_with fail
     refine (zbL s 10 _ (by omega)).mono ?_
     rw [HDG.out]
     rintro e w' ⟨rfl,rfl⟩
     go_wp2
     go_ret2
     exact zdE HF.out (ygS _ _)
def decN (l:List UInt8):Int:=l.foldl (fun n c=>n*10+valZ (c.toNat:Int)) 0
def decZ (l:List UInt8) (m:Int):Int×Bool:=
 if (l.isEmpty||(decide (1<l.length)&&decide ((l.getD 0 0).toNat=48))|| !zbO 10 l)=true then (0,false) else if m<decN l then (0,false) else (decN l,true)
theorem zvQ (s:ByteArray) (k:Nat) (h:k<s.size):decN (s.data.toList.take (k+1))=decN (s.data.toList.take k)*10+valZ (s[k].toNat:Int):=by
 rw [zeA s k h];simp [decN]
theorem zuO (l:List UInt8): ∀a:Int,0≤a→zbO 10 l=true→a≤l.foldl (fun n c=>n*10+valZ (c.toNat:Int)) a:=by
 induction l with
 |nil=>intro a _ _;exact Int.le_refl _
 |cons c l ih=>
  intro a ha hd
  have h1:digC 10 c=true∧zbO 10 l=true:=by simpa [zbO] using hd
  have h2:=of_decide_eq_true h1.1
  have:=ih (a*10+valZ (c.toNat:Int)) (by omega) h1.2
  exact Int.le_trans (by omega) this
theorem znJ (l:List UInt8) (hd:zbO 10 l=true):0≤decN l:=zuO l 0 (Int.le_refl _) hd
theorem z3A (b:Int) (l:List UInt8) (k:Nat):zbO b l=(zbO b (l.take k)&&zbO b (l.drop k)):=by
 unfold zbO
 rw [←List.all_append,List.take_append_drop]
theorem zmD (l:List UInt8) (k:Nat) (hd:zbO 10 l=true):decN (l.take k)≤decN l:=by
 have h:=z3A 10 l k
 rw [hd] at h
 have h2:zbO 10 (l.take k)=true∧zbO 10 (l.drop k)=true:=by simpa using h.symm
 have e:decN l=(l.drop k).foldl (fun n c=>n*10+valZ (c.toNat:Int)) (decN (l.take k)):=by
  unfold decN
  rw [←List.foldl_append,List.take_append_drop]
 rw [e]
 exact zuO _ _ (znJ _ h2.1) h2.2
theorem zkH (l:List UInt8) (m:Int) (h:l=[]∨(1<l.length∧(l.getD 0 0).toNat=48)):decZ l m=(0,false):=by
 unfold decZ
 rw [if_pos]
 rcases h with rfl|⟨h1,h2⟩
 ·rfl
 ·rw [ygR h1,ygR h2];simp
theorem zsH (l:List UInt8) (m:Int) (h:zbO 10 l=false):decZ l m=(0,false):=by
 unfold decZ
 rw [if_pos (by rw [h];simp)]
theorem z0P (l:List UInt8) (m:Int) (k:Nat) (h:m<decN (l.take k)):decZ l m=(0,false):=by
 by_cases hd:zbO 10 l=true
 ·unfold decZ
  split
  ·rfl
  ·rw [if_pos]
   have:=zmD l k hd
   omega
 ·exact zsH l m (by simpa using hd)
theorem zyE (l:List UInt8) (m:Int) (h0:l≠[]) (h1: ¬(1<l.length∧(l.getD 0 0).toNat=48)) (hd:zbO 10 l=true) (hm:decN l≤m):decZ l m=(decN l,true):=by
 unfold decZ
 rw [if_neg,if_neg (by omega)]
 rw [hd]
 cases l with
 |nil=>exact absurd rfl h0
 |cons a r=>
  by_cases e1:1<(a::r).length
  ·rw [ygR e1,ygQ (fun e=>h1 ⟨e1,e⟩)];simp
  ·rw [ygQ e1];simp
theorem zjW (s:ByteArray) (h:0<s.size):(s.data.toList.getD 0 0).toNat=s[0].toNat:=by
 rw [List.getD,zdL s 0 h];rfl
theorem zqG (r:Int):zbD r=decide (0≤valZ r∧valZ r<10):=by
 unfold zbD valZ
 by_cases h:48≤r∧r≤57
 ·rw [if_pos h,ygR h,ygR (by omega)]
 ·rw [if_neg h,ygQ h]
  refine (ygQ ?_).symm
  repeat' split
  all_goals omega
theorem zjJ (c:UInt8):digC 10 c=zbD (c.toNat:Int):=(zqG _).symm
theorem zoI {r:Int} (h:zbD r=true):48≤r∧r≤57:=of_decide_eq_true h
theorem zlD {r:Int} (h1:48≤r) (h2:r≤57):valZ r=r - 48:=if_pos ⟨h1,h2⟩
theorem zhP (r:Int) (h:128≤r):zbD r=false:=ygQ (by omega)
def zvD (w:World) (x:Int×Bool) (e:Ending) (w':World):Prop:=e= .returned (.tuple #[.int .i64 x.1,.bool x.2])∧Below w.heap.size w w'
theorem zdO {w w':World} {x:Int×Bool} {n:Int} {b:Bool} (h:x=(n,b)) (hb:Below w.heap.size w w'):zvD w x (.returned (.tuple #[.int .i64 n,.bool b])) w':=by
 subst h;exact ⟨rfl,hb⟩
theorem zuE (s:ByteArray) (m:Int) (w:World) (hs:s.size≤1073741824) (hm:m≤9223372036854775807) (hm0: -9223372036854775808≤m) (hn:1≤s.size) (hz: ¬(1<s.size∧s[0].toNat=48)):
  Calls Tryz.prog 201 #[.string s,.int .i64 m] w (zvD w (decZ s.data.toList m)):=by
 have HNO:=ygO (zsH s.data.toList m)
 have HBIG:=ygO (z0P s.data.toList m)
 have HYES:=ygO (zyE s.data.toList m (zdN s (by omega)) (by rw [zaH,zjW s (by omega)];exact hz))
 have hse:=zeQ s (by omega)
 have l0:0<s.size:=by omega
 obtain ⟨a,ha⟩: ∃a,s[0].toNat=a:=⟨_,rfl⟩
 rw [ha] at hz
 rcases (show s.size≤1∨(1<s.size∧((a:Int)==48)=false) from by
   by_cases h1:1<s.size
   ·exact .inr ⟨h1,beq_eq_false_iff_ne.2 (fun e=>hz ⟨h1,by omega⟩)⟩
   ·exact .inl (by omega)) with h1|⟨h1,hb1⟩
 all_goals
  clear hz
  go_enter Tryz.func201,Tryz.ntmps201
  go_wp2
  go_loopw [6] (fun n wr=> ∃(k:Nat) (A:Int),n= .int .i64 A∧0≤A∧(A=0∨A≤m)∧k≤s.size∧wr.heap[w.heap.size]? =some (.stringIter s k)∧Below w.heap.size w wr∧w.heap.size+1≤wr.heap.size∧Hid (A=decN (s.data.toList.take k))∧Hid (zbO 10 (s.data.toList.take k)=true)∧Hid (1≤k→A≤m)) (fun _ wr=>s.size - wr.iterPos w.heap.size)
  case atStart=>exact ⟨0,0,rfl,by omega,.inl rfl,Nat.zero_le _,World.iter_heap w s 0,(ygS _ w).alloc (ygP _) _,by simp [World.iter],rfl,rfl,fun h=>absurd h (by omega)⟩
  case round=>
   obtain ⟨k,A,rfl,hA0,hA1,hk,hit,hbw,hsz,HA,HDG,HK⟩:=hrel
   have hA2:A≤9223372036854775807:=by omega
   clear hA1
   by_cases hp:k<s.size
   ·obtain ⟨c,hc⟩: ∃c,(s[k]'hp).toNat=c:=⟨_,rfl⟩
    have hnx: ∀ty,(Instr.next (.pointer (some ⟨w.heap.size,0,none⟩)) true ty).run Tryz.prog wr=_:=fun ty=>Lib.run_next_any_at wr w.heap.size s k ty hit hp
    by_cases hc128:c<128
    ·have hdec:=decode_ascii s k hp (by omega)
     rw [hc] at hdec
     rw [hdec] at hnx
     have hit2:=Lib.iterAt_heap wr w.heap.size s k (k+1) hit
     have hbw2:=Lib.below_iterAt hbw (k:=w.heap.size) (ygP _) s (k+1)
     have hsz2:w.heap.size+1≤(wr.iterAt w.heap.size s (k+1)).heap.size:=by rw [Lib.iterAt_size];exact hsz
     simp only at hnx
     generalize wr.iterAt w.heap.size s (k+1)=wi at*
     have HIT:=ygO hit
     have HC:=ygO hc
     clear hit hc hdec
     cases hdg:zbD (c:Int) with
     |false=>
      have HF:=ygO (HNO.out (zeJ 10 s k hp (by rw [zjJ,HC.out];exact hdg)))
      go_wp2_with (go_at_call 42;refine (zdX _ _).mono ?_;rintro e w' ⟨rfl,rfl⟩)
      go_ret2
      exact zdO HF.out hbw2
     |true=>
      obtain ⟨hc1,hc2⟩:=zoI hdg
      have hv:valZ (c:Int)=(c:Int) - 48:=zlD hc1 hc2
      have HF:=ygO (ziS 10 s k hp HDG.out (by rw [zjJ,HC.out];exact hdg))
      have hsn:=zvQ s k hp
      rw [←HA.out,HC.out,hv] at hsn
      have HSN:=ygO hsn
      clear hsn
      obtain ⟨v,hvv⟩: ∃v:Int,(c:Int) - 48=v:=⟨_,rfl⟩
      have hv0:0≤v:=by omega
      have hv9:v≤9:=by omega
      rw [hvv] at hv
      have HVV:=ygO hvv
      clear hvv
      by_cases hg:m<A*10+v
      ·have HB:=ygO (HBIG.out (k+1) (by rw [HSN.out,HVV.out];exact hg))
       by_cases hg1:m<v
       ·go_wp2_with (first|(go_at_call 42;refine (zdX _ _).mono ?_;rintro e w' ⟨rfl,rfl⟩)|(go_at_call 132;refine (zdH _ _).mono ?_;rintro e w' ⟨rfl,rfl⟩))
        go_ret2
        exact zdO HB.out hbw2
       ·have hg2:(m - v)/10<A:=by omega
        go_wp2_with (first|(go_at_call 42;refine (zdX _ _).mono ?_;rintro e w' ⟨rfl,rfl⟩)|(go_at_call 132;refine (zdH _ _).mono ?_;rintro e w' ⟨rfl,rfl⟩))
        go_ret2
        exact zdO HB.out hbw2
      ·have hg1: ¬m<v:=by omega
       have hg2: ¬(m - v)/10<A:=by omega
       go_wp2_with (first|(go_at_call 42;refine (zdX _ _).mono ?_;rintro e w' ⟨rfl,rfl⟩)|(go_at_call 132;refine (zdH _ _).mono ?_;rintro e w' ⟨rfl,rfl⟩))
       go_roundw
       case rel=>exact ⟨k+1,A*10+v,rfl,by omega,by omega,by omega,hit2,hbw2,hsz2,(by show _=_;rw [HSN.out,HVV.out]),HF,fun _=>by omega⟩
       case measure=>
        simp only [World.iterPos,hit2,HIT.out]
        omega
    ·have hh:=decode_high s k hp (by omega)
     obtain ⟨r,hr⟩: ∃r,(Utf8.decode s k).1=r:=⟨_,rfl⟩
     obtain ⟨wd,hwd⟩: ∃r,(Utf8.decode s k).2=r:=⟨_,rfl⟩
     have hrl:=decode_le s k
     rw [hr,hwd] at hnx
     rw [hr,hwd] at hh
     rw [hr] at hrl
     have hbw2:=Lib.below_iterAt hbw (k:=w.heap.size) (ygP _) s (k+wd)
     generalize wr.iterAt w.heap.size s (k+wd)=wi at*
     have hv:zbD (r:Int)=false:=zhP _ (by omega)
     have HF:=ygO (HNO.out (zeJ 10 s k hp (by rw [zjJ];exact zhP _ (by omega))))
     clear hc hr hwd
     go_wp2_with (go_at_call 42;refine (zdX _ _).mono ?_;rintro e w' ⟨rfl,rfl⟩)
     go_ret2
     exact zdO HF.out hbw2
   ·have hnx: ∀ty,(Instr.next (.pointer (some ⟨w.heap.size,0,none⟩)) true ty).run Tryz.prog wr=_:=fun ty=>Lib.run_next_end_at wr w.heap.size s k ty hit hp
    have hdt:=HDG.out
    rw [zdF s k hp] at hdt
    have hat:=HA.out
    rw [zdF s k hp] at hat
    have HF:=ygO (HYES.out hdt (by rw [←hat];exact HK.out (by omega)))
    have HAT:=ygO hat
    clear hdt hat
    go_wp2
    go_ret2
    exact zdO (by rw [HF.out,HAT.out]) hbw
theorem znQ (s:ByteArray) (m:Int) (w:World) (hs:s.size≤1073741824) (hm:m≤9223372036854775807) (hm0: -9223372036854775808≤m):
  Calls Tryz.prog 201 #[.string s,.int .i64 m] w (zvD w (decZ s.data.toList m)):=by
 by_cases hn:s.size=0
 ·obtain rfl:=zdI s hn
  have HF:=ygO (zkH (ByteArray.mk #[]).data.toList m (.inl rfl))
  clear hn hs
  go_enter Tryz.func201,Tryz.ntmps201
  go_wp2
  go_ret2
  exact zdO HF.out (ygS _ _)
 ·by_cases hz:1<s.size∧s[0].toNat=48
  ·obtain ⟨h1,h0⟩:=hz
   have HF:=ygO (zkH s.data.toList m (.inr ⟨by rw [zaH];exact h1,by rw [zjW s (by omega)];exact h0⟩))
   have hse:=zeQ s hn
   have l0:0<s.size:=by omega
   go_enter Tryz.func201,Tryz.ntmps201
   go_wp2
   go_ret2
   exact zdO HF.out (ygS _ _)
  ·exact zuE s m w hs hm hm0 (by omega) hz
theorem znU (s:ByteArray) (m:Int) (w:World) (hs:s.size≤1073741824) (hm:m≤9223372036854775807) (hm0: -9223372036854775808≤m) (hn:1≤s.size) (hz: ¬(1<s.size∧s[0].toNat=48)) (hd:zbO 10 s.data.toList=true):
  Calls Tryz.prog 200 #[.string s,.int .i64 m] w (zvD w (decZ s.data.toList m)):=by
 have HBIG:=ygO (z0P s.data.toList m)
 have HYES:=ygO (zyE s.data.toList m (zdN s (by omega)) (by rw [zaH,zjW s (by omega)];exact hz) hd)
 have HD:=ygO hd
 have l0:0<s.size:=by omega
 have hnb:((s.size:Int)==0)=false:=beq_eq_false_iff_ne.2 (by omega)
 obtain ⟨a,ha⟩: ∃a,s[0].toNat=a:=⟨_,rfl⟩
 rw [ha] at hz
 rcases (show s.size≤1∨(1<s.size∧((a:Int)==48)=false) from by
   by_cases h1:1<s.size
   ·exact .inr ⟨h1,beq_eq_false_iff_ne.2 (fun e=>hz ⟨h1,by omega⟩)⟩
   ·exact .inl (by omega)) with h1|⟨h1,hb1⟩
 all_goals
  clear hz hd
  go_enter Tryz.func200,Tryz.ntmps200
  go_wp2_with fail
  refine (zbL s 10 _ hs).mono ?_
  rw [HD.out]
  rintro e w' ⟨rfl,rfl⟩
  go_wp2
  go_loop [6,7] (fun n i=> ∃(k:Nat) (A:Int),k≤s.size∧i= .int .i64 k∧n= .int .i64 A∧0≤A∧A≤9223372036854775807∧Hid (A=decN (s.data.toList.take k))) (fun _ i=>s.size - (intOf i).toNat)
  case atStart=>exact ⟨0,0,Nat.zero_le _,rfl,rfl,by omega,by omega,rfl⟩
  case round=>
   obtain ⟨k,A,hk,rfl,rfl,hA0,hA1,HA⟩:=hrel
   by_cases hp:k<s.size
   ·obtain ⟨c,hc⟩: ∃c,(s[k]'hp).toNat=c:=⟨_,rfl⟩
    have hdk:=z3I 10 s k hp HD.out
    have hdg:zbD (c:Int)=true:=by rw [zqG,←hc];exact ygR hdk
    obtain ⟨hc1,hc2⟩:=zoI hdg
    have hv:valZ (c:Int)=(c:Int) - 48:=zlD hc1 hc2
    have hsn:=zvQ s k hp
    rw [←HA.out,hc,hv] at hsn
    have HSN:=ygO hsn
    clear hsn hdk hdg hv
    by_cases hg:(9223372036854775807 - ((c:Int) - 48))/10<A
    ·have HB:=ygO (HBIG.out (k+1) (by rw [HSN.out];omega))
     go_wp2
     go_ret2
     exact zdO HB.out (ygS _ _)
    ·go_wp2
     go_round
     case rel=>exact ⟨k+1,10*A+((c:Int) - 48),by omega,by go_num,rfl,by omega,by omega,(by show _=_;rw [HSN.out];omega)⟩
     case measure=>simp [intOf];omega
   ·have hat:=HA.out
    rw [zdF s k hp] at hat
    by_cases hg:m<A
    ·have HB:=ygO (HBIG.out k (by rw [←HA.out];exact hg))
     go_wp2
     go_ret2
     exact zdO HB.out (ygS _ _)
    ·have HF:=ygO (HYES.out (by rw [←hat];omega))
     have HAT:=ygO hat
     clear hat
     go_wp2
     go_ret2
     exact zdO (by rw [HF.out,HAT.out]) (ygS _ _)
theorem zjF (s:ByteArray) (m:Int) (w:World) (hs:s.size≤1073741824) (hm:m≤9223372036854775807) (hm0: -9223372036854775808≤m):
  Calls Tryz.prog 200 #[.string s,.int .i64 m] w (zvD w (decZ s.data.toList m)):=by
 by_cases hn:s.size=0
 ·obtain rfl:=zdI s hn
  have HF:=ygO (zkH (ByteArray.mk #[]).data.toList m (.inl rfl))
  clear hn hs
  go_enter Tryz.func200,Tryz.ntmps200
  go_wp2
  go_ret2
  exact zdO HF.out (ygS _ _)
 ·have hnb:((s.size:Int)==0)=false:=beq_eq_false_iff_ne.2 (by omega)
  cases hd:zbO 10 s.data.toList with
  |false=>
   have HF:=ygO (zsH s.data.toList m hd)
   have HD:=ygO hd
   clear hd
   go_enter Tryz.func200,Tryz.ntmps200
   go_wp2_with fail
   refine (zbL s 10 _ hs).mono ?_
   rw [HD.out]
   rintro e w' ⟨rfl,rfl⟩
   go_wp2
   go_ret2
   exact zdO HF.out (ygS _ _)
  |true=>
   by_cases hz:1<s.size∧s[0].toNat=48
   ·obtain ⟨h1,h0⟩:=hz
    have HF:=ygO (zkH s.data.toList m (.inr ⟨by rw [zaH];exact h1,by rw [zjW s (by omega)];exact h0⟩))
    have l0:0<s.size:=by omega
    have HD:=ygO hd
    clear hd
    go_enter Tryz.func200,Tryz.ntmps200
    go_wp2_with fail
    refine (zbL s 10 _ hs).mono ?_
    rw [HD.out]
    rintro e w' ⟨rfl,rfl⟩
    go_wp2
    go_ret2
    exact zdO HF.out (ygS _ _)
   ·exact znU s m w hs hm hm0 (by omega) hz hd
def zeC (l:List UInt8):Bool:= !l.isEmpty&&zbO 10 l
theorem z8V {l:List UInt8} (h:zbO 10 l=false):zeC l=false:=by unfold zeC;rw [h];simp
theorem z2R {s:ByteArray} (hn:s.size≠0) (h:zbO 10 s.data.toList=true):zeC s.data.toList=true:=by
 unfold zeC;rw [h]
 cases hd:s.data.toList with
 |nil=>exact absurd hd (zdN s hn)
 |cons a l=>rfl
def zeF (w:World) (b:Bool) (e:Ending) (w':World):Prop:=e= .returned (.bool b)∧Below w.heap.size w w'
theorem zaS {w w':World} {x b:Bool} (h:x=b) (hb:Below w.heap.size w w'):zeF w x (.returned (.bool b)) w':=by
 subst h;exact ⟨rfl,hb⟩
theorem zhI (s:ByteArray) (w:World) (hs:s.size≤1073741824):
  Calls Tryz.prog 116 #[.string s] w (zeF w (zeC s.data.toList)):=by
 by_cases hn:s.size=0
 ·obtain rfl:=zdI s hn
  have HF:Hid (zeC (ByteArray.mk #[]).data.toList=false):=rfl
  clear hn hs
  go_enter Tryz.func116,Tryz.ntmps116
  go_wp2
  go_loopw [] (fun wr=>wr.heap[w.heap.size]? =some (.stringIter ⟨#[]⟩ 0)∧Below w.heap.size w wr) (fun _=>0)
  case atStart=>exact ⟨World.iter_heap w ⟨#[]⟩ 0,(ygS _ w).alloc (ygP _) _⟩
  case round=>
   obtain ⟨hit,hbw⟩:=hrel
   have hnx: ∀ty,(Instr.next (.pointer (some ⟨w.heap.size,0,none⟩)) true ty).run Tryz.prog wr=_:=fun ty=>Lib.run_next_end_at wr w.heap.size ⟨#[]⟩ 0 ty hit (by decide)
   go_wp2
   go_ret
   exact zaS HF.out hbw
 ·have HNO:=ygO (z8V (l:=s.data.toList))
  have HYES:=ygO (z2R hn)
  have hse:=zeQ s hn
  clear hn
  go_enter Tryz.func116,Tryz.ntmps116
  go_wp2
  go_loopw [] (fun wr=> ∃(k:Nat),k≤s.size∧wr.heap[w.heap.size]? =some (.stringIter s k)∧Below w.heap.size w wr∧w.heap.size+1≤wr.heap.size∧Hid (zbO 10 (s.data.toList.take k)=true)) (fun wr=>s.size - wr.iterPos w.heap.size)
  case atStart=>exact ⟨0,Nat.zero_le _,World.iter_heap w s 0,(ygS _ w).alloc (ygP _) _,by simp [World.iter],rfl⟩
  case round=>
   obtain ⟨k,hk,hit,hbw,hsz,HDG⟩:=hrel
   by_cases hp:k<s.size
   ·obtain ⟨c,hc⟩: ∃c,(s[k]'hp).toNat=c:=⟨_,rfl⟩
    have hnx: ∀ty,(Instr.next (.pointer (some ⟨w.heap.size,0,none⟩)) true ty).run Tryz.prog wr=_:=fun ty=>Lib.run_next_any_at wr w.heap.size s k ty hit hp
    by_cases hc128:c<128
    ·have hdec:=decode_ascii s k hp (by omega)
     rw [hc] at hdec
     rw [hdec] at hnx
     have hit2:=Lib.iterAt_heap wr w.heap.size s k (k+1) hit
     have hbw2:=Lib.below_iterAt hbw (k:=w.heap.size) (ygP _) s (k+1)
     have hsz2:w.heap.size+1≤(wr.iterAt w.heap.size s (k+1)).heap.size:=by rw [Lib.iterAt_size];exact hsz
     simp only at hnx
     generalize wr.iterAt w.heap.size s (k+1)=wi at*
     have HIT:=ygO hit
     have HC:=ygO hc
     clear hit hc hdec
     cases hdg:zbD (c:Int) with
     |false=>
      have HF:=ygO (HNO.out (zeJ 10 s k hp (by rw [zjJ,HC.out];exact hdg)))
      go_wp2_with (go_at_call 42;refine (zdX _ _).mono ?_;rintro e w' ⟨rfl,rfl⟩)
      go_ret
      exact zaS HF.out hbw2
     |true=>
      have HF:=ygO (ziS 10 s k hp HDG.out (by rw [zjJ,HC.out];exact hdg))
      go_wp2_with (go_at_call 42;refine (zdX _ _).mono ?_;rintro e w' ⟨rfl,rfl⟩)
      go_roundw
      case rel=>exact ⟨k+1,by omega,hit2,hbw2,hsz2,HF⟩
      case measure=>
       simp only [World.iterPos,hit2,HIT.out]
       omega
    ·have hh:=decode_high s k hp (by omega)
     obtain ⟨r,hr⟩: ∃r,(Utf8.decode s k).1=r:=⟨_,rfl⟩
     obtain ⟨wd,hwd⟩: ∃r,(Utf8.decode s k).2=r:=⟨_,rfl⟩
     have hrl:=decode_le s k
     rw [hr,hwd] at hnx
     rw [hr,hwd] at hh
     rw [hr] at hrl
     have hbw2:=Lib.below_iterAt hbw (k:=w.heap.size) (ygP _) s (k+wd)
     generalize wr.iterAt w.heap.size s (k+wd)=wi at*
     have hv:zbD (r:Int)=false:=zhP _ (by omega)
     have HF:=ygO (HNO.out (zeJ 10 s k hp (by rw [zjJ];exact zhP _ (by omega))))
     clear hc hr hwd
     go_wp2_with (go_at_call 42;refine (zdX _ _).mono ?_;rintro e w' ⟨rfl,rfl⟩)
     go_ret
     exact zaS HF.out hbw2
   ·have hnx: ∀ty,(Instr.next (.pointer (some ⟨w.heap.size,0,none⟩)) true ty).run Tryz.prog wr=_:=fun ty=>Lib.run_next_end_at wr w.heap.size s k ty hit hp
    have hdt:=HDG.out
    rw [zdF s k hp] at hdt
    have HF:=ygO (HYES.out hdt)
    clear hdt
    go_wp2
    go_ret
    exact zaS HF.out hbw
def zkK (ps:List (List UInt8)):List UInt8:=
 if 1<ps.length∧ps.getD (ps.length - 1) []=[] then ps.getD (ps.length - 2) [] else ps.getD (ps.length - 1) []
def zaI (l:List UInt8):List (List UInt8):=zcL (hasB [46]) l
def zjQ (x:List UInt8):Bool:=zeC x||(zcR x).2
def zfG (l:List UInt8):Bool:=zjQ (zkK (zaI l))
theorem ycM (p:UInt8→Bool) (l:List UInt8): ∀st:List (List UInt8)×List UInt8,(∀x∈(l.foldl (zbY p) st).1,x∈st.1∨x.length≤st.2.length+l.length)∧(l.foldl (zbY p) st).2.length≤st.2.length+l.length:=by
 induction l with
 |nil=>intro st;exact ⟨fun x hx=> .inl hx,by simp⟩
 |cons c l ih=>
  intro st
  simp only [List.foldl_cons,List.length_cons]
  have h:=ih (zbY p st c)
  by_cases hp:p c=true
  ·have e:zbY p st c=(st.1++[st.2],[]):=by simp [zbY,hp]
   rw [e] at h ⊢
   refine ⟨fun x hx=> ?_,by have:=h.2;simp at this;omega⟩
   rcases h.1 x hx with h1|h1
   ·simp at h1
    rcases h1 with h1|h1
    ·exact .inl h1
    ·subst h1;exact .inr (by omega)
   ·simp at h1;exact .inr (by omega)
  ·have e:zbY p st c=(st.1,st.2++[c]):=by simp [zbY,hp]
   rw [e] at h ⊢
   refine ⟨fun x hx=> ?_,by have:=h.2;simp at this;omega⟩
   rcases h.1 x hx with h1|h1
   ·exact .inl h1
   ·simp at h1;exact .inr (by omega)
theorem yaJ (p:UInt8→Bool) (l x:List UInt8) (h:x∈zcL p l):x.length≤l.length:=by
 have k:=ycM p l ([],[])
 unfold zcL at h
 rcases List.mem_append.1 h with h|h
 ·rcases k.1 x h with h|h
  ·simp at h
  ·simpa using h
 ·simp at h
  subst h
  exact Nat.le_trans k.2 (by simp)
theorem zeK (p:UInt8→Bool) (l:List UInt8) (j:Nat):((zcL p l).getD j []).length≤l.length:=by
 by_cases h:j<(zcL p l).length
 ·refine yaJ p l _ ?_
  rw [List.getD,List.getElem?_eq_getElem h]
  exact List.getElem_mem h
 ·rw [List.getD,List.getElem?_eq_none (by omega)]
  simp
theorem zjX (n:Nat) (x:List UInt8) (ps:List (List UInt8)) (h:ps.length=n+1) (hx:ps.getD n []=x) (hc:n=0∨x≠[]):zkK ps=x:=by
 unfold zkK
 rw [h,Nat.add_sub_cancel,hx,if_neg]
 rintro ⟨h1,h2⟩
 rcases hc with h3|h3
 ·omega
 ·exact h3 h2
theorem zoS (n:Nat) (y:List UInt8) (ps:List (List UInt8)) (h:ps.length=n+2) (hx:ps.getD (n+1) []=[]) (hy:ps.getD n []=y):zkK ps=y:=by
 unfold zkK
 rw [h,show n+2 - 1=n+1 from rfl,hx,if_pos ⟨by omega,rfl⟩,show n+2 - 2=n from rfl,hy]
theorem zcQ {x:List UInt8} (h:x≠[]):x.isEmpty=false:=by cases x with|nil=>exact absurd rfl h|cons a l=>rfl
theorem zjI {x:List UInt8} (h:zeC x=true):zjQ x=true:=by unfold zjQ;rw [h];rfl
theorem zjO {x:List UInt8} {b:Bool} (h:zeC x=false) (hb:(zcR x).2=b):zjQ x=b:=by unfold zjQ;rw [h,hb];rfl
theorem yaR (s:ByteArray) (w:World) (hs:s.size≤1073741824) (x:List UInt8) (hl:(zaI s.data.toList).length=1) (hx:(zaI s.data.toList).getD 0 []=x):
  Calls Tryz.prog 69 #[.string s] w (zeF w (zfG s.data.toList)):=by
 have hxl:x.length≤s.size:=by rw [←hx,←zaH];exact zeK _ _ _
 have HE0:=ygO (show zfG s.data.toList=zjQ x from by unfold zfG;rw [zjX 0 x _ hl hx (.inl rfl)])
 have HL:=ygO hl
 have HX:=ygO hx
 clear hl hx
 go_enter Tryz.func69,Tryz.ntmps69
 go_wp2_with fail
 refine (zfA s _ _ hs).mono ?_
 rintro e w1 ⟨v,rfl,hp,hb1⟩
 have hp':zaM w.heap.size w1 v (zaI s.data.toList):=hp
 obtain ⟨g,cap,rfl,hg,hcell⟩:=hp'.form (by rw [HL.out];omega)
 rw [HL.out]
 rw [HL.out] at hcell
 have hcx:=hcell 0 (by omega)
 rw [HX.out] at hcx
 clear hcell hp hp'
 by_cases haz:zeC x=true
 -- digits alone
 ·have HE:=ygO (HE0.out.trans (zjI haz))
  have HAZ:=ygO haz
  clear haz
  go_wp2_with fail
  refine (zhI ⟨x.toArray⟩ _ (by rw [zaA];omega)).mono ?_
  rw [zaB,HAZ.out]
  rintro e w2 ⟨rfl,hb2⟩
  have hc2:Below w.heap.size w w2:=hb1.trans (hb2.mono hb1.size)
  clear hb1 hb2
  go_wp2
  go_ret
  exact zaS HE.out hc2
 ·have haf:zeC x=false:=by simpa using haz
  have HE:=ygO (HE0.out.trans (zjO haf rfl))
  have HAZ:=ygO haf
  clear haz haf
  go_wp2_with fail
  refine (zhI ⟨x.toArray⟩ _ (by rw [zaA];omega)).mono ?_
  rw [zaB,HAZ.out]
  rintro e w2 ⟨rfl,hb2⟩
  have hc2:Below w.heap.size w w2:=hb1.trans (hb2.mono hb1.size)
  have hcx2:=(hb2.cell (p:=⟨g,0,none⟩) hg).trans hcx
  clear hb1 hb2 hcx
  go_wp2_with fail
  refine (zkN ⟨x.toArray⟩ _ (by rw [zaA];omega)).mono ?_
  rw [zaB]
  rintro e w3 ⟨rfl,hb3⟩
  have hc3:Below w.heap.size w w3:=hc2.trans (hb3.mono hc2.size)
  clear hc2 hb3 hcx2
  go_wp2
  go_ret
  exact zaS HE.out hc3
theorem z2N (s:ByteArray) (w:World) (hs:s.size≤1073741824) (n:Nat) (x:List UInt8) (hl:(zaI s.data.toList).length=n+2) (hx:(zaI s.data.toList).getD (n+1) []=x) (hne:x≠[]):
  Calls Tryz.prog 69 #[.string s] w (zeF w (zfG s.data.toList)):=by
 have hxl:x.length≤s.size:=by rw [←hx,←zaH];exact zeK _ _ _
 have HE0:=ygO (show zfG s.data.toList=zjQ x from by unfold zfG;rw [zjX (n+1) x _ hl hx (.inr hne)])
 have hxe:x.isEmpty=false:=zcQ hne
 have HL:=ygO hl
 have HX:=ygO hx
 clear hl hx hne
 have hnb:n≤1073741824:=by
  have h1:=zcN (hasB [46]) s.data.toList
  rw [zaH] at h1
  have h2:=HL.out
  unfold zaI at h2
  omega
 go_enter Tryz.func69,Tryz.ntmps69
 go_wp2_with fail
 refine (zfA s _ _ hs).mono ?_
 rintro e w1 ⟨v,rfl,hp,hb1⟩
 have hp':zaM w.heap.size w1 v (zaI s.data.toList):=hp
 obtain ⟨g,cap,rfl,hg,hcell⟩:=hp'.form (by rw [HL.out];omega)
 rw [HL.out]
 rw [HL.out] at hcell
 have hcx:=hcell (n+1) (by omega)
 rw [HX.out] at hcx
 clear hcell hp hp'
 by_cases haz:zeC x=true
 -- digits alone
 ·have HE:=ygO (HE0.out.trans (zjI haz))
  have HAZ:=ygO haz
  clear haz
  go_wp2_with fail
  refine (zhI ⟨x.toArray⟩ _ (by rw [zaA];omega)).mono ?_
  rw [zaB,HAZ.out]
  rintro e w2 ⟨rfl,hb2⟩
  have hc2:Below w.heap.size w w2:=hb1.trans (hb2.mono hb1.size)
  clear hb1 hb2
  go_wp2
  go_ret
  exact zaS HE.out hc2
 ·have haf:zeC x=false:=by simpa using haz
  have HE:=ygO (HE0.out.trans (zjO haf rfl))
  have HAZ:=ygO haf
  clear haz haf
  go_wp2_with fail
  refine (zhI ⟨x.toArray⟩ _ (by rw [zaA];omega)).mono ?_
  rw [zaB,HAZ.out]
  rintro e w2 ⟨rfl,hb2⟩
  have hc2:Below w.heap.size w w2:=hb1.trans (hb2.mono hb1.size)
  have hcx2:=(hb2.cell (p:=⟨g,(n+1),none⟩) hg).trans hcx
  clear hb1 hb2 hcx
  go_wp2_with fail
  refine (zkN ⟨x.toArray⟩ _ (by rw [zaA];omega)).mono ?_
  rw [zaB]
  rintro e w3 ⟨rfl,hb3⟩
  have hc3:Below w.heap.size w w3:=hc2.trans (hb3.mono hc2.size)
  clear hc2 hb3 hcx2
  go_wp2
  go_ret
  exact zaS HE.out hc3
theorem ztA (s:ByteArray) (w:World) (hs:s.size≤1073741824) (n:Nat) (x:List UInt8) (hl:(zaI s.data.toList).length=n+2) (hx:(zaI s.data.toList).getD n []=x) (hy:(zaI s.data.toList).getD (n+1) []=[]):
  Calls Tryz.prog 69 #[.string s] w (zeF w (zfG s.data.toList)):=by
 have hxl:x.length≤s.size:=by rw [←hx,←zaH];exact zeK _ _ _
 have HE0:=ygO (show zfG s.data.toList=zjQ x from by unfold zfG;rw [zoS n x _ hl hy hx])
 have HL:=ygO hl
 have HX:=ygO hx
 have HY:=ygO hy
 clear hl hx hy
 have hnb:n≤1073741824:=by
  have h1:=zcN (hasB [46]) s.data.toList
  rw [zaH] at h1
  have h2:=HL.out
  unfold zaI at h2
  omega
 go_enter Tryz.func69,Tryz.ntmps69
 go_wp2_with fail
 refine (zfA s _ _ hs).mono ?_
 rintro e w1 ⟨v,rfl,hp,hb1⟩
 have hp':zaM w.heap.size w1 v (zaI s.data.toList):=hp
 obtain ⟨g,cap,rfl,hg,hcell⟩:=hp'.form (by rw [HL.out];omega)
 rw [HL.out]
 rw [HL.out] at hcell
 have hcx:=hcell n (by omega)
 rw [HX.out] at hcx
 have hcy:=hcell (n+1) (by omega)
 rw [HY.out] at hcy
 clear hcell hp hp'
 by_cases haz:zeC x=true
 -- digits alone
 ·have HE:=ygO (HE0.out.trans (zjI haz))
  have HAZ:=ygO haz
  clear haz
  go_wp2_with fail
  refine (zhI ⟨x.toArray⟩ _ (by rw [zaA];omega)).mono ?_
  rw [zaB,HAZ.out]
  rintro e w2 ⟨rfl,hb2⟩
  have hc2:Below w.heap.size w w2:=hb1.trans (hb2.mono hb1.size)
  clear hb1 hb2
  go_wp2
  go_ret
  exact zaS HE.out hc2
 ·have haf:zeC x=false:=by simpa using haz
  have HE:=ygO (HE0.out.trans (zjO haf rfl))
  have HAZ:=ygO haf
  clear haz haf
  go_wp2_with fail
  refine (zhI ⟨x.toArray⟩ _ (by rw [zaA];omega)).mono ?_
  rw [zaB,HAZ.out]
  rintro e w2 ⟨rfl,hb2⟩
  have hc2:Below w.heap.size w w2:=hb1.trans (hb2.mono hb1.size)
  have hcx2:=(hb2.cell (p:=⟨g,n,none⟩) hg).trans hcx
  clear hb1 hb2 hcx
  go_wp2_with fail
  refine (zkN ⟨x.toArray⟩ _ (by rw [zaA];omega)).mono ?_
  rw [zaB]
  rintro e w3 ⟨rfl,hb3⟩
  have hc3:Below w.heap.size w w3:=hc2.trans (hb3.mono hc2.size)
  clear hc2 hb3 hcx2
  go_wp2
  go_ret
  exact zaS HE.out hc3
theorem ycE (s:ByteArray) (w:World) (hs:s.size≤1073741824):
  Calls Tryz.prog 69 #[.string s] w (zeF w (zfG s.data.toList)):=by
 have h0:0<(zaI s.data.toList).length:=zfU _ _
 by_cases h1:(zaI s.data.toList).length=1
 ·exact yaR s w hs _ h1 rfl
 ·obtain ⟨n,hn⟩: ∃n,(zaI s.data.toList).length=n+2:=⟨(zaI s.data.toList).length - 2,by omega⟩
  by_cases he:(zaI s.data.toList).getD (n+1) []=[]
  ·exact ztA s w hs n _ hn rfl he
  ·exact z2N s w hs n _ hn rfl he
theorem zoU {x:List UInt8} {p:Int} (h:zcR x=(p,true)):zjQ x=true:=by unfold zjQ;rw [h];simp
theorem zoE {x:List UInt8} {p:Int} (h:zcR x=(p,false)):zjQ x=zeC x:=by unfold zjQ;rw [h];simp
theorem zxI (s:ByteArray) (w:World) (hs:s.size≤1073741824) (x:List UInt8) (hl:(zaI s.data.toList).length=1) (hx:(zaI s.data.toList).getD 0 []=x):
  Calls Tryz.prog 102 #[.string s] w (zeF w (zfG s.data.toList)):=by
 have hxl:x.length≤s.size:=by rw [←hx,←zaH];exact zeK _ _ _
 have HE0:=ygO (show zfG s.data.toList=zjQ x from by unfold zfG;rw [zjX 0 x _ hl hx (.inl rfl)])
 have HL:=ygO hl
 have HX:=ygO hx
 clear hl hx
 go_enter Tryz.func102,Tryz.ntmps102
 go_wp2_with fail
 refine (zdD s _ _ hs (by decide)).mono ?_
 rintro e w1 ⟨v,rfl,hp,hb1⟩
 have hp':zaM w.heap.size w1 v (zaI s.data.toList):=hp
 obtain ⟨g,cap,rfl,hg,hcell⟩:=hp'.form (by rw [HL.out];omega)
 rw [HL.out]
 rw [HL.out] at hcell
 have hcx:=hcell 0 (by omega)
 rw [HX.out] at hcx
 clear hcell hp hp'
 by_cases hxn:x=[]
 ·subst hxn
  have HPZ:Hid (zcR []=(0,false)):=rfl
  go_wp2_with fail
  refine (zdP ⟨#[]⟩ _ (by decide)).mono ?_
  rw [show zcR (ByteArray.mk #[]).data.toList=(0,false) from rfl]
  rintro e w2 ⟨rfl,hb2⟩
  have hc2:Below w.heap.size w w2:=hb1.trans (hb2.mono hb1.size)
  clear hb1 hb2
  go_wp2
  go_ret
  exact zaS (HE0.out.trans rfl) hc2
 ·have hxe:x.isEmpty=false:=zcQ hxn
  obtain ⟨pz,b,hpz⟩: ∃p b,zcR x=(p,b):=⟨_,_,rfl⟩
  have HPZ:=ygO hpz
  clear hpz
  cases b with
  |true=>
   have HE:=ygO (HE0.out.trans (zoU HPZ.out))
   go_wp2_with fail
   refine (zdP ⟨x.toArray⟩ _ (by rw [zaA];omega)).mono ?_
   rw [zaB,HPZ.out]
   rintro e w2 ⟨rfl,hb2⟩
   have hc2:Below w.heap.size w w2:=hb1.trans (hb2.mono hb1.size)
   clear hb1 hb2
   go_wp2
   go_ret
   exact zaS HE.out hc2
  |false=>
   have HE:=ygO (HE0.out.trans (zoE HPZ.out))
   go_wp2_with fail
   refine (zdP ⟨x.toArray⟩ _ (by rw [zaA];omega)).mono ?_
   rw [zaB,HPZ.out]
   rintro e w2 ⟨rfl,hb2⟩
   have hc2:Below w.heap.size w w2:=hb1.trans (hb2.mono hb1.size)
   clear hb1 hb2
   ·skip
    have HA:=ygO (show zeC x=zbO 10 x from by unfold zeC;rw [hxe];rfl)
    go_wp2_with fail
    refine (zbL ⟨x.toArray⟩ 10 _ (by rw [zaA];omega)).mono ?_
    rw [zaB]
    rintro e w' ⟨rfl,rfl⟩
    go_wp2
    go_ret
    exact zaS (HE.out.trans HA.out) hc2
theorem zrC (s:ByteArray) (w:World) (hs:s.size≤1073741824) (n:Nat) (x:List UInt8) (hl:(zaI s.data.toList).length=n+2) (hx:(zaI s.data.toList).getD (n+1) []=x) (hne:x≠[]):
  Calls Tryz.prog 102 #[.string s] w (zeF w (zfG s.data.toList)):=by
 have hxl:x.length≤s.size:=by rw [←hx,←zaH];exact zeK _ _ _
 have HE0:=ygO (show zfG s.data.toList=zjQ x from by unfold zfG;rw [zjX (n+1) x _ hl hx (.inr hne)])
 have hxe:x.isEmpty=false:=zcQ hne
 have HL:=ygO hl
 have HX:=ygO hx
 clear hl hx hne
 have hnb:n≤1073741824:=by
  have h1:=zcN (hasB [46]) s.data.toList
  rw [zaH] at h1
  have h2:=HL.out
  unfold zaI at h2
  omega
 go_enter Tryz.func102,Tryz.ntmps102
 go_wp2_with fail
 refine (zdD s _ _ hs (by decide)).mono ?_
 rintro e w1 ⟨v,rfl,hp,hb1⟩
 have hp':zaM w.heap.size w1 v (zaI s.data.toList):=hp
 obtain ⟨g,cap,rfl,hg,hcell⟩:=hp'.form (by rw [HL.out];omega)
 rw [HL.out]
 rw [HL.out] at hcell
 have hcx:=hcell (n+1) (by omega)
 rw [HX.out] at hcx
 clear hcell hp hp'
 obtain ⟨pz,b,hpz⟩: ∃p b,zcR x=(p,b):=⟨_,_,rfl⟩
 have HPZ:=ygO hpz
 clear hpz
 cases b with
 |true=>
  have HE:=ygO (HE0.out.trans (zoU HPZ.out))
  go_wp2_with fail
  refine (zdP ⟨x.toArray⟩ _ (by rw [zaA];omega)).mono ?_
  rw [zaB,HPZ.out]
  rintro e w2 ⟨rfl,hb2⟩
  have hc2:Below w.heap.size w w2:=hb1.trans (hb2.mono hb1.size)
  clear hb1 hb2
  go_wp2
  go_ret
  exact zaS HE.out hc2
 |false=>
  have HE:=ygO (HE0.out.trans (zoE HPZ.out))
  go_wp2_with fail
  refine (zdP ⟨x.toArray⟩ _ (by rw [zaA];omega)).mono ?_
  rw [zaB,HPZ.out]
  rintro e w2 ⟨rfl,hb2⟩
  have hc2:Below w.heap.size w w2:=hb1.trans (hb2.mono hb1.size)
  clear hb1 hb2
  ·skip
   have HA:=ygO (show zeC x=zbO 10 x from by unfold zeC;rw [hxe];rfl)
   go_wp2_with fail
   refine (zbL ⟨x.toArray⟩ 10 _ (by rw [zaA];omega)).mono ?_
   rw [zaB]
   rintro e w' ⟨rfl,rfl⟩
   go_wp2
   go_ret
   exact zaS (HE.out.trans HA.out) hc2
theorem zoK (s:ByteArray) (w:World) (hs:s.size≤1073741824) (n:Nat) (x:List UInt8) (hl:(zaI s.data.toList).length=n+2) (hx:(zaI s.data.toList).getD n []=x) (hy:(zaI s.data.toList).getD (n+1) []=[]):
  Calls Tryz.prog 102 #[.string s] w (zeF w (zfG s.data.toList)):=by
 have hxl:x.length≤s.size:=by rw [←hx,←zaH];exact zeK _ _ _
 have HE0:=ygO (show zfG s.data.toList=zjQ x from by unfold zfG;rw [zoS n x _ hl hy hx])
 have HL:=ygO hl
 have HX:=ygO hx
 have HY:=ygO hy
 clear hl hx hy
 have hnb:n≤1073741824:=by
  have h1:=zcN (hasB [46]) s.data.toList
  rw [zaH] at h1
  have h2:=HL.out
  unfold zaI at h2
  omega
 go_enter Tryz.func102,Tryz.ntmps102
 go_wp2_with fail
 refine (zdD s _ _ hs (by decide)).mono ?_
 rintro e w1 ⟨v,rfl,hp,hb1⟩
 have hp':zaM w.heap.size w1 v (zaI s.data.toList):=hp
 obtain ⟨g,cap,rfl,hg,hcell⟩:=hp'.form (by rw [HL.out];omega)
 rw [HL.out]
 rw [HL.out] at hcell
 have hcx:=hcell n (by omega)
 rw [HX.out] at hcx
 have hcy:=hcell (n+1) (by omega)
 rw [HY.out] at hcy
 clear hcell hp hp'
 obtain ⟨pz,b,hpz⟩: ∃p b,zcR x=(p,b):=⟨_,_,rfl⟩
 have HPZ:=ygO hpz
 clear hpz
 cases b with
 |true=>
  have HE:=ygO (HE0.out.trans (zoU HPZ.out))
  go_wp2_with fail
  refine (zdP ⟨x.toArray⟩ _ (by rw [zaA];omega)).mono ?_
  rw [zaB,HPZ.out]
  rintro e w2 ⟨rfl,hb2⟩
  have hc2:Below w.heap.size w w2:=hb1.trans (hb2.mono hb1.size)
  clear hb1 hb2
  go_wp2
  go_ret
  exact zaS HE.out hc2
 |false=>
  have HE:=ygO (HE0.out.trans (zoE HPZ.out))
  go_wp2_with fail
  refine (zdP ⟨x.toArray⟩ _ (by rw [zaA];omega)).mono ?_
  rw [zaB,HPZ.out]
  rintro e w2 ⟨rfl,hb2⟩
  have hc2:Below w.heap.size w w2:=hb1.trans (hb2.mono hb1.size)
  clear hb1 hb2
  by_cases hxn:x=[]
  ·subst hxn
   go_wp2
   go_ret
   exact zaS (HE.out.trans rfl) hc2
  ·have hxe:x.isEmpty=false:=zcQ hxn
   have HA:=ygO (show zeC x=zbO 10 x from by unfold zeC;rw [hxe];rfl)
   go_wp2_with fail
   refine (zbL ⟨x.toArray⟩ 10 _ (by rw [zaA];omega)).mono ?_
   rw [zaB]
   rintro e w' ⟨rfl,rfl⟩
   go_wp2
   go_ret
   exact zaS (HE.out.trans HA.out) hc2
theorem zwC (s:ByteArray) (w:World) (hs:s.size≤1073741824):
  Calls Tryz.prog 102 #[.string s] w (zeF w (zfG s.data.toList)):=by
 have h0:0<(zaI s.data.toList).length:=zfU _ _
 by_cases h1:(zaI s.data.toList).length=1
 ·exact zxI s w hs _ h1 rfl
 ·obtain ⟨n,hn⟩: ∃n,(zaI s.data.toList).length=n+2:=⟨(zaI s.data.toList).length - 2,by omega⟩
  by_cases he:(zaI s.data.toList).getD (n+1) []=[]
  ·exact zoK s w hs n _ hn rfl he
  ·exact zrC s w hs n _ hn rfl he
end
end
section
open Go.RowKit
theorem z9G (n:Nat) (h:n<16):valZ ((hexN n).toNat:Int)=n∧(hexN n).toNat≠37∧(hexN n).toNat<128:=by
 have key: ∀n:Fin 16,valZ ((hexN n.val).toNat:Int)=n.val∧(hexN n.val).toNat≠37∧(hexN n.val).toNat<128:=by decide+kernel
 exact key ⟨n,h⟩
theorem ydF (st:Nat) (n:Nat) (hs:st<6) (h:n<16):inB st ((hexN n).toNat:Int)=false∧inB st 37=false:=by
 have key: ∀st:Fin 6,∀n:Fin 16,inB (st.val:Int) ((hexN n.val).toNat:Int)=false∧inB (st.val:Int) 37=false:=by decide+kernel
 exact key ⟨st,hs⟩ ⟨n,h⟩
theorem zvH {st r:Int} (h0:0≤st) (h1:st≤5) (h:inB st r=false):31<r∧r≤126:=by
 by_cases hc:r≤31∨126<r
 ·rw [zxA h0 h1 hc] at h;cases h
 ·omega
theorem zlY {r:Int} (h0:0≤r) (h1:r<128):Lib.encodeRune r=[r.toNat.toUInt8]:=by
 unfold Lib.encodeRune
 rw [Lib.encodeRuneZ_one h0 (by omega)]
 rfl
theorem z9M (st:Int) (h0:0≤st) (h1:st≤5) (l:List Int): ∀b∈encB st l,b.toNat<128∧inB st (b.toNat:Int)=false:=by
 intro b hb
 obtain ⟨r,_,hb⟩:=List.mem_flatMap.1 hb
 cases hin:inB st r with
 |true=>
  have e:encP st r=pctL (Lib.encodeRune r):=by unfold encP;rw [hin];rfl
  rw [e] at hb
  obtain ⟨c,_,hb⟩:=List.mem_flatMap.1 hb
  have hc:=c.toNat_lt
  have hst:st=(st.toNat:Int):=(Int.toNat_of_nonneg h0).symm
  have k1:=ydF st.toNat (c.toNat/16) (by omega) (by omega)
  have k2:=ydF st.toNat (c.toNat % 16) (by omega) (by omega)
  rw [←hst] at k1 k2
  have v1:=z9G (c.toNat/16) (by omega)
  have v2:=z9G (c.toNat % 16) (by omega)
  simp only [pctB,List.mem_cons,List.not_mem_nil,or_false] at hb
  rcases hb with rfl|rfl|rfl
  ·exact ⟨by decide,k1.2⟩
  ·exact ⟨v1.2.2,k1.1⟩
  ·exact ⟨v2.2.2,k2.1⟩
 |false=>
  have e:encP st r=Lib.encodeRune r:=by unfold encP;rw [hin];rfl
  have ha:=zvH h0 h1 hin
  rw [e,zlY (by omega) (by omega)] at hb
  simp only [List.mem_cons,List.not_mem_nil,or_false] at hb
  subst hb
  rw [yeM r (by omega) (by omega),Int.toNat_of_nonneg (by omega)]
  exact ⟨by omega,hin⟩
end
end Go.Proofs.YtcagcjdhbijknaaGreatDoor
