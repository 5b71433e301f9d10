/-
  What the law WhatwgClean leans on, and its walk (2 of 31).
-/
import Derived.IntWalk
import Derived.StillTailTactics
import Derived.Deep.RegionHeld3
import Derived.Deep.AppendLies
import Derived.Test.YthacmlahnpdeeaaGreatDoorWhatwgCleanPkA
namespace Go.Proofs.YthacmlahnpdeeaaGreatDoor
set_option maxRecDepth 100000
set_option maxHeartbeats 16000000
section
section
open Go.RowKit
def hexN (n:Nat):UInt8:=([48,49,50,51,52,53,54,55,56,57,65,66,67,68,69,70]:List UInt8).getD n 0
def pctB (c:UInt8):List UInt8:=[37,hexN (c.toNat/16),hexN (c.toNat % 16)]
theorem yiS (n:Nat) (h:n<(ByteArray.mk #[48,49,50,51,52,53,54,55,56,57,65,66,67,68,69,70]).size):((ByteArray.mk #[48,49,50,51,52,53,54,55,56,57,65,66,67,68,69,70])[n]'h).toNat=(hexN n).toNat:=by
 have key: ∀n:Fin 16,((ByteArray.mk #[48,49,50,51,52,53,54,55,56,57,65,66,67,68,69,70])[n.val]'n.isLt).toNat=(hexN n.val).toNat:=by decide
 exact key ⟨n,h⟩
theorem yiA (c:UInt8) (w:World):
  Calls Tryz.prog 170 #[.int .u8 (c.toNat:Int)] w fun e w'=>e= .returned (.string ⟨(pctB c).toArray⟩)∧Below w.heap.size w w':=by
 obtain ⟨n,hn⟩: ∃n,c.toNat=n:=⟨_,rfl⟩
 have hc:n<256:=by rw [←hn];exact c.toNat_lt
 have hR:pctB c=[37,hexN (n/16),hexN (n % 16)]:=by unfold pctB;rw [hn]
 rw [hn,hR]
 clear hn hR c
 have h1:(0:Int)≤(n:Int)/16:=by omega
 have h2:(n:Int)/16<16:=by omega
 have h3:(0:Int)≤(n:Int) % 16:=by omega
 have h4:(n:Int) % 16<16:=by omega
 have k1:n/16<(ByteArray.mk #[48,49,50,51,52,53,54,55,56,57,65,66,67,68,69,70]).size:=by show n/16<16;omega
 have k2:n % 16<(ByteArray.mk #[48,49,50,51,52,53,54,55,56,57,65,66,67,68,69,70]).size:=by show n % 16<16;omega
 have hcv:=yfS (P:=Tryz.prog) w.drew 73 9 5 [37,(((ByteArray.mk #[48,49,50,51,52,53,54,55,56,57,65,66,67,68,69,70])[n/16]'k1).toNat:Int),(((ByteArray.mk #[48,49,50,51,52,53,54,55,56,57,65,66,67,68,69,70])[n % 16]'k2).toNat:Int)]
  (by
   intro x hx
   simp only [List.mem_cons,List.not_mem_nil,or_false] at hx
   rcases hx with rfl|rfl|rfl
   ·decide
   ·have:=((ByteArray.mk #[48,49,50,51,52,53,54,55,56,57,65,66,67,68,69,70])[n/16]'k1).toNat_lt;omega
   ·have:=((ByteArray.mk #[48,49,50,51,52,53,54,55,56,57,65,66,67,68,69,70])[n % 16]'k2).toNat_lt;omega)
  Tryz.underlying73 Tryz.underlying5 Tryz.underlying9
 have hcv2:(convert 73 9 (.slice (some ⟨w.heap.size,0,none⟩) 3 3)).run Tryz.prog ((w.alloc (.cells #[.int .u8 37,.int .u8 (((ByteArray.mk #[48,49,50,51,52,53,54,55,56,57,65,66,67,68,69,70])[n/16]'k1).toNat:Int),.int .u8 (((ByteArray.mk #[48,49,50,51,52,53,54,55,56,57,65,66,67,68,69,70])[n % 16]'k2).toNat:Int)] 5)).drew)=_:=hcv
 clear hcv
 have hR:zqV [37,(((ByteArray.mk #[48,49,50,51,52,53,54,55,56,57,65,66,67,68,69,70])[n/16]'k1).toNat:Int),(((ByteArray.mk #[48,49,50,51,52,53,54,55,56,57,65,66,67,68,69,70])[n % 16]'k2).toNat:Int)]=[37,hexN (n/16),hexN (n % 16)]:=by
  simp only [zqV,List.map_cons,List.map_nil,yiS _ k1,yiS _ k2,zjS]
  rfl
 rw [hR] at hcv2
 clear hR
 generalize [37,hexN (n/16),hexN (n % 16)]=R at hcv2 ⊢
 go_enter Tryz.func170,Tryz.ntmps170
 go_wp2
 go_region
 all_goals (go_wp2;go_ret;exact ⟨rfl,((Below.refl _ _).alloc (Nat.le_refl _) _).drew⟩)
def setL:Nat→List Int
 |1=>[32,34,60,62,96]
 |2=>[32,34,35,60,62]
 |3=>[32,34,35,60,62,39]
 |4=>[32,34,35,60,62,63,94,96,123,125]
 |5=>[32,34,35,60,62,63,94,96,123,125,47,58,59,61,64,91,92,93,124]
 |_=>[]
def inB (s r:Int):Bool:=decide (0≤s∧s≤5)&&(decide (r≤31∨126<r)||(setL s.toNat).contains r)
theorem ylK {s r:Int} (h:s<0∨5<s):inB s r=false:=by
 unfold inB
 rw [decide_eq_false (by omega)];rfl
theorem yaD {s r:Int} (h0:0≤s) (h1:s≤5) (h:r≤31∨126<r):inB s r=true:=by
 unfold inB
 rw [decide_eq_true ⟨h0,h1⟩,decide_eq_true h];rfl
theorem zlK {s r:Int} (h0:0≤s) (h1:s≤5) (h2:31<r) (h3:r≤126):inB s r=(setL s.toNat).contains r:=by
 unfold inB
 rw [decide_eq_true ⟨h0,h1⟩,decide_eq_false (by omega)];simp
theorem yjH (n:Nat) (h:n<127):decide (0≤Lib.indexByte ([]:List UInt8) n.toUInt8)=(setL 0).contains (n:Int):=by
 have key: ∀n:Fin 127,decide (0≤Lib.indexByte ([]:List UInt8) n.val.toUInt8)=(setL 0).contains (n.val:Int):=by decide+kernel
 exact key ⟨n,h⟩
theorem ylB (r:Int) (w:World) (h2:31<r) (h3:r≤126):
  Calls Tryz.prog 167 #[.int .u8 0,.int .i32 r] w fun e w'=>e= .returned (.bool (inB 0 r))∧w=w':=by
 obtain ⟨n,rfl⟩:=Int.eq_ofNat_of_zero_le (show 0≤r by omega)
 have HB:=Lib.hid ((zlK (s:=0) (by decide) (by decide) h2 h3).trans (yjH n (by omega)).symm)
 go_enter Tryz.func167,Tryz.ntmps167
 go_wp2_with (first|(go_at_call 40;refine (Tryz.strings_ContainsRune_ascii _ _ _ (by omega) (by omega)).mono ?_;rintro e w' ⟨rfl,rfl⟩)|go_in)
 go_ret
 exact ⟨zaT (by rw [HB.out];have d1:decide ((n:Int)≤31)=false:=decide_eq_false (by omega);have d2:decide (126<(n:Int))=false:=decide_eq_false (by omega);simp only [d1,d2,Bool.false_or]),rfl⟩
theorem ylX (n:Nat) (h:n<127):decide (0≤Lib.indexByte ([32,34,60,62,96]:List UInt8) n.toUInt8)=(setL 1).contains (n:Int):=by
 have key: ∀n:Fin 127,decide (0≤Lib.indexByte ([32,34,60,62,96]:List UInt8) n.val.toUInt8)=(setL 1).contains (n.val:Int):=by decide+kernel
 exact key ⟨n,h⟩
theorem ylI (r:Int) (w:World) (h2:31<r) (h3:r≤126):
  Calls Tryz.prog 167 #[.int .u8 1,.int .i32 r] w fun e w'=>e= .returned (.bool (inB 1 r))∧w=w':=by
 obtain ⟨n,rfl⟩:=Int.eq_ofNat_of_zero_le (show 0≤r by omega)
 have HB:=Lib.hid ((zlK (s:=1) (by decide) (by decide) h2 h3).trans (ylX n (by omega)).symm)
 go_enter Tryz.func167,Tryz.ntmps167
 go_wp2_with (first|(go_at_call 40;refine (Tryz.strings_ContainsRune_ascii _ _ _ (by omega) (by omega)).mono ?_;rintro e w' ⟨rfl,rfl⟩)|go_in)
 go_ret
 exact ⟨zaT (by rw [HB.out];have d1:decide ((n:Int)≤31)=false:=decide_eq_false (by omega);have d2:decide (126<(n:Int))=false:=decide_eq_false (by omega);simp only [d1,d2,Bool.false_or]),rfl⟩
theorem ykZ (n:Nat) (h:n<127):decide (0≤Lib.indexByte ([32,34,35,60,62]:List UInt8) n.toUInt8)=(setL 2).contains (n:Int):=by
 have key: ∀n:Fin 127,decide (0≤Lib.indexByte ([32,34,35,60,62]:List UInt8) n.val.toUInt8)=(setL 2).contains (n.val:Int):=by decide+kernel
 exact key ⟨n,h⟩
theorem ylJ (r:Int) (w:World) (h2:31<r) (h3:r≤126):
  Calls Tryz.prog 167 #[.int .u8 2,.int .i32 r] w fun e w'=>e= .returned (.bool (inB 2 r))∧w=w':=by
 obtain ⟨n,rfl⟩:=Int.eq_ofNat_of_zero_le (show 0≤r by omega)
 have HB:=Lib.hid ((zlK (s:=2) (by decide) (by decide) h2 h3).trans (ykZ n (by omega)).symm)
 go_enter Tryz.func167,Tryz.ntmps167
 go_wp2_with (first|(go_at_call 40;refine (Tryz.strings_ContainsRune_ascii _ _ _ (by omega) (by omega)).mono ?_;rintro e w' ⟨rfl,rfl⟩)|go_in)
 go_ret
 exact ⟨zaT (by rw [HB.out];have d1:decide ((n:Int)≤31)=false:=decide_eq_false (by omega);have d2:decide (126<(n:Int))=false:=decide_eq_false (by omega);simp only [d1,d2,Bool.false_or]),rfl⟩
theorem ylO (n:Nat) (h:n<127):decide (0≤Lib.indexByte ([32,34,35,60,62,39]:List UInt8) n.toUInt8)=(setL 3).contains (n:Int):=by
 have key: ∀n:Fin 127,decide (0≤Lib.indexByte ([32,34,35,60,62,39]:List UInt8) n.val.toUInt8)=(setL 3).contains (n.val:Int):=by decide+kernel
 exact key ⟨n,h⟩
theorem ylR (r:Int) (w:World) (h2:31<r) (h3:r≤126):
  Calls Tryz.prog 167 #[.int .u8 3,.int .i32 r] w fun e w'=>e= .returned (.bool (inB 3 r))∧w=w':=by
 obtain ⟨n,rfl⟩:=Int.eq_ofNat_of_zero_le (show 0≤r by omega)
 have HB:=Lib.hid ((zlK (s:=3) (by decide) (by decide) h2 h3).trans (ylO n (by omega)).symm)
 go_enter Tryz.func167,Tryz.ntmps167
 go_wp2_with (first|(go_at_call 40;refine (Tryz.strings_ContainsRune_ascii _ _ _ (by omega) (by omega)).mono ?_;rintro e w' ⟨rfl,rfl⟩)|go_in)
 go_ret
 exact ⟨zaT (by rw [HB.out];have d1:decide ((n:Int)≤31)=false:=decide_eq_false (by omega);have d2:decide (126<(n:Int))=false:=decide_eq_false (by omega);simp only [d1,d2,Bool.false_or]),rfl⟩
theorem ylA (n:Nat) (h:n<127):decide (0≤Lib.indexByte ([32,34,35,60,62,63,94,96,123,125]:List UInt8) n.toUInt8)=(setL 4).contains (n:Int):=by
 have key: ∀n:Fin 127,decide (0≤Lib.indexByte ([32,34,35,60,62,63,94,96,123,125]:List UInt8) n.val.toUInt8)=(setL 4).contains (n.val:Int):=by decide+kernel
 exact key ⟨n,h⟩
theorem ykK (r:Int) (w:World) (h2:31<r) (h3:r≤126):
  Calls Tryz.prog 167 #[.int .u8 4,.int .i32 r] w fun e w'=>e= .returned (.bool (inB 4 r))∧w=w':=by
 obtain ⟨n,rfl⟩:=Int.eq_ofNat_of_zero_le (show 0≤r by omega)
 have HB:=Lib.hid ((zlK (s:=4) (by decide) (by decide) h2 h3).trans (ylA n (by omega)).symm)
 go_enter Tryz.func167,Tryz.ntmps167
 go_wp2_with (first|(go_at_call 40;refine (Tryz.strings_ContainsRune_ascii _ _ _ (by omega) (by omega)).mono ?_;rintro e w' ⟨rfl,rfl⟩)|go_in)
 go_ret
 exact ⟨zaT (by rw [HB.out];have d1:decide ((n:Int)≤31)=false:=decide_eq_false (by omega);have d2:decide (126<(n:Int))=false:=decide_eq_false (by omega);simp only [d1,d2,Bool.false_or]),rfl⟩
theorem yjV (n:Nat) (h:n<127):decide (0≤Lib.indexByte ([32,34,35,60,62,63,94,96,123,125,47,58,59,61,64,91,92,93,124]:List UInt8) n.toUInt8)=(setL 5).contains (n:Int):=by
 have key: ∀n:Fin 127,decide (0≤Lib.indexByte ([32,34,35,60,62,63,94,96,123,125,47,58,59,61,64,91,92,93,124]:List UInt8) n.val.toUInt8)=(setL 5).contains (n.val:Int):=by decide+kernel
 exact key ⟨n,h⟩
theorem ykY (r:Int) (w:World) (h2:31<r) (h3:r≤126):
  Calls Tryz.prog 167 #[.int .u8 5,.int .i32 r] w fun e w'=>e= .returned (.bool (inB 5 r))∧w=w':=by
 obtain ⟨n,rfl⟩:=Int.eq_ofNat_of_zero_le (show 0≤r by omega)
 have HB:=Lib.hid ((zlK (s:=5) (by decide) (by decide) h2 h3).trans (yjV n (by omega)).symm)
 go_enter Tryz.func167,Tryz.ntmps167
 go_wp2_with (first|(go_at_call 40;refine (Tryz.strings_ContainsRune_ascii _ _ _ (by omega) (by omega)).mono ?_;rintro e w' ⟨rfl,rfl⟩)|go_in)
 go_ret
 exact ⟨zaT (by rw [HB.out];have d1:decide ((n:Int)≤31)=false:=decide_eq_false (by omega);have d2:decide (126<(n:Int))=false:=decide_eq_false (by omega);simp only [d1,d2,Bool.false_or]),rfl⟩
theorem in_ctl (s r:Int) (w:World) (h0:0≤s) (h1:s≤5) (h:r≤31∨126<r):
  Calls Tryz.prog 167 #[.int .u8 s,.int .i32 r] w fun e w'=>e= .returned (.bool (inB s r))∧w=w':=by
 have HB:=Lib.hid (yaD h0 h1 h)
 rcases h with h|h
 ·go_enter Tryz.func167,Tryz.ntmps167
  go_wp2
  go_ret
  exact ⟨zaT HB.out.symm,rfl⟩
 ·go_enter Tryz.func167,Tryz.ntmps167
  go_wp2
  go_ret
  exact ⟨zaT HB.out.symm,rfl⟩
theorem in_out (s r:Int) (w:World) (h:5<s):
  Calls Tryz.prog 167 #[.int .u8 s,.int .i32 r] w fun e w'=>e= .returned (.bool (inB s r))∧w=w':=by
 have HB:=Lib.hid (ylK (s:=s) (r:=r) (.inr h))
 go_enter Tryz.func167,Tryz.ntmps167
 go_wp2
 go_ret
 exact ⟨zaT HB.out.symm,rfl⟩
theorem yiT (s r:Int) (w:World) (h0:0≤s):
  Calls Tryz.prog 167 #[.int .u8 s,.int .i32 r] w fun e w'=>e= .returned (.bool (inB s r))∧w=w':=by
 by_cases h5:5<s
 ·exact in_out s r w h5
 ·by_cases hc:r≤31∨126<r
  ·exact in_ctl s r w h0 (by omega) hc
  ·rcases (show s=0∨s=1∨s=2∨s=3∨s=4∨s=5 from by omega) with rfl|rfl|rfl|rfl|rfl|rfl
   ·exact ylB r w (by omega) (by omega)
   ·exact ylI r w (by omega) (by omega)
   ·exact ylJ r w (by omega) (by omega)
   ·exact ylR r w (by omega) (by omega)
   ·exact ykK r w (by omega) (by omega)
   ·exact ykY r w (by omega) (by omega)
end
section
open Go.RowKit
end
section
open Go.RowKit
/-- % and two digits at a text's beginning:the byte -/
def zhZ:List UInt8→Option UInt8
 |c::a::b::_=>if c.toNat=37∧0≤valZ (a.toNat:Int)∧0≤valZ (b.toNat:Int) then some (UInt8.ofNat ((valZ (a.toNat:Int)*16+valZ (b.toNat:Int)).toNat)) else none
 |_=>none
def decL:Nat→List UInt8→List UInt8
 |0,_=>[]
 |_+1,[]=>[]
 |f+1,c::r=>match zhZ (c::r) with
  |some v=>v::decL f (r.drop 2)
  |none=>c::decL f r
def decB (l:List UInt8):List UInt8:=decL l.length l
theorem yaC (r:Int):valZ r<16:=by unfold valZ;(repeat' split)<;>omega
theorem yaB (r:Int): -1≤valZ r:=by unfold valZ;(repeat' split)<;>omega
theorem zeO (s:ByteArray) (k:Nat) (h:k<s.size):s.data.toList.drop k=s[k]::s.data.toList.drop (k+1):=by
 rw [List.drop_eq_getElem_cons (by simpa using h)]
 rfl
theorem zmX (s:ByteArray) (k:Nat) (h: ¬k<s.size):s.data.toList.drop k=[]:=List.drop_eq_nil_of_le (by simpa using h)
theorem z4K (s:ByteArray) (k:Nat) (hk:k+2<s.size) (h37:s[k].toNat=37) (h1:0≤valZ (s[k+1].toNat:Int)) (h2:0≤valZ (s[k+2].toNat:Int)):
  zhZ (s.data.toList.drop k)=some (UInt8.ofNat ((valZ (s[k+1].toNat:Int)*16+valZ (s[k+2].toNat:Int)).toNat)):=by
 rw [zeO s k (by omega),zeO s (k+1) (by omega),zeO s (k+2) (by omega)]
 simp only [zhZ]
 rw [if_pos ⟨h37,h1,h2⟩]
theorem zvE (s:ByteArray) (k:Nat) (hk:k+2<s.size) (h:s[k].toNat≠37∨valZ (s[k+1].toNat:Int)<0∨valZ (s[k+2].toNat:Int)<0):
  zhZ (s.data.toList.drop k)=none:=by
 rw [zeO s k (by omega),zeO s (k+1) (by omega),zeO s (k+2) (by omega)]
 simp only [zhZ]
 rw [if_neg (by omega)]
theorem zoH (s:ByteArray) (k:Nat) (hk:s.size≤k+2):zhZ (s.data.toList.drop k)=none:=by
 by_cases h0:k<s.size
 ·rw [zeO s k h0]
  by_cases h1:k+1<s.size
  ·rw [zeO s (k+1) h1,zmX s (k+2) (by omega)]
   rfl
  ·rw [zmX s (k+1) h1]
   rfl
 ·rw [zmX s k h0]
  rfl
theorem yhW (a b:Int) (h0:0≤a) (h1:a<16) (h2:0≤b) (h3:b<16):bits BinOp.or IntKind.i64 (a*16) b % 256=a*16+b:=by
 have key: ∀a b:Fin 16,bits BinOp.or IntKind.i64 ((a.val:Int)*16) (b.val:Int) % 256=(a.val:Int)*16+(b.val:Int):=by decide+kernel
 have:=key ⟨a.toNat,by omega⟩ ⟨b.toNat,by omega⟩
 simp only [Int.toNat_of_nonneg h0,Int.toNat_of_nonneg h2] at this
 exact this
def zyI (o:Option UInt8) (w:World) (e:Ending) (w':World):Prop:=e= .returned (.tuple #[.int .u8 ((o.getD 0).toNat:Int),.bool o.isSome])∧ ∃n,w'=w.drewN n
theorem zfS {o:Option UInt8} {w:World} {e:Ending} {w':World} (ho:o=none) (he:e= .returned (.tuple #[.int .u8 0,.bool false])) (n:Nat) (hw:w'=w.drewN n):zyI o w e w':=by
 subst ho
 exact ⟨he,n,hw⟩
theorem zwI {o:Option UInt8} {v:UInt8} {x:Int} {w:World} {e:Ending} {w':World} (ho:o=some v) (he:e= .returned (.tuple #[.int .u8 x,.bool true])) (hx:x=(v.toNat:Int)) (n:Nat) (hw:w'=w.drewN n):zyI o w e w':=by
 subst ho hx
 exact ⟨he,n,hw⟩
theorem z4R (x:Int) (h0:0≤x) (h1:x<256):x=((UInt8.ofNat x.toNat).toNat:Int):=by
 have:x.toNat % 256=x.toNat:=Nat.mod_eq_of_lt (by omega)
 simp [this]
 omega
theorem zpB (s:ByteArray) (k:Nat) (w:World) (hs:s.size≤1073741824) (hk:k<s.size):
  Calls Tryz.prog 149 #[.string s,.int .i64 k] w (zyI (zhZ (s.data.toList.drop k)) w):=by
 obtain ⟨c0,hc0⟩: ∃c,s[k].toNat=c:=⟨_,rfl⟩
 by_cases h2:k+2<s.size
 ·obtain ⟨c1,hc1⟩: ∃c,s[k+1].toNat=c:=⟨_,rfl⟩
  obtain ⟨c2,hc2⟩: ∃c,s[k+2].toNat=c:=⟨_,rfl⟩
  have l1:c1<256:=by rw [←hc1];exact s[k+1].toNat_lt
  have l2:c2<256:=by rw [←hc2];exact s[k+2].toNat_lt
  by_cases h37:c0=37
  ·subst h37
   obtain ⟨v1,hv1⟩: ∃v,valZ (c1:Int)=v:=⟨_,rfl⟩
   obtain ⟨v2,hv2⟩: ∃v,valZ (c2:Int)=v:=⟨_,rfl⟩
   have b1:v1<16:=by rw [←hv1];exact yaC _
   have b2:v2<16:=by rw [←hv2];exact yaC _
   have b3: -1≤v1:=by rw [←hv1];exact yaB _
   have b4: -1≤v2:=by rw [←hv2];exact yaB _
   have hb37:((37:Int) !=37)=false:=by decide
   by_cases hv:0≤v1∧0≤v2
   ·obtain ⟨b5,b6⟩:=hv
    have HT:=Lib.hid (z4K s k h2 hc0 (by rw [hc1,hv1];exact b5) (by rw [hc2,hv2];exact b6))
    rw [hc1,hc2,hv1,hv2] at HT
    have HO:=Lib.hid (yhW v1 v2 b5 b1 b6 b2)
    have HX:=Lib.hid (z4R (v1*16+v2) (by omega) (by omega))
    have p1:(0:Int)≤(k:Int)+1:=by omega
    have p2:(0:Int)≤(k:Int)+2:=by omega
    have p3:(k:Int)+1<(s.size:Int):=by omega
    have p4:(k:Int)+2<(s.size:Int):=by omega
    have q1:IntKind.i64.wrap ((k:Int)+1)=(k:Int)+1:=IntWalk.i64_in _ (by omega)
    have q2:IntKind.i64.wrap ((k:Int)+2)=(k:Int)+2:=IntWalk.i64_in _ (by omega)
    have r1:((k:Int)+1).toNat=k+1:=by omega
    have r2:((k:Int)+2).toNat=k+2:=by omega
    go_enter Tryz.func149,Tryz.ntmps149
    go_wp2_with fail
    go_quiet ((go_at_call 166;exact Calls.quiet_of_same ((zcJ _ _).mono fun _ _ h=>⟨h.1,h.2.symm⟩)))
    clear q1 q2 r1 r2
    go_wp2
    go_ret2
    exact zwI HT.out rfl (HO.out.trans HX.out) nq rfl
   ·have HT:=Lib.hid (zvE s k h2 (by rw [hc1,hc2,hv1,hv2];omega))
    have p1:(0:Int)≤(k:Int)+1:=by omega
    have p2:(0:Int)≤(k:Int)+2:=by omega
    have p3:(k:Int)+1<(s.size:Int):=by omega
    have p4:(k:Int)+2<(s.size:Int):=by omega
    by_cases hv1n:v1<0
    all_goals
     have q1:IntKind.i64.wrap ((k:Int)+1)=(k:Int)+1:=IntWalk.i64_in _ (by omega)
     have q2:IntKind.i64.wrap ((k:Int)+2)=(k:Int)+2:=IntWalk.i64_in _ (by omega)
     have r1:((k:Int)+1).toNat=k+1:=by omega
     have r2:((k:Int)+2).toNat=k+2:=by omega
     go_enter Tryz.func149,Tryz.ntmps149
     go_wp2_with fail
     go_quiet ((go_at_call 166;exact Calls.quiet_of_same ((zcJ _ _).mono fun _ _ h=>⟨h.1,h.2.symm⟩)))
     clear q1 q2 r1 r2
     have hv2n:v1<0∨v2<0:=by omega
     go_wp2
     all_goals
      go_ret2
      exact zfS HT.out rfl nq rfl
  ·have HT:=Lib.hid (zvE s k h2 (.inl (by rw [hc0];exact h37)))
   have hb:((c0:Int) !=37)=true:=by rw [bne_iff_ne];omega
   go_enter Tryz.func149,Tryz.ntmps149
   go_wp2
   go_ret2
   exact zfS HT.out rfl 0 rfl
 ·have HT:=Lib.hid (zoH s k (by omega))
  by_cases h37:c0=37
  ·subst h37
   go_enter Tryz.func149,Tryz.ntmps149
   go_wp2
   go_ret2
   exact zfS HT.out rfl 0 rfl
  ·have hb:((c0:Int) !=37)=true:=by rw [bne_iff_ne];omega
   go_enter Tryz.func149,Tryz.ntmps149
   go_wp2
   go_ret2
   exact zfS HT.out rfl 0 rfl
end
section
open Go.RowKit
theorem yfZ (s:ByteArray) (f k:Nat) (h: ¬k<s.size):decL f (s.data.toList.drop k)=[]:=by
 rw [zmX s k h]
 cases f<;>rfl
theorem yaZ (s:ByteArray) (f k:Nat) (v:UInt8) (h:k<s.size) (ht:zhZ (s.data.toList.drop k)=some v):decL (f+1) (s.data.toList.drop k)=v::decL f (s.data.toList.drop (k+3)):=by
 rw [zeO s k h] at ht ⊢
 simp only [decL,ht,List.drop_drop]
theorem z7S (s:ByteArray) (f k:Nat) (h:k<s.size) (ht:zhZ (s.data.toList.drop k)=none):decL (f+1) (s.data.toList.drop k)=s[k]::decL f (s.data.toList.drop (k+1)):=by
 rw [zeO s k h] at ht ⊢
 simp only [decL,ht]
theorem z3Q (s:ByteArray) (k:Nat) (v:UInt8) (h:zhZ (s.data.toList.drop k)=some v):k+2<s.size:=by
 by_cases hk:k+2<s.size
 ·exact hk
 ·rw [zoH s k (by omega)] at h;cases h
theorem zqK (s:ByteArray) (w:World) (hs:s.size≤1073741824):
  Calls Tryz.prog 98 #[.string s] w fun e w'=>e= .returned (.string ⟨(decB s.data.toList).toArray⟩)∧Below w.heap.size w w':=by
 go_enter Tryz.func98,Tryz.ntmps98
 go_wp2
 go_loopw [4] (fun i wr=> ∃(k fuel:Nat) (T:List UInt8),i= .int .i64 k∧k≤s.size∧Lib.IsBuilderF 130 5 w.heap.size w.heap.size (Lib.byteCells T) wr∧Below w.heap.size w wr∧T.length≤k∧s.size≤k+fuel∧Hid (T++decL fuel (s.data.toList.drop k)=decB s.data.toList)) (fun i _=>s.size - (intOf i).toNat)
 case atStart=>
  refine ⟨0,s.size,[],rfl,Nat.zero_le _,Lib.IsBuilderF.of (Lib.fresh_isBuilder _ _ w),(Below.refl _ w).alloc (Nat.le_refl _) _,by simp,by omega,?_⟩
  show []++decL s.size (s.data.toList.drop 0)=decL s.data.toList.length s.data.toList
  rw [zaU];rfl
 case round=>
  obtain ⟨k,fuel,T,rfl,hk,hI,hbw,hTl,hfu,HD⟩:=hrel
  have hsz:=hbw.size
  by_cases hlt:k<s.size
  ·obtain ⟨f,rfl⟩: ∃f,fuel=f+1:=⟨fuel - 1,by omega⟩
   cases hth:zhZ (s.data.toList.drop k) with
   |some v=>
    have hroom:=z3Q s k v hth
    have hD2:=HD.out
    rw [yaZ s f k v hlt hth] at hD2
    have HD2:=Lib.hid hD2
    have HTH:=Lib.hid hth
    clear hD2 hth
    go_wp2_with fail
    refine (zpB s k _ hs hlt).mono ?_
    rw [HTH.out]
    rintro e w' ⟨rfl,nq,rfl⟩
    have hI2:Lib.IsBuilderF 130 5 w.heap.size w.heap.size (Lib.byteCells T) (wr.drewN nq):=hI
    have hb2:=zbY hbw nq
    have hsz2:w.heap.size≤(wr.drewN nq).heap.size:=hsz
    generalize wr.drewN nq=w2 at*
    go_wp2_with fail
    refine (Tryz.Builder_WriteByte_k w.heap.size w.heap.size _ _ _ hI2 (by rw [Lib.byteCells_length];omega) hsz2).mono ?_
    rintro e w3 ⟨rfl,h3,b3,_⟩
    go_wp2
    go_roundw
    case rel=>
     refine ⟨k+3,f,T++[v],by go_num,by omega,?_,hb2.trans b3,by simp;omega,by omega,?_⟩
     ·rw [zlU T v _ rfl];exact .inr h3
     ·show (T++[v])++_=_
      rw [List.append_assoc];exact HD2.out
    case measure=>simp [intOf];omega
   |none=>
    have hD2:=HD.out
    rw [z7S s f k hlt hth] at hD2
    have HD2:=Lib.hid hD2
    have HTH:=Lib.hid hth
    clear hD2 hth
    go_wp2_with fail
    refine (zpB s k _ hs hlt).mono ?_
    rw [HTH.out]
    rintro e w' ⟨rfl,nq,rfl⟩
    have hI2:Lib.IsBuilderF 130 5 w.heap.size w.heap.size (Lib.byteCells T) (wr.drewN nq):=hI
    have hb2:=zbY hbw nq
    have hsz2:w.heap.size≤(wr.drewN nq).heap.size:=hsz
    generalize wr.drewN nq=w2 at*
    go_wp2_with fail
    refine (Tryz.Builder_WriteByte_k w.heap.size w.heap.size _ _ _ hI2 (by rw [Lib.byteCells_length];omega) hsz2).mono ?_
    rintro e w3 ⟨rfl,h3,b3,_⟩
    go_wp2
    go_roundw
    case rel=>
     refine ⟨k+1,f,T++[s[k]],by go_num,by omega,?_,hb2.trans b3,by simp;omega,by omega,?_⟩
     ·rw [zlU T s[k] _ rfl];exact .inr h3
     ·show (T++[s[k]])++_=_
      rw [List.append_assoc];exact HD2.out
    case measure=>simp [intOf];omega
  ·have hfin:T=decB s.data.toList:=by
    have:=HD.out
    rwa [yfZ s fuel k hlt,List.append_nil] at this
   subst hfin
   go_wp2_with fail
   refine (Tryz.Builder_String_any_k w.heap.size w.heap.size _ _ hI (by omega)).mono ?_
   rintro e w1 ⟨rfl,_,b1,_⟩
   go_wp2
   go_ret
   exact ⟨rfl,hbw.trans b1⟩
end
section
open Go.RowKit
def pctL (l:List UInt8):List UInt8:=l.flatMap pctB
def encP (s r:Int):List UInt8:=if inB s r=true then pctL (Lib.encodeRune r) else Lib.encodeRune r
def encB (s:Int) (l:List Int):List UInt8:=l.flatMap (encP s)
theorem z1G (l:List UInt8):(pctL l).length=3*l.length:=by
 induction l with
 |nil=>rfl
 |cons c l ih=>simp only [pctL,List.flatMap_cons,List.length_append] at ih ⊢;rw [ih];simp [pctB];omega
theorem z1Z (s r:Int):(encP s r).length≤12:=by
 have:=zhH r
 unfold encP
 split
 ·rw [z1G];omega
 ·omega
theorem ybW (l:List UInt8) (k:Nat) (h:k<l.length):pctL (l.take (k+1))=pctL (l.take k)++pctB l[k]:=by
 unfold pctL
 rw [List.take_succ_eq_append_getElem h,List.flatMap_append]
 simp
theorem zvF (s r:Int) (l:List Int):encB s (r::l)=encP s r++encB s l:=by simp [encB]
theorem ybB (s:Int) (l:List Int) (k:Nat) (h:k<l.length):encB s (l.take (k+1))=encB s (l.take k)++encP s l[k]:=by
 unfold encB
 rw [List.take_succ_eq_append_getElem h,List.flatMap_append]
 simp
theorem zmL (s:Int) (l:List Int): ∀k,(encB s (l.take k)).length≤12*k
 |0=>by simp [encB]
 |k+1=>by
  have ih:=zmL s l k
  by_cases h:k<l.length
  ·rw [ybB s l k h,List.length_append];have:=z1Z s l[k];omega
  ·rw [List.take_of_length_le (by omega)];rw [List.take_of_length_le (by omega)] at ih;omega
theorem ztW {T e:TypeId} {B b:Nat} {bs:List Value} {w w':World} (h:Lib.IsBuilderF T e B b bs w) (hb:Below w.heap.size w w'):Lib.IsBuilderF T e B b bs w':=by
 have key: ∀p,Lib.BuilderAtF T e B b p bs w→Lib.BuilderAtF T e B b p bs w':=by
  intro p hh
  obtain ⟨hB,v,hv,hown,hne⟩:=hh
  refine ⟨hB,v,(hb.block b (Array.getElem?_eq_some_iff.1 hv).1).trans hv,⟨hown.1,?_⟩,hne⟩
  rcases hown.2 with hn|⟨g,cap,cur,fz,hv2,hbg,hg,rest⟩
  ·exact .inl hn
  ·exact .inr ⟨g,cap,cur,fz,hv2,hbg,(hb.block g (Array.getElem?_eq_some_iff.1 hg).1).trans hg,rest⟩
 exact h.elim (fun x=> .inl (key _ x)) (fun x=> .inr (key _ x))
theorem yjZ (w:World) (r:Int) (t:TypeId):RowR (w.alloc (.cells #[.int .i32 r] t)) (.slice (some ⟨w.heap.size,0,none⟩) 1 1) ([r].map (Value.int .i32)):=by
 refine ⟨_,1,rfl,fun j u hj=>⟨_,rfl,?_⟩⟩
 exact zsR w (.int .i32 r) t j u hj
theorem zyT (l:List UInt8):Lib.strCells ⟨l.toArray⟩=Lib.byteCells l:=rfl
theorem z3J (l:List UInt8) (k:Nat) (h:k<(ByteArray.mk l.toArray).size):(ByteArray.mk l.toArray)[k]=l[k]'(by simpa [ByteArray.size] using h):=rfl
theorem zrA (st:Int) (s:ByteArray) (w:World) (hst:0≤st) (hs:s.size≤67108864):
  Calls Tryz.prog 119 #[.int .u8 st,.string s] w fun e w'=>e= .returned (.string ⟨(encB st (scal s)).toArray⟩)∧Below w.heap.size w w':=by
 go_enter Tryz.func119,Tryz.ntmps119
 go_wp2
 go_loopw [] (fun wr=> ∃(pos fuel:Nat) (acc:List UInt8),Lib.IsBuilderF 130 5 w.heap.size w.heap.size (Lib.byteCells acc) wr∧wr.heap[w.heap.size+1]? =some (.stringIter s pos)∧Below w.heap.size w wr∧Hid (acc++encB st (zlB s fuel pos)=encB st (scal s))∧s.size≤pos+fuel∧acc.length≤12*pos∧pos≤s.size+4) (fun wr=>s.size - wr.iterPos (w.heap.size+1))
 case atStart=>
  refine ⟨0,s.size,[],(Lib.IsBuilderF.of (Lib.fresh_isBuilder _ _ w)).alloc _,?_,((Below.refl _ w).alloc (Nat.le_refl _) _).alloc (by simp) _,rfl,by omega,by simp,by omega⟩
  have:=World.iter_heap (w.alloc (.cells #[.pointer none,.slice none 0 0] 130)) s 0
  simpa using this
 case round=>
  obtain ⟨pos,fuel,acc,hI,hit,hbw,HA,hfu,hal,hpo⟩:=hrel
  have hsz:w.heap.size+1<wr.heap.size:=(Array.getElem?_eq_some_iff.1 hit).1
  by_cases hp:pos<s.size
  ·have hnx: ∀ty,(Instr.next (.pointer (some ⟨w.heap.size+1,0,none⟩)) true ty).run Tryz.prog wr=_:=fun ty=>Lib.run_next_any_at wr (w.heap.size+1) s pos ty hit hp
   have hwd:=zkU s pos hp
   have hwl:=z0Z s pos
   have hd1:=decode_le s pos
   have hI2:=hI.iterAt hit (pos+(Utf8.decode s pos).2)
   have hit2:=Lib.iterAt_heap wr (w.heap.size+1) s pos (pos+(Utf8.decode s pos).2) hit
   have hbw2:=Lib.below_iterAt hbw (k:=w.heap.size+1) (by omega) s (pos+(Utf8.decode s pos).2)
   have hsz2:w.heap.size+1<(wr.iterAt (w.heap.size+1) s (pos+(Utf8.decode s pos).2)).heap.size:=by rw [Lib.iterAt_size];omega
   obtain ⟨f,rfl⟩: ∃f,fuel=f+1:=⟨fuel - 1,by omega⟩
   have hA2:=HA.out
   rw [zgO s f pos hp,zvF] at hA2
   have HA2:=Lib.hid hA2
   clear hA2
   generalize wr.iterAt (w.heap.size+1) s (pos+(Utf8.decode s pos).2)=wi at*
   generalize hr:((Utf8.decode s pos).1:Int)=r at*
   have hr0:0≤r:=by omega
   have hr1:r≤2147483647:=by omega
   have HWP:Hid (wr.iterPos (w.heap.size+1)=pos):=by
    show wr.iterPos (w.heap.size+1)=pos
    simp only [World.iterPos,hit]
   clear hr
   have hel:=zhH r
   cases hin:inB st r with
   |false=>
    have hep:encP st r=Lib.encodeRune r:=by unfold encP;rw [hin];rfl
    have HEP:=Lib.hid hep
    clear hep
    go_wp2_with fail
    refine (yiT st r _ hst).mono ?_
    rintro e w' ⟨rfl,rfl⟩
    rw [hin]
    go_wp2_with fail
    refine (Tryz.Builder_WriteRune_k w.heap.size w.heap.size _ r (by omega) hr1 _ hI2 (by rw [Lib.byteCells_length];omega) (by omega)).mono ?_
    rintro e w1 ⟨rfl,h1,b1,k1⟩
    have hit3:=k1.iter hit2 (by omega)
    go_wp2
    go_roundw
    case rel=>
     refine ⟨pos+(Utf8.decode s pos).2,f,acc++Lib.encodeRune r,?_,hit3,hbw2.trans b1,?_,by omega,by simp;omega,by omega⟩
     ·rw [Lib.byteCells_append,Lib.byteCells_encodeRune];exact .inr h1
     ·show (acc++Lib.encodeRune r)++_=_
      rw [List.append_assoc,←HEP.out];exact HA2.out
    case measure=>
     rw [HWP.out]
     simp only [World.iterPos,hit3]
     omega
   |true=>
    have hep:encP st r=pctL (Lib.encodeRune r):=by unfold encP;rw [hin];rfl
    have HEP:=Lib.hid hep
    clear hep
    go_wp2_with fail
    refine (yiT st r _ hst).mono ?_
    rintro e w' ⟨rfl,rfl⟩
    rw [hin]
    have hrow:=yjZ wi r 21
    have hI3:=hI2.alloc (.cells #[.int .i32 r] 21)
    have hit3:(wi.alloc (.cells #[.int .i32 r] 21)).heap[w.heap.size+1]? =some (.stringIter s (pos+(Utf8.decode s pos).2)):=by rw [Below.heap_alloc _ _ _ (by omega)];exact hit2
    have hbw3:=hbw2.alloc (by omega:w.heap.size≤wi.heap.size) (.cells #[.int .i32 r] 21)
    go_wp2_with fail
    refine (yeV _ [r] _ hrow (by simp) (by intro x hx;simp at hx;omega)).mono ?_
    rintro e w2 ⟨rfl,hb2⟩
    have hI4:=ztW hI3 hb2
    have hit4:=(hb2.block (w.heap.size+1) (by simp;omega)).trans hit3
    have hbw4:Below w.heap.size w w2:=hbw3.trans (hb2.mono (by simp;omega))
    clear hI2 hI3 hit2 hit3 hbw2 hbw3 hrow hb2
    rw [show zeK [r]=Lib.encodeRune r from by simp [zeK]]
    generalize hE:Lib.encodeRune r=E at*
    have HE:=Lib.hid hE
    clear hE
    go_wp2
    go_loopw [26] (fun i wq=> ∃j:Nat,j≤E.length∧i= .int .i64 j∧Lib.IsBuilderF 130 5 w.heap.size w.heap.size (Lib.byteCells (acc++pctL (E.take j))) wq∧wq.heap[w.heap.size+1]? =some (.stringIter s (pos+(Utf8.decode s pos).2))∧Below w.heap.size w wq) (fun i _=>E.length - (intOf i).toNat)
    case atStart=>
     refine ⟨0,Nat.zero_le _,rfl,?_,hit4,hbw4⟩
     simpa [pctL] using hI4
    case round=>
     obtain ⟨j,hj,rfl,hIq,hitq,hbwq⟩:=hrel
     have hszq:w.heap.size+1<wr.heap.size:=(Array.getElem?_eq_some_iff.1 hitq).1
     by_cases hjlt:j<E.length
     ·have hjs:j<(ByteArray.mk E.toArray).size:=by rw [zaJ];exact hjlt
      have hsn:=ybW E j hjlt
      have HSN:=Lib.hid hsn
      have hpl:(pctL (E.take j)).length≤12:=by rw [z1G,List.length_take];omega
      clear hsn
      have hba:=z3J E j hjs
      have HBA:=Lib.hid hba
      clear hba
      go_wp2_with fail
      refine (yiA (ByteArray.mk E.toArray)[j] _).mono ?_
      rintro e w3 ⟨rfl,hb3⟩
      have hI5:=ztW hIq hb3
      have hit5:=(hb3.block (w.heap.size+1) (by omega)).trans hitq
      have hbw5:Below w.heap.size w w3:=hbwq.trans (hb3.mono (by omega))
      have hsz3:w.heap.size≤w3.heap.size:=hbw5.size
      go_wp2_with fail
      refine (Tryz.Builder_WriteString_k w.heap.size w.heap.size _ _ _ hI5 (by rw [Lib.byteCells_length,List.length_append,zaJ,show (pctB (ByteArray.mk E.toArray)[j]).length=3 from rfl];omega) hsz3).mono ?_
      rintro e w4 ⟨rfl,h4,b4,k4⟩
      have hit6:=k4.iter hit5 (by omega)
      go_wp2
      go_roundw
      case rel=>
       refine ⟨j+1,by omega,by go_num,?_,hit6,hbw5.trans b4⟩
       rw [HSN.out,←List.append_assoc,Lib.byteCells_append,←HBA.out,←zyT]
       exact .inr h4
      case measure=>simp [intOf];omega
     ·have hfin:pctL (E.take j)=encP st r:=by rw [List.take_of_length_le (by omega),HEP.out]
      rw [hfin] at hIq
      clear hfin
      have hpl:=z1Z st r
      generalize encP st r=EP at*
      go_wp2
      go_roundw
      case rel=>
       refine ⟨pos+(Utf8.decode s pos).2,f,acc++EP,hIq,hitq,hbwq,?_,by omega,by simp;omega,by omega⟩
       show (acc++EP)++_=_
       rw [List.append_assoc];exact HA2.out
      case measure=>
       simp only [World.iterPos,hitq]
       have:=HWP.out
       simp only [World.iterPos] at this
       omega
  ·have hnx: ∀ty,(Instr.next (.pointer (some ⟨w.heap.size+1,0,none⟩)) true ty).run Tryz.prog wr=_:=fun ty=>Lib.run_next_end_at wr (w.heap.size+1) s pos ty hit hp
   have hfin:acc=encB st (scal s):=by
    have:=HA.out
    rw [ziG s fuel pos hp] at this
    simpa [encB] using this
   subst hfin
   go_wp2_with fail
   refine (Tryz.Builder_String_any_k w.heap.size w.heap.size _ _ hI (by omega)).mono ?_
   rintro e w1 ⟨rfl,_,b1,_⟩
   go_wp2
   go_ret
   exact ⟨rfl,hbw.trans b1⟩
end
section
open Go.RowKit
theorem ydQ:encB 4 (scal ⟨#[97,32,98]⟩)=[97,37,50,48,98]:=by decide+kernel
theorem z7W:decB [37,50,53,52,49]=[37,52,49]:=by decide+kernel
theorem z5Z (w:World):
  Calls Tryz.prog 285 #[] w fun e w'=>e= .returned (.bool true)∧Below w.heap.size w w':=by
 go_enter Tryz.func285,Tryz.ntmps285
 go_wp2_with fail
 refine (z8W _).mono ?_
 rintro e w1 ⟨rfl,hb⟩
 go_wp2
 go_ret
 exact ⟨rfl,hb⟩
theorem zzC (w:World):
  Calls Tryz.prog 284 #[] w fun e w'=>e= .returned (.bool true)∧Below w.heap.size w w':=by
 go_enter Tryz.func284,Tryz.ntmps284
 go_wp2_with fail
 refine (z5Z _).mono ?_
 rintro e w1 ⟨rfl,hb1⟩
 go_wp2_with fail
 refine (zrA 4 _ _ (by decide) (by decide)).mono ?_
 rintro e w2 ⟨rfl,hb2⟩
 rw [ydQ]
 have hc2:Below w.heap.size w w2:=hb1.trans (hb2.mono hb1.size)
 clear hb1 hb2
 go_wp2_with fail
 refine (zqK _ _ (by decide)).mono ?_
 rintro e w3 ⟨rfl,hb3⟩
 have hd:decB (ByteArray.mk #[37,50,53,52,49]).data.toList=[37,52,49]:=z7W
 rw [hd]
 have hc3:Below w.heap.size w w3:=hc2.trans (hb3.mono hc2.size)
 clear hc2 hb3 hd
 go_wp2
 go_ret
 exact ⟨by first|rfl|exact zaT (by decide),hc3⟩
end
section
open Go.RowKit
def digC (b:Int) (c:UInt8):Bool:=decide (0≤valZ (c.toNat:Int)∧valZ (c.toNat:Int)<b)
def zcD (b:Int) (l:List UInt8):Bool:=l.all (digC b)
def capZ (x:Int):Int:=if 1099511627776<x then 1099511627776 else x
def zzF (b:Int) (n:Int) (c:UInt8):Int:=capZ (n*b+valZ (c.toNat:Int))
def numZ (b:Int) (l:List UInt8):Int:=l.foldl (zzF b) 0
/-- the digits,and the base that stands ahead of them -/
def zgM (l:List UInt8):List UInt8×Int:=
 match l with
 |a::c::r=>if a.toNat=48 then (if c.toNat=120∨c.toNat=88 then (r,16) else (c::r,8)) else (a::c::r,10)
 |_=>(l,10)
def zcP (l:List UInt8):Int×Bool:=
 if l.isEmpty then (0,false) else if zcD (zgM l).2 (zgM l).1 then (numZ (zgM l).2 (zgM l).1,true) else (0,false)
theorem z6F (b:Int) (s:ByteArray) (k:Nat) (h:k<s.size):zcD b (s.data.toList.take (k+1))=(zcD b (s.data.toList.take k)&&digC b s[k]):=by
 rw [zdS s k h];simp [zcD]
theorem z9P (b:Int) (s:ByteArray) (k:Nat) (h:k<s.size):numZ b (s.data.toList.take (k+1))=zzF b (numZ b (s.data.toList.take k)) s[k]:=by
 rw [zdS s k h];simp [numZ]
theorem zwO {b:Int} {c:UInt8} {v:Int} (hv:valZ (c.toNat:Int)=v) (h0:0≤v) (h1:v<b):digC b c=true:=decide_eq_true (by rw [hv];exact ⟨h0,h1⟩)
theorem zgW {b:Int} {c:UInt8} {v:Int} (hv:valZ (c.toNat:Int)=v) (h:v<0∨b≤v):digC b c=false:=decide_eq_false (by rw [hv];omega)
theorem zeV (b:Int) (s:ByteArray) (k:Nat) (h:k<s.size) (hc:digC b s[k]=false):zcD b s.data.toList=false:=by
 unfold zcD
 rw [List.all_eq_false]
 refine ⟨s[k],?_,by rw [hc];simp⟩
 show s.data[k]∈_
 simp
theorem zmR (b:Int) (s:ByteArray) (k:Nat) (h:k<s.size) (hp:zcD b (s.data.toList.take k)=true) (hc:digC b s[k]=true):zcD b (s.data.toList.take (k+1))=true:=by
 rw [z6F b s k h,hp,hc];rfl
theorem zlD (r:Int) (h:128≤r):valZ r= -1:=by
 unfold valZ;(repeat' split)<;>omega
theorem z1C (r:Int):valZ r<16:=by
 unfold valZ;(repeat' split)<;>omega
theorem ylL (x:Int):capZ x≤1099511627776:=by unfold capZ;split<;>omega
theorem ylP {x:Int} (h:1099511627776<x):capZ x=1099511627776:=if_pos h
theorem yjG {x:Int} (h: ¬1099511627776<x):capZ x=x:=if_neg h
theorem ygZ (b n:Int) (c:UInt8) (v:Int) (hv:valZ (c.toNat:Int)=v):zzF b n c=capZ (n*b+v):=by rw [zzF,hv]
theorem zrI (l:List UInt8):(zgM l).2=8∨(zgM l).2=10∨(zgM l).2=16:=by
 unfold zgM
 repeat' split
 all_goals simp
theorem zsY (s:ByteArray) (h:2≤s.size): ∃r,s.data.toList=s[0]::s[1]::r∧s.data.toList.drop 2=r:=by
 refine ⟨s.data.toList.drop 2,?_,rfl⟩
 have e0:s.data.toList=s.data.toList.drop 0:=rfl
 conv=>lhs;rw [e0,List.drop_eq_getElem_cons (by simp;omega),List.drop_eq_getElem_cons (by simp;omega)]
 rfl
theorem z0E (s:ByteArray) (h:s.size<2):zgM s.data.toList=(s.data.toList,10):=by
 have hl:=zaU s
 match hd:s.data.toList,hl with
 |[],_=>rfl
 |[a],_=>rfl
 |a::c::r,hl=>simp at hl;omega
theorem z8C (s:ByteArray) (h:2≤s.size) (h0:s[0].toNat≠48):zgM s.data.toList=(s.data.toList,10):=by
 obtain ⟨r,hr,_⟩:=zsY s h
 rw [hr];simp [zgM,h0]
theorem z8Q (s:ByteArray) (h:2≤s.size) (h0:s[0].toNat=48) (h1:s[1].toNat=120∨s[1].toNat=88):zgM s.data.toList=(s.data.toList.drop 2,16):=by
 obtain ⟨r,hr,h2⟩:=zsY s h
 rw [h2,hr];simp only [zgM,h0,h1,if_true]
theorem z9M (s:ByteArray) (h:2≤s.size) (h0:s[0].toNat=48) (h1: ¬(s[1].toNat=120∨s[1].toNat=88)):zgM s.data.toList=(s.data.toList.drop 1,8):=by
 obtain ⟨r,hr,_⟩:=zsY s h
 rw [hr];simp only [zgM,h0,h1,if_true,if_false];rfl
theorem zrR (s:ByteArray) (a:Nat):s.extract a s.size=⟨(s.data.toList.drop a).toArray⟩:=
 zgX s a s.size _ (List.take_of_length_le (by simp))
def ycQ (w:World) (x:List UInt8×Int) (e:Ending) (w':World):Prop:=e= .returned (.tuple #[.string ⟨x.1.toArray⟩,.int .i64 x.2])∧w=w'
theorem ziW {w:World} {x:List UInt8×Int} {y:ByteArray} {b:Int} {l:List UInt8} (h:x=(l,b)) (hy:y=⟨l.toArray⟩):ycQ w x (.returned (.tuple #[.string y,.int .i64 b])) w:=by
 subst h hy;exact ⟨rfl,rfl⟩
theorem znX (s:ByteArray) (w:World) (hs:s.size≤1073741824):
  Calls Tryz.prog 184 #[.string s] w (ycQ w (zgM s.data.toList)):=by
 by_cases h2:s.size<2
 ·have HR:=Lib.hid (z0E s h2)
  go_enter Tryz.func184,Tryz.ntmps184
  go_wp2
  go_ret2
  exact ziW HR.out (by simp)
 ·have h2':2≤s.size:=by omega
  have l0:0<s.size:=by omega
  have l1:1<s.size:=by omega
  obtain ⟨a,ha⟩: ∃a,s[0].toNat=a:=⟨_,rfl⟩
  obtain ⟨c,hc⟩: ∃a,s[1].toNat=a:=⟨_,rfl⟩
  by_cases h48:a=48
  ·subst h48
   by_cases hx:c=120∨c=88
   ·have HR:=Lib.hid (z8Q s h2' ha (by rw [hc];exact hx))
    rcases hx with rfl|rfl
    all_goals
     go_enter Tryz.func184,Tryz.ntmps184
     go_wp2
     go_ret2
     exact ziW HR.out (zrR s 2)
   ·have HR:=Lib.hid (z9M s h2' ha (by rw [hc];exact hx))
    have b1:((c:Int)==120)=false:=beq_eq_false_iff_ne.2 (by omega)
    have b2:((c:Int)==88)=false:=beq_eq_false_iff_ne.2 (by omega)
    clear hx
    go_enter Tryz.func184,Tryz.ntmps184
    go_wp2
    go_ret2
    exact ziW HR.out (zrR s 1)
  ·have HR:=Lib.hid (z8C s h2' (by rw [ha];exact h48))
   have b1:((a:Int) !=48)=true:=by rw [bne_iff_ne];omega
   go_enter Tryz.func184,Tryz.ntmps184
   go_wp2
   go_ret2
   exact ziW HR.out (by simp)
def z7V (w:World) (x:Int×Bool) (e:Ending) (w':World):Prop:=e= .returned (.tuple #[.int .u64 x.1,.bool x.2])∧Below w.heap.size w w'
theorem ziK {w w':World} {x:Int×Bool} {n:Int} {b:Bool} (h:x=(n,b)) (hb:Below w.heap.size w w'):z7V w x (.returned (.tuple #[.int .u64 n,.bool b])) w':=by
 subst h;exact ⟨rfl,hb⟩
end
section
open Go.RowKit
theorem z9A (l:List UInt8) (r:List UInt8) (b:Int) (h:zgM l=(r,b)) (hd:zcD b r=false):zcP l=(0,false):=by
 unfold zcP
 rw [h,hd]
 split<;>rfl
theorem z5F (l:List UInt8) (r:List UInt8) (b:Int) (h:zgM l=(r,b)) (hn:l≠[]) (hd:zcD b r=true):zcP l=(numZ b r,true):=by
 unfold zcP
 rw [h,hd]
 cases l with
 |nil=>exact absurd rfl hn
 |cons a t=>rfl
theorem z0K (s:ByteArray) (h:s.size=0):s.data.toList=[]:=List.length_eq_zero_iff.1 (by rw [zaU];exact h)
theorem zgY (s:ByteArray) (h:s.size≠0):s.data.toList≠[]:=fun e=>h (by rw [←zaU,e];rfl)
theorem z8A (s:ByteArray):ByteArray.mk s.data.toList.toArray=s:=by simp
theorem zaW (l:List UInt8):(ByteArray.mk l.toArray).data.toList=l:=by simp
theorem zdX (s:ByteArray) (h:s.size=0):s=⟨#[]⟩:=by
 apply ByteArray.ext
 apply Array.ext'
 exact z0K s h
theorem zeC (s:ByteArray) (h:s.size≠0):s.toList.isEmpty=false:=by
 rw [ByteArray.toList_eq]
 cases hd:s.data.toList with
 |nil=>exact absurd hd (zgY s h)
 |cons a l=>rfl
theorem z5R (s:ByteArray) (d:ByteArray) (b:Int) (w:World) (hs:s.size≤1073741824) (hn:s.size≠0) (hb:b=8∨b=10∨b=16) (hr:zgM s.data.toList=(d.data.toList,b)):
  Calls Tryz.prog 152 #[.string s] w (z7V w (zcP s.data.toList)):=by
 have HR:=Lib.hid hr
 have HNO:=Lib.hid (z9A s.data.toList _ b hr)
 have HYES:=Lib.hid (z5F s.data.toList _ b hr (zgY s hn))
 have hse:=zeC s hn
 clear hr hn
 have hb1:8≤b:=by omega
 have hb2:b≤16:=by omega
 clear hb
 go_enter Tryz.func152,Tryz.ntmps152
 go_wp2_with fail
 refine (znX s _ hs).mono ?_
 rw [HR.out]
 rintro e w' ⟨rfl,rfl⟩
 simp only [z8A]
 go_wp2
 go_loopw [6] (fun n wr=> ∃(k:Nat) (A:Int),n= .int .u64 A∧0≤A∧A≤1099511627776∧k≤d.size∧wr.heap[w.heap.size]? =some (.stringIter d k)∧Below w.heap.size w wr∧w.heap.size+1≤wr.heap.size∧Hid (A=numZ b (d.data.toList.take k))∧Hid (zcD b (d.data.toList.take k)=true)) (fun _ wr=>d.size - wr.iterPos w.heap.size)
 case atStart=>exact ⟨0,0,rfl,by omega,by omega,Nat.zero_le _,World.iter_heap w d 0,(Below.refl _ w).alloc (Nat.le_refl _) _,by simp [World.iter],rfl,rfl⟩
 case round=>
  obtain ⟨k,A,rfl,hA0,hA1,hk,hit,hbw,hsz,HA,HDG⟩:=hrel
  by_cases hp:k<d.size
  ·obtain ⟨c,hc⟩: ∃c,(d[k]'hp).toNat=c:=⟨_,rfl⟩
   have hnx: ∀ty,(Instr.next (.pointer (some ⟨w.heap.size,0,none⟩)) true ty).run Tryz.prog wr=_:=fun ty=>Lib.run_next_any_at wr w.heap.size d k ty hit hp
   by_cases hc128:c<128
   ·have hdec:=decode_ascii d k hp (by omega)
    rw [hc] at hdec
    rw [hdec] at hnx
    have hit2:=Lib.iterAt_heap wr w.heap.size d k (k+1) hit
    have hbw2:=Lib.below_iterAt hbw (k:=w.heap.size) (Nat.le_refl _) d (k+1)
    have hsz2:w.heap.size+1≤(wr.iterAt w.heap.size d (k+1)).heap.size:=by rw [Lib.iterAt_size];exact hsz
    simp only at hnx
    generalize wr.iterAt w.heap.size d (k+1)=wi at*
    obtain ⟨v,hv⟩: ∃v,valZ (c:Int)=v:=⟨_,rfl⟩
    have hv16:v<16:=by rw [←hv];exact z1C _
    have HV:Hid (valZ (d[k].toNat:Int)=v):=by show valZ (d[k].toNat:Int)=v;rw [hc];exact hv
    have HIT:=Lib.hid hit
    have HC:=Lib.hid hc
    clear hit hc hdec
    by_cases h0:v<0
    ·have HF:=Lib.hid (HNO.out (zeV b d k hp (zgW HV.out (.inl h0))))
     go_wp2_with (go_at_call 166;refine (zcJ _ _).mono ?_;rintro e w' ⟨rfl,rfl⟩)
     go_ret2
     exact ziK HF.out hbw2
    ·by_cases h1:b≤v
     ·have HF:=Lib.hid (HNO.out (zeV b d k hp (zgW HV.out (.inr h1))))
      go_wp2_with (go_at_call 166;refine (zcJ _ _).mono ?_;rintro e w' ⟨rfl,rfl⟩)
      go_ret2
      exact ziK HF.out hbw2
     ·have HF:=Lib.hid (zmR b d k hp HDG.out (zwO HV.out (by omega) (by omega)))
      have hsn:=z9P b d k hp
      rw [←HA.out,ygZ _ _ _ v HV.out] at hsn
      have HSN:=Lib.hid hsn
      clear hsn
      have hP0:0≤A*b:=Int.mul_nonneg hA0 (by omega)
      have hP1:A*b≤1099511627776*16:=Int.mul_le_mul hA1 hb2 (by omega) (by omega)
      by_cases ht:1099511627776<A*b+v
      ·have HC2:=Lib.hid (HSN.out.trans (ylP ht))
       go_wp2_with (go_at_call 166;refine (zcJ _ _).mono ?_;rintro e w' ⟨rfl,rfl⟩)
       go_roundw
       case rel=>exact ⟨k+1,1099511627776,rfl,by omega,by omega,by omega,hit2,hbw2,hsz2,HC2.out.symm,HF⟩
       case measure=>
        simp only [World.iterPos,hit2,HIT.out]
        omega
      ·have HC2:=Lib.hid (HSN.out.trans (yjG ht))
       go_wp2_with (go_at_call 166;refine (zcJ _ _).mono ?_;rintro e w' ⟨rfl,rfl⟩)
       go_roundw
       case rel=>exact ⟨k+1,_,rfl,by omega,by omega,by omega,hit2,hbw2,hsz2,HC2.out.symm,HF⟩
       case measure=>
        simp only [World.iterPos,hit2,HIT.out]
        omega
   ·have hh:=decode_high d k hp (by omega)
    obtain ⟨r,hr⟩: ∃r,(Utf8.decode d k).1=r:=⟨_,rfl⟩
    obtain ⟨wd,hwd⟩: ∃r,(Utf8.decode d k).2=r:=⟨_,rfl⟩
    have hrl:=decode_le d k
    rw [hr,hwd] at hnx
    rw [hr,hwd] at hh
    rw [hr] at hrl
    have hbw2:=Lib.below_iterAt hbw (k:=w.heap.size) (Nat.le_refl _) d (k+wd)
    generalize wr.iterAt w.heap.size d (k+wd)=wi at*
    have hv:valZ (r:Int)= -1:=zlD _ (by omega)
    have HF:=Lib.hid (HNO.out (zeV b d k hp (zgW (zlD _ (by omega)) (.inl (by omega)))))
    clear hc hr hwd
    go_wp2_with (go_at_call 166;refine (zcJ _ _).mono ?_;rintro e w' ⟨rfl,rfl⟩)
    go_ret2
    exact ziK HF.out hbw2
  ·have hnx: ∀ty,(Instr.next (.pointer (some ⟨w.heap.size,0,none⟩)) true ty).run Tryz.prog wr=_:=fun ty=>Lib.run_next_end_at wr w.heap.size d k ty hit hp
   have hdt:=HDG.out
   rw [zeG d k hp] at hdt
   have hat:=HA.out
   rw [zeG d k hp] at hat
   have HF:=Lib.hid (HYES.out hdt)
   have HAT:=Lib.hid hat
   clear hdt hat
   go_wp2
   go_ret2
   exact ziK (by rw [HF.out,HAT.out]) hbw
theorem zfM (s:ByteArray) (w:World) (hs:s.size≤1073741824):
  Calls Tryz.prog 152 #[.string s] w (z7V w (zcP s.data.toList)):=by
 by_cases hn:s.size=0
 ·obtain rfl:=zdX s hn
  clear hn hs
  have HF:Hid (zcP (ByteArray.mk #[]).data.toList=(0,false)):=rfl
  go_enter Tryz.func152,Tryz.ntmps152
  go_wp2
  go_ret2
  exact ziK HF.out (Below.refl _ _)
 ·obtain ⟨⟨r,b⟩,hr⟩: ∃x,zgM s.data.toList=x:=⟨_,rfl⟩
  have hb:=zrI s.data.toList
  rw [hr] at hb
  exact z5R s ⟨r.toArray⟩ b w hs hn hb (by rw [zaW];exact hr)
end
section
open Go.RowKit
def decN (l:List UInt8):Int:=l.foldl (fun n c=>n*10+valZ (c.toNat:Int)) 0
def decZ (l:List UInt8) (m:Int):Int×Bool:=
 if (l.isEmpty||(decide (1<l.length)&&decide ((l.getD 0 0).toNat=48))|| !zcD 10 l)=true then (0,false) else if m<decN l then (0,false) else (decN l,true)
theorem z9U (s:ByteArray) (k:Nat) (h:k<s.size):decN (s.data.toList.take (k+1))=decN (s.data.toList.take k)*10+valZ (s[k].toNat:Int):=by
 rw [zdS s k h];simp [decN]
theorem zxL (l:List UInt8): ∀a:Int,0≤a→zcD 10 l=true→a≤l.foldl (fun n c=>n*10+valZ (c.toNat:Int)) a:=by
 induction l with
 |nil=>intro a _ _;exact Int.le_refl _
 |cons c l ih=>
  intro a ha hd
  have h1:digC 10 c=true∧zcD 10 l=true:=by simpa [zcD] using hd
  have h2:=of_decide_eq_true h1.1
  have:=ih (a*10+valZ (c.toNat:Int)) (by omega) h1.2
  exact Int.le_trans (by omega) this
theorem znF (l:List UInt8) (hd:zcD 10 l=true):0≤decN l:=zxL l 0 (Int.le_refl _) hd
theorem z5G (b:Int) (l:List UInt8) (k:Nat):zcD b l=(zcD b (l.take k)&&zcD b (l.drop k)):=by
 unfold zcD
 rw [←List.all_append,List.take_append_drop]
theorem zmE (l:List UInt8) (k:Nat) (hd:zcD 10 l=true):decN (l.take k)≤decN l:=by
 have h:=z5G 10 l k
 rw [hd] at h
 have h2:zcD 10 (l.take k)=true∧zcD 10 (l.drop k)=true:=by simpa using h.symm
 have e:decN l=(l.drop k).foldl (fun n c=>n*10+valZ (c.toNat:Int)) (decN (l.take k)):=by
  unfold decN
  rw [←List.foldl_append,List.take_append_drop]
 rw [e]
 exact zxL _ _ (znF _ h2.1) h2.2
theorem zuZ (l:List UInt8) (m:Int) (h:l=[]∨(1<l.length∧(l.getD 0 0).toNat=48)):decZ l m=(0,false):=by
 unfold decZ
 rw [if_pos]
 rcases h with rfl|⟨h1,h2⟩
 ·rfl
 ·rw [decide_eq_true h1,decide_eq_true h2];simp
theorem z2I (l:List UInt8) (m:Int) (h:zcD 10 l=false):decZ l m=(0,false):=by
 unfold decZ
 rw [if_pos (by rw [h];simp)]
theorem yiE (l:List UInt8) (m:Int) (k:Nat) (h:m<decN (l.take k)):decZ l m=(0,false):=by
 by_cases hd:zcD 10 l=true
 ·unfold decZ
  split
  ·rfl
  ·rw [if_pos]
   have:=zmE l k hd
   omega
 ·exact z2I l m (by simpa using hd)
theorem yhB (l:List UInt8) (m:Int) (h0:l≠[]) (h1: ¬(1<l.length∧(l.getD 0 0).toNat=48)) (hd:zcD 10 l=true) (hm:decN l≤m):decZ l m=(decN l,true):=by
 unfold decZ
 rw [if_neg,if_neg (by omega)]
 rw [hd]
 cases l with
 |nil=>exact absurd rfl h0
 |cons a r=>
  by_cases e1:1<(a::r).length
  ·rw [decide_eq_true e1,decide_eq_false (fun e=>h1 ⟨e1,e⟩)];simp
  ·rw [decide_eq_false e1];simp
theorem zxR (s:ByteArray) (h:0<s.size):(s.data.toList.getD 0 0).toNat=s[0].toNat:=by
 rw [List.getD,zeT s 0 h];rfl
theorem z5T (r:Int):zbV r=decide (0≤valZ r∧valZ r<10):=by
 unfold zbV valZ
 by_cases h:48≤r∧r≤57
 ·rw [if_pos h,decide_eq_true h,decide_eq_true (by omega)]
 ·rw [if_neg h,decide_eq_false h]
  refine (decide_eq_false ?_).symm
  repeat' split
  all_goals omega
theorem zjK (c:UInt8):digC 10 c=zbV (c.toNat:Int):=(z5T _).symm
theorem zxF {r:Int} (h:zbV r=true):48≤r∧r≤57:=of_decide_eq_true h
theorem zqL {r:Int} (h1:48≤r) (h2:r≤57):valZ r=r - 48:=if_pos ⟨h1,h2⟩
theorem zhN (r:Int) (h:128≤r):zbV r=false:=decide_eq_false (by omega)
def z9X (w:World) (x:Int×Bool) (e:Ending) (w':World):Prop:=e= .returned (.tuple #[.int .i64 x.1,.bool x.2])∧Below w.heap.size w w'
theorem zfD {w w':World} {x:Int×Bool} {n:Int} {b:Bool} (h:x=(n,b)) (hb:Below w.heap.size w w'):z9X w x (.returned (.tuple #[.int .i64 n,.bool b])) w':=by
 subst h;exact ⟨rfl,hb⟩
theorem zxC (s:ByteArray) (m:Int) (w:World) (hs:s.size≤1073741824) (hm:m≤9223372036854775807) (hm0: -9223372036854775808≤m) (hn:1≤s.size) (hz: ¬(1<s.size∧s[0].toNat=48)):
  Calls Tryz.prog 217 #[.string s,.int .i64 m] w (z9X w (decZ s.data.toList m)):=by
 have HNO:=Lib.hid (z2I s.data.toList m)
 have HBIG:=Lib.hid (yiE s.data.toList m)
 have HYES:=Lib.hid (yhB s.data.toList m (zgY s (by omega)) (by rw [zaU,zxR s (by omega)];exact hz))
 have hse:=zeC s (by omega)
 have l0:0<s.size:=by omega
 obtain ⟨a,ha⟩: ∃a,s[0].toNat=a:=⟨_,rfl⟩
 rw [ha] at hz
 rcases (show s.size≤1∨(1<s.size∧((a:Int)==48)=false) from by
   by_cases h1:1<s.size
   ·exact .inr ⟨h1,beq_eq_false_iff_ne.2 (fun e=>hz ⟨h1,by omega⟩)⟩
   ·exact .inl (by omega)) with h1|⟨h1,hb1⟩
 all_goals
  clear hz
  go_enter Tryz.func217,Tryz.ntmps217
  go_wp2
  go_loopw [6] (fun n wr=> ∃(k:Nat) (A:Int),n= .int .i64 A∧0≤A∧(A=0∨A≤m)∧k≤s.size∧wr.heap[w.heap.size]? =some (.stringIter s k)∧Below w.heap.size w wr∧w.heap.size+1≤wr.heap.size∧Hid (A=decN (s.data.toList.take k))∧Hid (zcD 10 (s.data.toList.take k)=true)∧Hid (1≤k→A≤m)) (fun _ wr=>s.size - wr.iterPos w.heap.size)
  case atStart=>exact ⟨0,0,rfl,by omega,.inl rfl,Nat.zero_le _,World.iter_heap w s 0,(Below.refl _ w).alloc (Nat.le_refl _) _,by simp [World.iter],rfl,rfl,fun h=>absurd h (by omega)⟩
  case round=>
   obtain ⟨k,A,rfl,hA0,hA1,hk,hit,hbw,hsz,HA,HDG,HK⟩:=hrel
   have hA2:A≤9223372036854775807:=by omega
   clear hA1
   by_cases hp:k<s.size
   ·obtain ⟨c,hc⟩: ∃c,(s[k]'hp).toNat=c:=⟨_,rfl⟩
    have hnx: ∀ty,(Instr.next (.pointer (some ⟨w.heap.size,0,none⟩)) true ty).run Tryz.prog wr=_:=fun ty=>Lib.run_next_any_at wr w.heap.size s k ty hit hp
    by_cases hc128:c<128
    ·have hdec:=decode_ascii s k hp (by omega)
     rw [hc] at hdec
     rw [hdec] at hnx
     have hit2:=Lib.iterAt_heap wr w.heap.size s k (k+1) hit
     have hbw2:=Lib.below_iterAt hbw (k:=w.heap.size) (Nat.le_refl _) s (k+1)
     have hsz2:w.heap.size+1≤(wr.iterAt w.heap.size s (k+1)).heap.size:=by rw [Lib.iterAt_size];exact hsz
     simp only at hnx
     generalize wr.iterAt w.heap.size s (k+1)=wi at*
     have HIT:=Lib.hid hit
     have HC:=Lib.hid hc
     clear hit hc hdec
     cases hdg:zbV (c:Int) with
     |false=>
      have HF:=Lib.hid (HNO.out (zeV 10 s k hp (by rw [zjK,HC.out];exact hdg)))
      go_wp2_with (go_at_call 70;refine (zdA _ _).mono ?_;rintro e w' ⟨rfl,rfl⟩)
      go_ret2
      exact zfD HF.out hbw2
     |true=>
      obtain ⟨hc1,hc2⟩:=zxF hdg
      have hv:valZ (c:Int)=(c:Int) - 48:=zqL hc1 hc2
      have HF:=Lib.hid (zmR 10 s k hp HDG.out (by rw [zjK,HC.out];exact hdg))
      have hsn:=z9U s k hp
      rw [←HA.out,HC.out,hv] at hsn
      have HSN:=Lib.hid hsn
      clear hsn
      obtain ⟨v,hvv⟩: ∃v:Int,(c:Int) - 48=v:=⟨_,rfl⟩
      have hv0:0≤v:=by omega
      have hv9:v≤9:=by omega
      rw [hvv] at hv
      have HVV:=Lib.hid hvv
      clear hvv
      by_cases hg:m<A*10+v
      ·have HB:=Lib.hid (HBIG.out (k+1) (by rw [HSN.out,HVV.out];exact hg))
       by_cases hg1:m<v
       ·go_wp2_with (first|(go_at_call 70;refine (zdA _ _).mono ?_;rintro e w' ⟨rfl,rfl⟩)|(go_at_call 166;refine (zcJ _ _).mono ?_;rintro e w' ⟨rfl,rfl⟩))
        go_ret2
        exact zfD HB.out hbw2
       ·have hg2:(m - v)/10<A:=by omega
        go_wp2_with (first|(go_at_call 70;refine (zdA _ _).mono ?_;rintro e w' ⟨rfl,rfl⟩)|(go_at_call 166;refine (zcJ _ _).mono ?_;rintro e w' ⟨rfl,rfl⟩))
        go_ret2
        exact zfD HB.out hbw2
      ·have hg1: ¬m<v:=by omega
       have hg2: ¬(m - v)/10<A:=by omega
       go_wp2_with (first|(go_at_call 70;refine (zdA _ _).mono ?_;rintro e w' ⟨rfl,rfl⟩)|(go_at_call 166;refine (zcJ _ _).mono ?_;rintro e w' ⟨rfl,rfl⟩))
       go_roundw
       case rel=>exact ⟨k+1,A*10+v,rfl,by omega,by omega,by omega,hit2,hbw2,hsz2,(by show _=_;rw [HSN.out,HVV.out]),HF,fun _=>by omega⟩
       case measure=>
        simp only [World.iterPos,hit2,HIT.out]
        omega
    ·have hh:=decode_high s k hp (by omega)
     obtain ⟨r,hr⟩: ∃r,(Utf8.decode s k).1=r:=⟨_,rfl⟩
     obtain ⟨wd,hwd⟩: ∃r,(Utf8.decode s k).2=r:=⟨_,rfl⟩
     have hrl:=decode_le s k
     rw [hr,hwd] at hnx
     rw [hr,hwd] at hh
     rw [hr] at hrl
     have hbw2:=Lib.below_iterAt hbw (k:=w.heap.size) (Nat.le_refl _) s (k+wd)
     generalize wr.iterAt w.heap.size s (k+wd)=wi at*
     have hv:zbV (r:Int)=false:=zhN _ (by omega)
     have HF:=Lib.hid (HNO.out (zeV 10 s k hp (by rw [zjK];exact zhN _ (by omega))))
     clear hc hr hwd
     go_wp2_with (go_at_call 70;refine (zdA _ _).mono ?_;rintro e w' ⟨rfl,rfl⟩)
     go_ret2
     exact zfD HF.out hbw2
   ·have hnx: ∀ty,(Instr.next (.pointer (some ⟨w.heap.size,0,none⟩)) true ty).run Tryz.prog wr=_:=fun ty=>Lib.run_next_end_at wr w.heap.size s k ty hit hp
    have hdt:=HDG.out
    rw [zeG s k hp] at hdt
    have hat:=HA.out
    rw [zeG s k hp] at hat
    have HF:=Lib.hid (HYES.out hdt (by rw [←hat];exact HK.out (by omega)))
    have HAT:=Lib.hid hat
    clear hdt hat
    go_wp2
    go_ret2
    exact zfD (by rw [HF.out,HAT.out]) hbw
theorem zcO (s:ByteArray) (m:Int) (w:World) (hs:s.size≤1073741824) (hm:m≤9223372036854775807) (hm0: -9223372036854775808≤m):
  Calls Tryz.prog 217 #[.string s,.int .i64 m] w (z9X w (decZ s.data.toList m)):=by
 by_cases hn:s.size=0
 ·obtain rfl:=zdX s hn
  have HF:=Lib.hid (zuZ (ByteArray.mk #[]).data.toList m (.inl rfl))
  clear hn hs
  go_enter Tryz.func217,Tryz.ntmps217
  go_wp2
  go_ret2
  exact zfD HF.out (Below.refl _ _)
 ·by_cases hz:1<s.size∧s[0].toNat=48
  ·obtain ⟨h1,h0⟩:=hz
   have HF:=Lib.hid (zuZ s.data.toList m (.inr ⟨by rw [zaU];exact h1,by rw [zxR s (by omega)];exact h0⟩))
   have hse:=zeC s hn
   have l0:0<s.size:=by omega
   go_enter Tryz.func217,Tryz.ntmps217
   go_wp2
   go_ret2
   exact zfD HF.out (Below.refl _ _)
  ·exact zxC s m w hs hm hm0 (by omega) hz
end
section
open Go.RowKit
def zfL (l:List UInt8):Bool:= !l.isEmpty&&zcD 10 l
theorem ybM {l:List UInt8} (h:zcD 10 l=false):zfL l=false:=by unfold zfL;rw [h];simp
theorem z4T {s:ByteArray} (hn:s.size≠0) (h:zcD 10 s.data.toList=true):zfL s.data.toList=true:=by
 unfold zfL;rw [h]
 cases hd:s.data.toList with
 |nil=>exact absurd hd (zgY s hn)
 |cons a l=>rfl
def zcN (w:World) (b:Bool) (e:Ending) (w':World):Prop:=e= .returned (.bool b)∧Below w.heap.size w w'
theorem zaO {w w':World} {x b:Bool} (h:x=b) (hb:Below w.heap.size w w'):zcN w x (.returned (.bool b)) w':=by
 subst h;exact ⟨rfl,hb⟩
theorem zgU (s:ByteArray) (w:World) (hs:s.size≤1073741824):
  Calls Tryz.prog 151 #[.string s] w (zcN w (zfL s.data.toList)):=by
 by_cases hn:s.size=0
 ·obtain rfl:=zdX s hn
  have HF:Hid (zfL (ByteArray.mk #[]).data.toList=false):=rfl
  clear hn hs
  go_enter Tryz.func151,Tryz.ntmps151
  go_wp2
  go_loopw [] (fun wr=>wr.heap[w.heap.size]? =some (.stringIter ⟨#[]⟩ 0)∧Below w.heap.size w wr) (fun _=>0)
  case atStart=>exact ⟨World.iter_heap w ⟨#[]⟩ 0,(Below.refl _ w).alloc (Nat.le_refl _) _⟩
  case round=>
   obtain ⟨hit,hbw⟩:=hrel
   have hnx: ∀ty,(Instr.next (.pointer (some ⟨w.heap.size,0,none⟩)) true ty).run Tryz.prog wr=_:=fun ty=>Lib.run_next_end_at wr w.heap.size ⟨#[]⟩ 0 ty hit (by decide)
   go_wp2
   go_ret
   exact zaO HF.out hbw
 ·have HNO:=Lib.hid (ybM (l:=s.data.toList))
  have HYES:=Lib.hid (z4T hn)
  have hse:=zeC s hn
  clear hn
  go_enter Tryz.func151,Tryz.ntmps151
  go_wp2
  go_loopw [] (fun wr=> ∃(k:Nat),k≤s.size∧wr.heap[w.heap.size]? =some (.stringIter s k)∧Below w.heap.size w wr∧w.heap.size+1≤wr.heap.size∧Hid (zcD 10 (s.data.toList.take k)=true)) (fun wr=>s.size - wr.iterPos w.heap.size)
  case atStart=>exact ⟨0,Nat.zero_le _,World.iter_heap w s 0,(Below.refl _ w).alloc (Nat.le_refl _) _,by simp [World.iter],rfl⟩
  case round=>
   obtain ⟨k,hk,hit,hbw,hsz,HDG⟩:=hrel
   by_cases hp:k<s.size
   ·obtain ⟨c,hc⟩: ∃c,(s[k]'hp).toNat=c:=⟨_,rfl⟩
    have hnx: ∀ty,(Instr.next (.pointer (some ⟨w.heap.size,0,none⟩)) true ty).run Tryz.prog wr=_:=fun ty=>Lib.run_next_any_at wr w.heap.size s k ty hit hp
    by_cases hc128:c<128
    ·have hdec:=decode_ascii s k hp (by omega)
     rw [hc] at hdec
     rw [hdec] at hnx
     have hit2:=Lib.iterAt_heap wr w.heap.size s k (k+1) hit
     have hbw2:=Lib.below_iterAt hbw (k:=w.heap.size) (Nat.le_refl _) s (k+1)
     have hsz2:w.heap.size+1≤(wr.iterAt w.heap.size s (k+1)).heap.size:=by rw [Lib.iterAt_size];exact hsz
     simp only at hnx
     generalize wr.iterAt w.heap.size s (k+1)=wi at*
     have HIT:=Lib.hid hit
     have HC:=Lib.hid hc
     clear hit hc hdec
     cases hdg:zbV (c:Int) with
     |false=>
      have HF:=Lib.hid (HNO.out (zeV 10 s k hp (by rw [zjK,HC.out];exact hdg)))
      go_wp2_with (go_at_call 70;refine (zdA _ _).mono ?_;rintro e w' ⟨rfl,rfl⟩)
      go_ret
      exact zaO HF.out hbw2
     |true=>
      have HF:=Lib.hid (zmR 10 s k hp HDG.out (by rw [zjK,HC.out];exact hdg))
      go_wp2_with (go_at_call 70;refine (zdA _ _).mono ?_;rintro e w' ⟨rfl,rfl⟩)
      go_roundw
      case rel=>exact ⟨k+1,by omega,hit2,hbw2,hsz2,HF⟩
      case measure=>
       simp only [World.iterPos,hit2,HIT.out]
       omega
    ·have hh:=decode_high s k hp (by omega)
     obtain ⟨r,hr⟩: ∃r,(Utf8.decode s k).1=r:=⟨_,rfl⟩
     obtain ⟨wd,hwd⟩: ∃r,(Utf8.decode s k).2=r:=⟨_,rfl⟩
     have hrl:=decode_le s k
     rw [hr,hwd] at hnx
     rw [hr,hwd] at hh
     rw [hr] at hrl
     have hbw2:=Lib.below_iterAt hbw (k:=w.heap.size) (Nat.le_refl _) s (k+wd)
     generalize wr.iterAt w.heap.size s (k+wd)=wi at*
     have hv:zbV (r:Int)=false:=zhN _ (by omega)
     have HF:=Lib.hid (HNO.out (zeV 10 s k hp (by rw [zjK];exact zhN _ (by omega))))
     clear hc hr hwd
     go_wp2_with (go_at_call 70;refine (zdA _ _).mono ?_;rintro e w' ⟨rfl,rfl⟩)
     go_ret
     exact zaO HF.out hbw2
   ·have hnx: ∀ty,(Instr.next (.pointer (some ⟨w.heap.size,0,none⟩)) true ty).run Tryz.prog wr=_:=fun ty=>Lib.run_next_end_at wr w.heap.size s k ty hit hp
    have hdt:=HDG.out
    rw [zeG s k hp] at hdt
    have HF:=Lib.hid (HYES.out hdt)
    clear hdt
    go_wp2
    go_ret
    exact zaO HF.out hbw
end
section
open Go.RowKit
def zkX (ps:List (List UInt8)):List UInt8:=
 if 1<ps.length∧ps.getD (ps.length - 1) []=[] then ps.getD (ps.length - 2) [] else ps.getD (ps.length - 1) []
def zaQ (l:List UInt8):List (List UInt8):=splitB (hasB [46]) l
def zuV (x:List UInt8):Bool:=zfL x||(zcP x).2
def zhD (l:List UInt8):Bool:=zuV (zkX (zaQ l))
theorem yeX (p:UInt8→Bool) (l:List UInt8): ∀st:List (List UInt8)×List UInt8,(∀x∈(l.foldl (zaR p) st).1,x∈st.1∨x.length≤st.2.length+l.length)∧(l.foldl (zaR p) st).2.length≤st.2.length+l.length:=by
 induction l with
 |nil=>intro st;exact ⟨fun x hx=> .inl hx,by simp⟩
 |cons c l ih=>
  intro st
  simp only [List.foldl_cons,List.length_cons]
  have h:=ih (zaR p st c)
  by_cases hp:p c=true
  ·have e:zaR p st c=(st.1++[st.2],[]):=by simp [zaR,hp]
   rw [e] at h ⊢
   refine ⟨fun x hx=> ?_,by have:=h.2;simp at this;omega⟩
   rcases h.1 x hx with h1|h1
   ·simp at h1
    rcases h1 with h1|h1
    ·exact .inl h1
    ·subst h1;exact .inr (by omega)
   ·simp at h1;exact .inr (by omega)
  ·have e:zaR p st c=(st.1,st.2++[c]):=by simp [zaR,hp]
   rw [e] at h ⊢
   refine ⟨fun x hx=> ?_,by have:=h.2;simp at this;omega⟩
   rcases h.1 x hx with h1|h1
   ·exact .inl h1
   ·simp at h1;exact .inr (by omega)
theorem yeT (p:UInt8→Bool) (l x:List UInt8) (h:x∈splitB p l):x.length≤l.length:=by
 have k:=yeX p l ([],[])
 unfold splitB at h
 rcases List.mem_append.1 h with h|h
 ·rcases k.1 x h with h|h
  ·simp at h
  ·simpa using h
 ·simp at h
  subst h
  exact Nat.le_trans k.2 (by simp)
theorem ziT (p:UInt8→Bool) (l:List UInt8) (j:Nat):((splitB p l).getD j []).length≤l.length:=by
 by_cases h:j<(splitB p l).length
 ·refine yeT p l _ ?_
  rw [List.getD,List.getElem?_eq_getElem h]
  exact List.getElem_mem h
 ·rw [List.getD,List.getElem?_eq_none (by omega)]
  simp
/-- what number.Ends reads of the parts -/
theorem zuR (n:Nat) (x:List UInt8) (ps:List (List UInt8)) (h:ps.length=n+1) (hx:ps.getD n []=x) (hc:n=0∨x≠[]):zkX ps=x:=by
 unfold zkX
 rw [h,Nat.add_sub_cancel,hx,if_neg]
 rintro ⟨h1,h2⟩
 rcases hc with h3|h3
 ·omega
 ·exact h3 h2
theorem zzW (n:Nat) (y:List UInt8) (ps:List (List UInt8)) (h:ps.length=n+2) (hx:ps.getD (n+1) []=[]) (hy:ps.getD n []=y):zkX ps=y:=by
 unfold zkX
 rw [h,show n+2 - 1=n+1 from rfl,hx,if_pos ⟨by omega,rfl⟩,show n+2 - 2=n from rfl,hy]
theorem zeU {x:List UInt8} (h:x≠[]):x.isEmpty=false:=by cases x with|nil=>exact absurd rfl h|cons a l=>rfl
/-- the last part's ways:its digits alone,or a number -/
theorem zjN {x:List UInt8} (h:zfL x=true):zuV x=true:=by unfold zuV;rw [h];rfl
theorem zjQ {x:List UInt8} {b:Bool} (h:zfL x=false) (hb:(zcP x).2=b):zuV x=b:=by unfold zuV;rw [h,hb];rfl
end
section
open Go.RowKit
theorem yiG (s:ByteArray) (w:World) (hs:s.size≤1073741824) (x:List UInt8) (hl:(zaQ s.data.toList).length=1) (hx:(zaQ s.data.toList).getD 0 []=x):
  Calls Tryz.prog 99 #[.string s] w (zcN w (zhD s.data.toList)):=by
 have hxl:x.length≤s.size:=by rw [←hx,←zaU];exact ziT _ _ _
 have HE0:=Lib.hid (show zhD s.data.toList=zuV x from by unfold zhD;rw [zuR 0 x _ hl hx (.inl rfl)])
 have HL:=Lib.hid hl
 have HX:=Lib.hid hx
 clear hl hx
 go_enter Tryz.func99,Tryz.ntmps99
 go_wp2_with fail
 refine (zdV s _ _ hs).mono ?_
 rintro e w1 ⟨v,rfl,hp,hb1⟩
 have hp':zbA w.heap.size w1 v (zaQ s.data.toList):=hp
 obtain ⟨g,cap,rfl,hg,hcell⟩:=hp'.form (by rw [HL.out];omega)
 rw [HL.out]
 rw [HL.out] at hcell
 have hcx:=hcell 0 (by omega)
 rw [HX.out] at hcx
 clear hcell hp hp'
 by_cases haz:zfL x=true
 -- digits alone
 ·have HE:=Lib.hid (HE0.out.trans (zjN haz))
  have HAZ:=Lib.hid haz
  clear haz
  go_wp2_with fail
  refine (zgU ⟨x.toArray⟩ _ (by rw [zaJ];omega)).mono ?_
  rw [zaW,HAZ.out]
  rintro e w2 ⟨rfl,hb2⟩
  have hc2:Below w.heap.size w w2:=hb1.trans (hb2.mono hb1.size)
  clear hb1 hb2
  go_wp2
  go_ret
  exact zaO HE.out hc2
 ·have haf:zfL x=false:=by simpa using haz
  have HE:=Lib.hid (HE0.out.trans (zjQ haf rfl))
  have HAZ:=Lib.hid haf
  clear haz haf
  go_wp2_with fail
  refine (zgU ⟨x.toArray⟩ _ (by rw [zaJ];omega)).mono ?_
  rw [zaW,HAZ.out]
  rintro e w2 ⟨rfl,hb2⟩
  have hc2:Below w.heap.size w w2:=hb1.trans (hb2.mono hb1.size)
  have hcx2:=(hb2.cell (p:=⟨g,0,none⟩) hg).trans hcx
  clear hb1 hb2 hcx
  go_wp2_with fail
  refine (zfM ⟨x.toArray⟩ _ (by rw [zaJ];omega)).mono ?_
  rw [zaW]
  rintro e w3 ⟨rfl,hb3⟩
  have hc3:Below w.heap.size w w3:=hc2.trans (hb3.mono hc2.size)
  clear hc2 hb3 hcx2
  go_wp2
  go_ret
  exact zaO HE.out hc3
theorem z5U (s:ByteArray) (w:World) (hs:s.size≤1073741824) (n:Nat) (x:List UInt8) (hl:(zaQ s.data.toList).length=n+2) (hx:(zaQ s.data.toList).getD (n+1) []=x) (hne:x≠[]):
  Calls Tryz.prog 99 #[.string s] w (zcN w (zhD s.data.toList)):=by
 have hxl:x.length≤s.size:=by rw [←hx,←zaU];exact ziT _ _ _
 have HE0:=Lib.hid (show zhD s.data.toList=zuV x from by unfold zhD;rw [zuR (n+1) x _ hl hx (.inr hne)])
 have hxe:x.isEmpty=false:=zeU hne
 have HL:=Lib.hid hl
 have HX:=Lib.hid hx
 clear hl hx hne
 have hnb:n≤1073741824:=by
  have h1:=zdE (hasB [46]) s.data.toList
  rw [zaU] at h1
  have h2:=HL.out
  unfold zaQ at h2
  omega
 go_enter Tryz.func99,Tryz.ntmps99
 go_wp2_with fail
 refine (zdV s _ _ hs).mono ?_
 rintro e w1 ⟨v,rfl,hp,hb1⟩
 have hp':zbA w.heap.size w1 v (zaQ s.data.toList):=hp
 obtain ⟨g,cap,rfl,hg,hcell⟩:=hp'.form (by rw [HL.out];omega)
 rw [HL.out]
 rw [HL.out] at hcell
 have hcx:=hcell (n+1) (by omega)
 rw [HX.out] at hcx
 clear hcell hp hp'
 by_cases haz:zfL x=true
 -- digits alone
 ·have HE:=Lib.hid (HE0.out.trans (zjN haz))
  have HAZ:=Lib.hid haz
  clear haz
  go_wp2_with fail
  refine (zgU ⟨x.toArray⟩ _ (by rw [zaJ];omega)).mono ?_
  rw [zaW,HAZ.out]
  rintro e w2 ⟨rfl,hb2⟩
  have hc2:Below w.heap.size w w2:=hb1.trans (hb2.mono hb1.size)
  clear hb1 hb2
  go_wp2
  go_ret
  exact zaO HE.out hc2
 ·have haf:zfL x=false:=by simpa using haz
  have HE:=Lib.hid (HE0.out.trans (zjQ haf rfl))
  have HAZ:=Lib.hid haf
  clear haz haf
  go_wp2_with fail
  refine (zgU ⟨x.toArray⟩ _ (by rw [zaJ];omega)).mono ?_
  rw [zaW,HAZ.out]
  rintro e w2 ⟨rfl,hb2⟩
  have hc2:Below w.heap.size w w2:=hb1.trans (hb2.mono hb1.size)
  have hcx2:=(hb2.cell (p:=⟨g,(n+1),none⟩) hg).trans hcx
  clear hb1 hb2 hcx
  go_wp2_with fail
  refine (zfM ⟨x.toArray⟩ _ (by rw [zaJ];omega)).mono ?_
  rw [zaW]
  rintro e w3 ⟨rfl,hb3⟩
  have hc3:Below w.heap.size w w3:=hc2.trans (hb3.mono hc2.size)
  clear hc2 hb3 hcx2
  go_wp2
  go_ret
  exact zaO HE.out hc3
theorem zvR (s:ByteArray) (w:World) (hs:s.size≤1073741824) (n:Nat) (x:List UInt8) (hl:(zaQ s.data.toList).length=n+2) (hx:(zaQ s.data.toList).getD n []=x) (hy:(zaQ s.data.toList).getD (n+1) []=[]):
  Calls Tryz.prog 99 #[.string s] w (zcN w (zhD s.data.toList)):=by
 have hxl:x.length≤s.size:=by rw [←hx,←zaU];exact ziT _ _ _
 have HE0:=Lib.hid (show zhD s.data.toList=zuV x from by unfold zhD;rw [zzW n x _ hl hy hx])
 have HL:=Lib.hid hl
 have HX:=Lib.hid hx
 have HY:=Lib.hid hy
 clear hl hx hy
 have hnb:n≤1073741824:=by
  have h1:=zdE (hasB [46]) s.data.toList
  rw [zaU] at h1
  have h2:=HL.out
  unfold zaQ at h2
  omega
 go_enter Tryz.func99,Tryz.ntmps99
 go_wp2_with fail
 refine (zdV s _ _ hs).mono ?_
 rintro e w1 ⟨v,rfl,hp,hb1⟩
 have hp':zbA w.heap.size w1 v (zaQ s.data.toList):=hp
 obtain ⟨g,cap,rfl,hg,hcell⟩:=hp'.form (by rw [HL.out];omega)
 rw [HL.out]
 rw [HL.out] at hcell
 have hcx:=hcell n (by omega)
 rw [HX.out] at hcx
 have hcy:=hcell (n+1) (by omega)
 rw [HY.out] at hcy
 clear hcell hp hp'
 by_cases haz:zfL x=true
 -- digits alone
 ·have HE:=Lib.hid (HE0.out.trans (zjN haz))
  have HAZ:=Lib.hid haz
  clear haz
  go_wp2_with fail
  refine (zgU ⟨x.toArray⟩ _ (by rw [zaJ];omega)).mono ?_
  rw [zaW,HAZ.out]
  rintro e w2 ⟨rfl,hb2⟩
  have hc2:Below w.heap.size w w2:=hb1.trans (hb2.mono hb1.size)
  clear hb1 hb2
  go_wp2
  go_ret
  exact zaO HE.out hc2
 ·have haf:zfL x=false:=by simpa using haz
  have HE:=Lib.hid (HE0.out.trans (zjQ haf rfl))
  have HAZ:=Lib.hid haf
  clear haz haf
  go_wp2_with fail
  refine (zgU ⟨x.toArray⟩ _ (by rw [zaJ];omega)).mono ?_
  rw [zaW,HAZ.out]
  rintro e w2 ⟨rfl,hb2⟩
  have hc2:Below w.heap.size w w2:=hb1.trans (hb2.mono hb1.size)
  have hcx2:=(hb2.cell (p:=⟨g,n,none⟩) hg).trans hcx
  clear hb1 hb2 hcx
  go_wp2_with fail
  refine (zfM ⟨x.toArray⟩ _ (by rw [zaJ];omega)).mono ?_
  rw [zaW]
  rintro e w3 ⟨rfl,hb3⟩
  have hc3:Below w.heap.size w w3:=hc2.trans (hb3.mono hc2.size)
  clear hc2 hb3 hcx2
  go_wp2
  go_ret
  exact zaO HE.out hc3
theorem zsQ (s:ByteArray) (w:World) (hs:s.size≤1073741824):
  Calls Tryz.prog 99 #[.string s] w (zcN w (zhD s.data.toList)):=by
 have h0:0<(zaQ s.data.toList).length:=zkB _ _
 by_cases h1:(zaQ s.data.toList).length=1
 ·exact yiG s w hs _ h1 rfl
 ·obtain ⟨n,hn⟩: ∃n,(zaQ s.data.toList).length=n+2:=⟨(zaQ s.data.toList).length - 2,by omega⟩
  by_cases he:(zaQ s.data.toList).getD (n+1) []=[]
  ·exact zvR s w hs n _ hn rfl he
  ·exact z5U s w hs n _ hn rfl he
end
section
open Go.RowKit
end
section
open Go.RowKit
theorem p3_a:zcP [48,120,55,102]=(127,true):=by decide+kernel
theorem p3_b:zcP [48,49,55]=(15,true):=by decide+kernel
theorem p3_c:zcP [48,56]=(0,false):=by decide+kernel
theorem p3_d:zhD [97,46,48,120]=true:=by decide+kernel
theorem z3E (w:World):
  Calls Tryz.prog 283 #[] w fun e w'=>e= .returned (.bool true)∧Below w.heap.size w w':=by
 go_enter Tryz.func283,Tryz.ntmps283
 go_wp2_with fail
 refine (zzC _).mono ?_
 rintro e w1 ⟨rfl,hb⟩
 go_wp2
 go_ret
 exact ⟨rfl,hb⟩
theorem zyE (w:World):
  Calls Tryz.prog 282 #[] w fun e w'=>e= .returned (.bool true)∧Below w.heap.size w w':=by
 go_enter Tryz.func282,Tryz.ntmps282
 go_wp2_with fail
 refine (zfM _ _ (by decide)).mono ?_
 rw [show zcP (ByteArray.mk #[48,120,55,102]).data.toList=(127,true) from p3_a]
 rintro e w1 ⟨rfl,hb1⟩
 go_wp2_with fail
 refine (zfM _ _ (by decide)).mono ?_
 rw [show zcP (ByteArray.mk #[48,49,55]).data.toList=(15,true) from p3_b]
 rintro e w2 ⟨rfl,hb2⟩
 have hc2:Below w.heap.size w w2:=hb1.trans (hb2.mono hb1.size)
 clear hb1 hb2
 go_wp2_with fail
 refine (zfM _ _ (by decide)).mono ?_
 rw [show zcP (ByteArray.mk #[48,56]).data.toList=(0,false) from p3_c]
 rintro e w3 ⟨rfl,hb3⟩
 have hc3:Below w.heap.size w w3:=hc2.trans (hb3.mono hc2.size)
 clear hc2 hb3
 go_wp2_with fail
 refine (z3E _).mono ?_
 rintro e w4 ⟨rfl,hb4⟩
 have hc4:Below w.heap.size w w4:=hc3.trans (hb4.mono hc3.size)
 clear hc3 hb4
 go_wp2_with fail
 refine (zsQ _ _ (by decide)).mono ?_
 rw [show zhD (ByteArray.mk #[97,46,48,120]).data.toList=true from p3_d]
 rintro e w5 ⟨rfl,hb5⟩
 have hc5:Below w.heap.size w w5:=hc4.trans (hb5.mono hc4.size)
 clear hc4 hb5
 go_wp2
 go_ret
 exact ⟨rfl,hc5⟩
theorem z5I (w:World):
  Calls Tryz.prog 281 #[] w fun e w'=>e= .returned (.bool true)∧Below w.heap.size w w':=by
 go_enter Tryz.func281,Tryz.ntmps281
 go_wp2_with fail
 refine (zyE _).mono ?_
 rintro e w1 ⟨rfl,hb⟩
 go_wp2
 go_ret
 exact ⟨rfl,hb⟩
end
section
open Go.RowKit
theorem zlW (p:UInt8→Bool) (a b:List UInt8):spl p (a++b)=b.foldl (zaR p) (spl p a):=by
 unfold spl;rw [List.foldl_append]
theorem yeR (p:UInt8→Bool) (l:List UInt8): ∀(xs:List (List UInt8)) (t:List UInt8),(∀c∈l,p c=false)→l.foldl (zaR p) (xs,t)=(xs,t++l):=by
 induction l with
 |nil=>intro xs t _;simp
 |cons c l ih=>
  intro xs t h
  have hc:=h c (by simp)
  simp only [List.foldl_cons,zaR,hc]
  rw [show (if false=true then (xs++[t],[]) else (xs,t++[c]))=(xs,t++[c]) from rfl,ih _ _ (fun d hd=>h d (by simp [hd]))]
  simp
theorem has46 (c:UInt8):hasB [46] c=decide (c=46):=by
 simp only [hasB,List.any_cons,List.any_nil,Bool.or_false]
 by_cases h:c=46
 ·subst h;rfl
 ·rw [decide_eq_false h];exact beq_eq_false_iff_ne.2 (fun e=>h e.symm)
/-- the last part -/
def z0A (l:List UInt8):List UInt8:=(spl (hasB [46]) l).2
theorem zpF (l:List UInt8):zaQ l=(spl (hasB [46]) l).1++[z0A l]:=rfl
theorem z8U (ps:List (List UInt8)) (t:List UInt8):(ps++[t]).getD ps.length []=t:=by simp [List.getD]
theorem z6B (l:List UInt8) (c:UInt8) (h:c≠46):z0A (l++[c])=z0A l++[c]:=by
 unfold z0A
 rw [zlW]
 simp [zaR,has46,h]
theorem yfD (l:List UInt8) (hn:l≠[]) (h:l.getLast hn≠46):z0A l≠[]:=by
 conv=>lhs;rw [←List.dropLast_concat_getLast hn]
 rw [z6B _ _ h]
 simp
theorem z3U (l:List UInt8):spl (hasB [46]) (l++[46])=((spl (hasB [46]) l).1++[z0A l],[]):=by
 rw [zlW]
 simp [zaR,has46,z0A]
end
end

section
open Go.RowKit
theorem yaK (n:Nat) (h:n<16):valZ ((hexN n).toNat:Int)=n∧(hexN n).toNat≠37∧(hexN n).toNat<128:=by
 have key: ∀n:Fin 16,valZ ((hexN n.val).toNat:Int)=n.val∧(hexN n.val).toNat≠37∧(hexN n.val).toNat<128:=by decide+kernel
 exact key ⟨n,h⟩
theorem yiM (st:Nat) (n:Nat) (hs:st<6) (h:n<16):inB st ((hexN n).toNat:Int)=false∧inB st 37=false:=by
 have key: ∀st:Fin 6,∀n:Fin 16,inB (st.val:Int) ((hexN n.val).toNat:Int)=false∧inB (st.val:Int) 37=false:=by decide+kernel
 exact key ⟨st,hs⟩ ⟨n,h⟩
/-- what isn't in a set is a sign of ASCII's -/
theorem zuL {st r:Int} (h0:0≤st) (h1:st≤5) (h:inB st r=false):31<r∧r≤126:=by
 by_cases hc:r≤31∨126<r
 ·rw [yaD h0 h1 hc] at h;cases h
 ·omega
theorem zgA {r:Int} (h0:0≤r) (h1:r<128):Lib.encodeRune r=[r.toNat.toUInt8]:=by
 unfold Lib.encodeRune
 rw [Lib.encodeRuneZ_one h0 (by omega)]
 rfl
/-- each byte of what is encoded is a sign of ASCII's that isn't in the set -/
theorem zwZ (st:Int) (h0:0≤st) (h1:st≤5) (l:List Int): ∀b∈encB st l,b.toNat<128∧inB st (b.toNat:Int)=false:=by
 intro b hb
 obtain ⟨r,_,hb⟩:=List.mem_flatMap.1 hb
 cases hin:inB st r with
 |true=>
  have e:encP st r=pctL (Lib.encodeRune r):=by unfold encP;rw [hin];rfl
  rw [e] at hb
  obtain ⟨c,_,hb⟩:=List.mem_flatMap.1 hb
  have hc:=c.toNat_lt
  have hst:st=(st.toNat:Int):=(Int.toNat_of_nonneg h0).symm
  have k1:=yiM st.toNat (c.toNat/16) (by omega) (by omega)
  have k2:=yiM st.toNat (c.toNat % 16) (by omega) (by omega)
  rw [←hst] at k1 k2
  have v1:=yaK (c.toNat/16) (by omega)
  have v2:=yaK (c.toNat % 16) (by omega)
  simp only [pctB,List.mem_cons,List.not_mem_nil,or_false] at hb
  rcases hb with rfl|rfl|rfl
  ·exact ⟨by decide,k1.2⟩
  ·exact ⟨v1.2.2,k1.1⟩
  ·exact ⟨v2.2.2,k2.1⟩
 |false=>
  have e:encP st r=Lib.encodeRune r:=by unfold encP;rw [hin];rfl
  have ha:=zuL h0 h1 hin
  rw [e,zgA (by omega) (by omega)] at hb
  simp only [List.mem_cons,List.not_mem_nil,or_false] at hb
  subst hb
  rw [z5L r (by omega) (by omega),Int.toNat_of_nonneg (by omega)]
  exact ⟨by omega,hin⟩
def zpH (e:List UInt8):List Int:=e.map fun b=>(b.toNat:Int)
theorem z0I (e:List UInt8) (h: ∀b∈e,b.toNat<128):zeK (zpH e)=e:=by
 induction e with
 |nil=>rfl
 |cons b e ih=>
  have hb:=h b (List.mem_cons_self ..)
  have ih':=ih (fun x hx=>h x (List.mem_cons_of_mem _ hx))
  show zeK ((b.toNat:Int)::zpH e)=b::e
  rw [ziP,ih',zgA (by omega) (by omega),zjS]
  rfl
theorem z4A (e:List UInt8) (h: ∀b∈e,b.toNat<128):scal ⟨e.toArray⟩=zpH e:=by
 have h1:=ybP (zpH e)
 rw [z0I e h] at h1
 rw [h1]
 have: ∀x∈zpH e,fixZ x=x:=by
  intro x hx
  obtain ⟨b,hb,rfl⟩:=List.mem_map.1 hx
  have:=h b hb
  have hv:isB (b.toNat:Int)=true:=decide_eq_true (by omega)
  exact if_pos hv
 exact (List.map_congr_left this).trans (List.map_id _)
theorem yhH (st:Int) (e:List UInt8) (h: ∀b∈e,b.toNat<128∧inB st (b.toNat:Int)=false):encB st (zpH e)=e:=by
 induction e with
 |nil=>rfl
 |cons b e ih=>
  have hb:=h b (List.mem_cons_self ..)
  have ih':=ih (fun x hx=>h x (List.mem_cons_of_mem _ hx))
  show encB st ((b.toNat:Int)::zpH e)=b::e
  have he:encP st (b.toNat:Int)=[b]:=by
   unfold encP
   rw [hb.2,zgA (by omega) (by omega),zjS]
   rfl
  rw [zvF,ih',he]
  rfl
end

end Go.Proofs.YthacmlahnpdeeaaGreatDoor
