/-
  What the law AbnfMeets leans on, and its walk (2 of 35).
-/
import Derived.IntWalk
import Derived.StillTailTactics
import Derived.Deep.RegionHeld3
import Derived.Deep.AppendLies
import Derived.Test.YtppgdppmheiocaaGreatDoorAbnfMeetsPkA
namespace Go.Proofs.YtppgdppmheiocaaGreatDoor
set_option maxRecDepth 100000
set_option maxHeartbeats 16000000
abbrev ygR := @Lib.hid
abbrev ygS := @Nat.le_refl
abbrev ygT := @decide_eq_false
abbrev ygU := @decide_eq_true
abbrev ygV := @Go.RowKit.Below.refl
section
section
open Go.RowKit
def hexN (n:Nat):UInt8:=([48,49,50,51,52,53,54,55,56,57,65,66,67,68,69,70]:List UInt8).getD n 0
def pctB (c:UInt8):List UInt8:=[37,hexN (c.toNat/16),hexN (c.toNat % 16)]
theorem ycZ (n:Nat) (h:n<(ByteArray.mk #[48,49,50,51,52,53,54,55,56,57,65,66,67,68,69,70]).size):((ByteArray.mk #[48,49,50,51,52,53,54,55,56,57,65,66,67,68,69,70])[n]'h).toNat=(hexN n).toNat:=by
 have key: ∀n:Fin 16,((ByteArray.mk #[48,49,50,51,52,53,54,55,56,57,65,66,67,68,69,70])[n.val]'n.isLt).toNat=(hexN n.val).toNat:=by decide
 exact key ⟨n,h⟩
theorem ybA (c:UInt8) (w:World):
  Calls Tryz.prog 175 #[.int .u8 (c.toNat:Int)] w fun e w'=>e= .returned (.string ⟨(pctB c).toArray⟩)∧Below w.heap.size w w':=by
 obtain ⟨n,hn⟩: ∃n,c.toNat=n:=⟨_,rfl⟩
 have hc:n<256:=by rw [←hn];exact c.toNat_lt
 have hR:pctB c=[37,hexN (n/16),hexN (n % 16)]:=by unfold pctB;rw [hn]
 rw [hn,hR]
 clear hn hR c
 have h1:(0:Int)≤(n:Int)/16:=by omega
 have h2:(n:Int)/16<16:=by omega
 have h3:(0:Int)≤(n:Int) % 16:=by omega
 have h4:(n:Int) % 16<16:=by omega
 have k1:n/16<(ByteArray.mk #[48,49,50,51,52,53,54,55,56,57,65,66,67,68,69,70]).size:=by show n/16<16;omega
 have k2:n % 16<(ByteArray.mk #[48,49,50,51,52,53,54,55,56,57,65,66,67,68,69,70]).size:=by show n % 16<16;omega
 have hcv:=z8W (P:=Tryz.prog) w.drew 65 9 5 [37,(((ByteArray.mk #[48,49,50,51,52,53,54,55,56,57,65,66,67,68,69,70])[n/16]'k1).toNat:Int),(((ByteArray.mk #[48,49,50,51,52,53,54,55,56,57,65,66,67,68,69,70])[n % 16]'k2).toNat:Int)]
  (by
   intro x hx
   simp only [List.mem_cons,List.not_mem_nil,or_false] at hx
   rcases hx with rfl|rfl|rfl
   ·decide
   ·have:=((ByteArray.mk #[48,49,50,51,52,53,54,55,56,57,65,66,67,68,69,70])[n/16]'k1).toNat_lt;omega
   ·have:=((ByteArray.mk #[48,49,50,51,52,53,54,55,56,57,65,66,67,68,69,70])[n % 16]'k2).toNat_lt;omega)
  Tryz.underlying65 Tryz.underlying5 Tryz.underlying9
 have hcv2:(convert 65 9 (.slice (some ⟨w.heap.size,0,none⟩) 3 3)).run Tryz.prog ((w.alloc (.cells #[.int .u8 37,.int .u8 (((ByteArray.mk #[48,49,50,51,52,53,54,55,56,57,65,66,67,68,69,70])[n/16]'k1).toNat:Int),.int .u8 (((ByteArray.mk #[48,49,50,51,52,53,54,55,56,57,65,66,67,68,69,70])[n % 16]'k2).toNat:Int)] 5)).drew)=_:=hcv
 clear hcv
 have hR:zmV [37,(((ByteArray.mk #[48,49,50,51,52,53,54,55,56,57,65,66,67,68,69,70])[n/16]'k1).toNat:Int),(((ByteArray.mk #[48,49,50,51,52,53,54,55,56,57,65,66,67,68,69,70])[n % 16]'k2).toNat:Int)]=[37,hexN (n/16),hexN (n % 16)]:=by
  simp only [zmV,List.map_cons,List.map_nil,ycZ _ k1,ycZ _ k2,zhQ]
  rfl
 rw [hR] at hcv2
 clear hR
 generalize [37,hexN (n/16),hexN (n % 16)]=R at hcv2 ⊢
 go_enter Tryz.func175,Tryz.ntmps175
 go_wp2
 go_region
 all_goals (go_wp2;go_ret;exact ⟨rfl,((ygV _ _).alloc (ygS _) _).drew⟩)
def setL:Nat→List Int
 |1=>[32,34,60,62,96]
 |2=>[32,34,35,60,62]
 |3=>[32,34,35,60,62,39]
 |4=>[32,34,35,60,62,63,94,96,123,125]
 |5=>[32,34,35,60,62,63,94,96,123,125,47,58,59,61,64,91,92,93,124]
 |_=>[]
def inB (s r:Int):Bool:=decide (0≤s∧s≤5)&&(decide (r≤31∨126<r)||(setL s.toNat).contains r)
theorem ydZ {s r:Int} (h:s<0∨5<s):inB s r=false:=by
 unfold inB
 rw [ygT (by omega)];rfl
theorem z4X {s r:Int} (h0:0≤s) (h1:s≤5) (h:r≤31∨126<r):inB s r=true:=by
 unfold inB
 rw [ygU ⟨h0,h1⟩,ygU h];rfl
theorem zjD {s r:Int} (h0:0≤s) (h1:s≤5) (h2:31<r) (h3:r≤126):inB s r=(setL s.toNat).contains r:=by
 unfold inB
 rw [ygU ⟨h0,h1⟩,ygT (by omega)];simp
theorem ygB (n:Nat) (h:n<127):decide (0≤Lib.indexByte ([]:List UInt8) n.toUInt8)=(setL 0).contains (n:Int):=by
 have key: ∀n:Fin 127,decide (0≤Lib.indexByte ([]:List UInt8) n.val.toUInt8)=(setL 0).contains (n.val:Int):=by decide+kernel
 exact key ⟨n,h⟩
theorem yeR (r:Int) (w:World) (h2:31<r) (h3:r≤126):
  Calls Tryz.prog 172 #[.int .u8 0,.int .i32 r] w fun e w'=>e= .returned (.bool (inB 0 r))∧w=w':=by
 obtain ⟨n,rfl⟩:=Int.eq_ofNat_of_zero_le (show 0≤r by omega)
 have HB:=ygR ((zjD (s:=0) (by decide) (by decide) h2 h3).trans (ygB n (by omega)).symm)
 go_enter Tryz.func172,Tryz.ntmps172
 go_wp2_with (first|(go_at_call 77;refine (Tryz.strings_ContainsRune_ascii _ _ _ (by omega) (by omega)).mono ?_;rintro e w' ⟨rfl,rfl⟩)|go_in)
 go_ret
 exact ⟨zaQ (by rw [HB.out];have d1:decide ((n:Int)≤31)=false:=ygT (by omega);have d2:decide (126<(n:Int))=false:=ygT (by omega);simp only [d1,d2,Bool.false_or]),rfl⟩
theorem yeY (n:Nat) (h:n<127):decide (0≤Lib.indexByte ([32,34,60,62,96]:List UInt8) n.toUInt8)=(setL 1).contains (n:Int):=by
 have key: ∀n:Fin 127,decide (0≤Lib.indexByte ([32,34,60,62,96]:List UInt8) n.val.toUInt8)=(setL 1).contains (n.val:Int):=by decide+kernel
 exact key ⟨n,h⟩
theorem yfU (r:Int) (w:World) (h2:31<r) (h3:r≤126):
  Calls Tryz.prog 172 #[.int .u8 1,.int .i32 r] w fun e w'=>e= .returned (.bool (inB 1 r))∧w=w':=by
 obtain ⟨n,rfl⟩:=Int.eq_ofNat_of_zero_le (show 0≤r by omega)
 have HB:=ygR ((zjD (s:=1) (by decide) (by decide) h2 h3).trans (yeY n (by omega)).symm)
 go_enter Tryz.func172,Tryz.ntmps172
 go_wp2_with (first|(go_at_call 77;refine (Tryz.strings_ContainsRune_ascii _ _ _ (by omega) (by omega)).mono ?_;rintro e w' ⟨rfl,rfl⟩)|go_in)
 go_ret
 exact ⟨zaQ (by rw [HB.out];have d1:decide ((n:Int)≤31)=false:=ygT (by omega);have d2:decide (126<(n:Int))=false:=ygT (by omega);simp only [d1,d2,Bool.false_or]),rfl⟩
theorem yeW (n:Nat) (h:n<127):decide (0≤Lib.indexByte ([32,34,35,60,62]:List UInt8) n.toUInt8)=(setL 2).contains (n:Int):=by
 have key: ∀n:Fin 127,decide (0≤Lib.indexByte ([32,34,35,60,62]:List UInt8) n.val.toUInt8)=(setL 2).contains (n.val:Int):=by decide+kernel
 exact key ⟨n,h⟩
theorem yfS (r:Int) (w:World) (h2:31<r) (h3:r≤126):
  Calls Tryz.prog 172 #[.int .u8 2,.int .i32 r] w fun e w'=>e= .returned (.bool (inB 2 r))∧w=w':=by
 obtain ⟨n,rfl⟩:=Int.eq_ofNat_of_zero_le (show 0≤r by omega)
 have HB:=ygR ((zjD (s:=2) (by decide) (by decide) h2 h3).trans (yeW n (by omega)).symm)
 go_enter Tryz.func172,Tryz.ntmps172
 go_wp2_with (first|(go_at_call 77;refine (Tryz.strings_ContainsRune_ascii _ _ _ (by omega) (by omega)).mono ?_;rintro e w' ⟨rfl,rfl⟩)|go_in)
 go_ret
 exact ⟨zaQ (by rw [HB.out];have d1:decide ((n:Int)≤31)=false:=ygT (by omega);have d2:decide (126<(n:Int))=false:=ygT (by omega);simp only [d1,d2,Bool.false_or]),rfl⟩
theorem yfA (n:Nat) (h:n<127):decide (0≤Lib.indexByte ([32,34,35,60,62,39]:List UInt8) n.toUInt8)=(setL 3).contains (n:Int):=by
 have key: ∀n:Fin 127,decide (0≤Lib.indexByte ([32,34,35,60,62,39]:List UInt8) n.val.toUInt8)=(setL 3).contains (n.val:Int):=by decide+kernel
 exact key ⟨n,h⟩
theorem yeJ (r:Int) (w:World) (h2:31<r) (h3:r≤126):
  Calls Tryz.prog 172 #[.int .u8 3,.int .i32 r] w fun e w'=>e= .returned (.bool (inB 3 r))∧w=w':=by
 obtain ⟨n,rfl⟩:=Int.eq_ofNat_of_zero_le (show 0≤r by omega)
 have HB:=ygR ((zjD (s:=3) (by decide) (by decide) h2 h3).trans (yfA n (by omega)).symm)
 go_enter Tryz.func172,Tryz.ntmps172
 go_wp2_with (first|(go_at_call 77;refine (Tryz.strings_ContainsRune_ascii _ _ _ (by omega) (by omega)).mono ?_;rintro e w' ⟨rfl,rfl⟩)|go_in)
 go_ret
 exact ⟨zaQ (by rw [HB.out];have d1:decide ((n:Int)≤31)=false:=ygT (by omega);have d2:decide (126<(n:Int))=false:=ygT (by omega);simp only [d1,d2,Bool.false_or]),rfl⟩
theorem yeT (n:Nat) (h:n<127):decide (0≤Lib.indexByte ([32,34,35,60,62,63,94,96,123,125]:List UInt8) n.toUInt8)=(setL 4).contains (n:Int):=by
 have key: ∀n:Fin 127,decide (0≤Lib.indexByte ([32,34,35,60,62,63,94,96,123,125]:List UInt8) n.val.toUInt8)=(setL 4).contains (n.val:Int):=by decide+kernel
 exact key ⟨n,h⟩
theorem yeD (r:Int) (w:World) (h2:31<r) (h3:r≤126):
  Calls Tryz.prog 172 #[.int .u8 4,.int .i32 r] w fun e w'=>e= .returned (.bool (inB 4 r))∧w=w':=by
 obtain ⟨n,rfl⟩:=Int.eq_ofNat_of_zero_le (show 0≤r by omega)
 have HB:=ygR ((zjD (s:=4) (by decide) (by decide) h2 h3).trans (yeT n (by omega)).symm)
 go_enter Tryz.func172,Tryz.ntmps172
 go_wp2_with (first|(go_at_call 77;refine (Tryz.strings_ContainsRune_ascii _ _ _ (by omega) (by omega)).mono ?_;rintro e w' ⟨rfl,rfl⟩)|go_in)
 go_ret
 exact ⟨zaQ (by rw [HB.out];have d1:decide ((n:Int)≤31)=false:=ygT (by omega);have d2:decide (126<(n:Int))=false:=ygT (by omega);simp only [d1,d2,Bool.false_or]),rfl⟩
theorem yeM (n:Nat) (h:n<127):decide (0≤Lib.indexByte ([32,34,35,60,62,63,94,96,123,125,47,58,59,61,64,91,92,93,124]:List UInt8) n.toUInt8)=(setL 5).contains (n:Int):=by
 have key: ∀n:Fin 127,decide (0≤Lib.indexByte ([32,34,35,60,62,63,94,96,123,125,47,58,59,61,64,91,92,93,124]:List UInt8) n.val.toUInt8)=(setL 5).contains (n.val:Int):=by decide+kernel
 exact key ⟨n,h⟩
theorem yeQ (r:Int) (w:World) (h2:31<r) (h3:r≤126):
  Calls Tryz.prog 172 #[.int .u8 5,.int .i32 r] w fun e w'=>e= .returned (.bool (inB 5 r))∧w=w':=by
 obtain ⟨n,rfl⟩:=Int.eq_ofNat_of_zero_le (show 0≤r by omega)
 have HB:=ygR ((zjD (s:=5) (by decide) (by decide) h2 h3).trans (yeM n (by omega)).symm)
 go_enter Tryz.func172,Tryz.ntmps172
 go_wp2_with (first|(go_at_call 77;refine (Tryz.strings_ContainsRune_ascii _ _ _ (by omega) (by omega)).mono ?_;rintro e w' ⟨rfl,rfl⟩)|go_in)
 go_ret
 exact ⟨zaQ (by rw [HB.out];have d1:decide ((n:Int)≤31)=false:=ygT (by omega);have d2:decide (126<(n:Int))=false:=ygT (by omega);simp only [d1,d2,Bool.false_or]),rfl⟩
theorem in_ctl (s r:Int) (w:World) (h0:0≤s) (h1:s≤5) (h:r≤31∨126<r):
  Calls Tryz.prog 172 #[.int .u8 s,.int .i32 r] w fun e w'=>e= .returned (.bool (inB s r))∧w=w':=by
 have HB:=ygR (z4X h0 h1 h)
 rcases h with h|h
 ·go_enter Tryz.func172,Tryz.ntmps172
  go_wp2
  go_ret
  exact ⟨zaQ HB.out.symm,rfl⟩
 ·go_enter Tryz.func172,Tryz.ntmps172
  go_wp2
  go_ret
  exact ⟨zaQ HB.out.symm,rfl⟩
theorem in_out (s r:Int) (w:World) (h:5<s):
  Calls Tryz.prog 172 #[.int .u8 s,.int .i32 r] w fun e w'=>e= .returned (.bool (inB s r))∧w=w':=by
 have HB:=ygR (ydZ (s:=s) (r:=r) (.inr h))
 go_enter Tryz.func172,Tryz.ntmps172
 go_wp2
 go_ret
 exact ⟨zaQ HB.out.symm,rfl⟩
theorem ycX (s r:Int) (w:World) (h0:0≤s):
  Calls Tryz.prog 172 #[.int .u8 s,.int .i32 r] w fun e w'=>e= .returned (.bool (inB s r))∧w=w':=by
 by_cases h5:5<s
 ·exact in_out s r w h5
 ·by_cases hc:r≤31∨126<r
  ·exact in_ctl s r w h0 (by omega) hc
  ·rcases (show s=0∨s=1∨s=2∨s=3∨s=4∨s=5 from by omega) with rfl|rfl|rfl|rfl|rfl|rfl
   ·exact yeR r w (by omega) (by omega)
   ·exact yfU r w (by omega) (by omega)
   ·exact yfS r w (by omega) (by omega)
   ·exact yeJ r w (by omega) (by omega)
   ·exact yeD r w (by omega) (by omega)
   ·exact yeQ r w (by omega) (by omega)
def zgL:List UInt8→Option UInt8
 |c::a::b::_=>if c.toNat=37∧0≤valZ (a.toNat:Int)∧0≤valZ (b.toNat:Int) then some (UInt8.ofNat ((valZ (a.toNat:Int)*16+valZ (b.toNat:Int)).toNat)) else none
 |_=>none
def decL:Nat→List UInt8→List UInt8
 |0,_=>[]
 |_+1,[]=>[]
 |f+1,c::r=>match zgL (c::r) with
  |some v=>v::decL f (r.drop 2)
  |none=>c::decL f r
def decB (l:List UInt8):List UInt8:=decL l.length l
theorem z3V (r:Int):valZ r<16:=by unfold valZ;(repeat' split)<;>omega
theorem z1Y (r:Int): -1≤valZ r:=by unfold valZ;(repeat' split)<;>omega
theorem zbZ (s:ByteArray) (k:Nat) (h:k<s.size):s.data.toList.drop k=s[k]::s.data.toList.drop (k+1):=by
 rw [List.drop_eq_getElem_cons (by simpa using h)]
 rfl
theorem zdA (s:ByteArray) (k:Nat) (h: ¬k<s.size):s.data.toList.drop k=[]:=List.drop_eq_nil_of_le (by simpa using h)
theorem zzQ (s:ByteArray) (k:Nat) (hk:k+2<s.size) (h37:s[k].toNat=37) (h1:0≤valZ (s[k+1].toNat:Int)) (h2:0≤valZ (s[k+2].toNat:Int)):
  zgL (s.data.toList.drop k)=some (UInt8.ofNat ((valZ (s[k+1].toNat:Int)*16+valZ (s[k+2].toNat:Int)).toNat)):=by
 rw [zbZ s k (by omega),zbZ s (k+1) (by omega),zbZ s (k+2) (by omega)]
 simp only [zgL]
 rw [if_pos ⟨h37,h1,h2⟩]
theorem zqD (s:ByteArray) (k:Nat) (hk:k+2<s.size) (h:s[k].toNat≠37∨valZ (s[k+1].toNat:Int)<0∨valZ (s[k+2].toNat:Int)<0):
  zgL (s.data.toList.drop k)=none:=by
 rw [zbZ s k (by omega),zbZ s (k+1) (by omega),zbZ s (k+2) (by omega)]
 simp only [zgL]
 rw [if_neg (by omega)]
theorem zlD (s:ByteArray) (k:Nat) (hk:s.size≤k+2):zgL (s.data.toList.drop k)=none:=by
 by_cases h0:k<s.size
 ·rw [zbZ s k h0]
  by_cases h1:k+1<s.size
  ·rw [zbZ s (k+1) h1,zdA s (k+2) (by omega)]
   rfl
  ·rw [zdA s (k+1) h1]
   rfl
 ·rw [zdA s k h0]
  rfl
theorem yaS (a b:Int) (h0:0≤a) (h1:a<16) (h2:0≤b) (h3:b<16):bits BinOp.or IntKind.i64 (a*16) b % 256=a*16+b:=by
 have key: ∀a b:Fin 16,bits BinOp.or IntKind.i64 ((a.val:Int)*16) (b.val:Int) % 256=(a.val:Int)*16+(b.val:Int):=by decide+kernel
 have:=key ⟨a.toNat,by omega⟩ ⟨b.toNat,by omega⟩
 simp only [Int.toNat_of_nonneg h0,Int.toNat_of_nonneg h2] at this
 exact this
def zsZ (o:Option UInt8) (w:World) (e:Ending) (w':World):Prop:=e= .returned (.tuple #[.int .u8 ((o.getD 0).toNat:Int),.bool o.isSome])∧ ∃n,w'=w.drewN n
theorem zeN {o:Option UInt8} {w:World} {e:Ending} {w':World} (ho:o=none) (he:e= .returned (.tuple #[.int .u8 0,.bool false])) (n:Nat) (hw:w'=w.drewN n):zsZ o w e w':=by
 subst ho
 exact ⟨he,n,hw⟩
theorem zpJ {o:Option UInt8} {v:UInt8} {x:Int} {w:World} {e:Ending} {w':World} (ho:o=some v) (he:e= .returned (.tuple #[.int .u8 x,.bool true])) (hx:x=(v.toNat:Int)) (n:Nat) (hw:w'=w.drewN n):zsZ o w e w':=by
 subst ho hx
 exact ⟨he,n,hw⟩
theorem zyH (x:Int) (h0:0≤x) (h1:x<256):x=((UInt8.ofNat x.toNat).toNat:Int):=by
 have:x.toNat % 256=x.toNat:=Nat.mod_eq_of_lt (by omega)
 simp [this]
 omega
theorem zmK (s:ByteArray) (k:Nat) (w:World) (hs:s.size≤1073741824) (hk:k<s.size):
  Calls Tryz.prog 196 #[.string s,.int .i64 k] w (zsZ (zgL (s.data.toList.drop k)) w):=by
 obtain ⟨c0,hc0⟩: ∃c,s[k].toNat=c:=⟨_,rfl⟩
 by_cases h2:k+2<s.size
 ·obtain ⟨c1,hc1⟩: ∃c,s[k+1].toNat=c:=⟨_,rfl⟩
  obtain ⟨c2,hc2⟩: ∃c,s[k+2].toNat=c:=⟨_,rfl⟩
  have l1:c1<256:=by rw [←hc1];exact s[k+1].toNat_lt
  have l2:c2<256:=by rw [←hc2];exact s[k+2].toNat_lt
  by_cases h37:c0=37
  ·subst h37
   obtain ⟨v1,hv1⟩: ∃v,valZ (c1:Int)=v:=⟨_,rfl⟩
   obtain ⟨v2,hv2⟩: ∃v,valZ (c2:Int)=v:=⟨_,rfl⟩
   have b1:v1<16:=by rw [←hv1];exact z3V _
   have b2:v2<16:=by rw [←hv2];exact z3V _
   have b3: -1≤v1:=by rw [←hv1];exact z1Y _
   have b4: -1≤v2:=by rw [←hv2];exact z1Y _
   have hb37:((37:Int) !=37)=false:=by decide
   by_cases hv:0≤v1∧0≤v2
   ·obtain ⟨b5,b6⟩:=hv
    have HT:=ygR (zzQ s k h2 hc0 (by rw [hc1,hv1];exact b5) (by rw [hc2,hv2];exact b6))
    rw [hc1,hc2,hv1,hv2] at HT
    have HO:=ygR (yaS v1 v2 b5 b1 b6 b2)
    have HX:=ygR (zyH (v1*16+v2) (by omega) (by omega))
    have p1:(0:Int)≤(k:Int)+1:=by omega
    have p2:(0:Int)≤(k:Int)+2:=by omega
    have p3:(k:Int)+1<(s.size:Int):=by omega
    have p4:(k:Int)+2<(s.size:Int):=by omega
    have q1:IntKind.i64.wrap ((k:Int)+1)=(k:Int)+1:=IntWalk.i64_in _ (by omega)
    have q2:IntKind.i64.wrap ((k:Int)+2)=(k:Int)+2:=IntWalk.i64_in _ (by omega)
    have r1:((k:Int)+1).toNat=k+1:=by omega
    have r2:((k:Int)+2).toNat=k+2:=by omega
    go_enter Tryz.func196,Tryz.ntmps196
    go_wp2_with fail
    go_quiet ((go_at_call 118;exact Calls.quiet_of_same ((zbI _ _).mono fun _ _ h=>⟨h.1,h.2.symm⟩)))
    clear q1 q2 r1 r2
    go_wp2
    go_ret2
    exact zpJ HT.out rfl (HO.out.trans HX.out) nq rfl
   ·have HT:=ygR (zqD s k h2 (by rw [hc1,hc2,hv1,hv2];omega))
    have p1:(0:Int)≤(k:Int)+1:=by omega
    have p2:(0:Int)≤(k:Int)+2:=by omega
    have p3:(k:Int)+1<(s.size:Int):=by omega
    have p4:(k:Int)+2<(s.size:Int):=by omega
    by_cases hv1n:v1<0
    all_goals
     have q1:IntKind.i64.wrap ((k:Int)+1)=(k:Int)+1:=IntWalk.i64_in _ (by omega)
     have q2:IntKind.i64.wrap ((k:Int)+2)=(k:Int)+2:=IntWalk.i64_in _ (by omega)
     have r1:((k:Int)+1).toNat=k+1:=by omega
     have r2:((k:Int)+2).toNat=k+2:=by omega
     go_enter Tryz.func196,Tryz.ntmps196
     go_wp2_with fail
     go_quiet ((go_at_call 118;exact Calls.quiet_of_same ((zbI _ _).mono fun _ _ h=>⟨h.1,h.2.symm⟩)))
     clear q1 q2 r1 r2
     have hv2n:v1<0∨v2<0:=by omega
     go_wp2
     all_goals
      go_ret2
      exact zeN HT.out rfl nq rfl
  ·have HT:=ygR (zqD s k h2 (.inl (by rw [hc0];exact h37)))
   have hb:((c0:Int) !=37)=true:=by rw [bne_iff_ne];omega
   go_enter Tryz.func196,Tryz.ntmps196
   go_wp2
   go_ret2
   exact zeN HT.out rfl 0 rfl
 ·have HT:=ygR (zlD s k (by omega))
  by_cases h37:c0=37
  ·subst h37
   go_enter Tryz.func196,Tryz.ntmps196
   go_wp2
   go_ret2
   exact zeN HT.out rfl 0 rfl
  ·have hb:((c0:Int) !=37)=true:=by rw [bne_iff_ne];omega
   go_enter Tryz.func196,Tryz.ntmps196
   go_wp2
   go_ret2
   exact zeN HT.out rfl 0 rfl
theorem z9R (s:ByteArray) (f k:Nat) (h: ¬k<s.size):decL f (s.data.toList.drop k)=[]:=by
 rw [zdA s k h]
 cases f<;>rfl
theorem z0I (s:ByteArray) (f k:Nat) (v:UInt8) (h:k<s.size) (ht:zgL (s.data.toList.drop k)=some v):decL (f+1) (s.data.toList.drop k)=v::decL f (s.data.toList.drop (k+3)):=by
 rw [zbZ s k h] at ht ⊢
 simp only [decL,ht,List.drop_drop]
theorem z2Q (s:ByteArray) (f k:Nat) (h:k<s.size) (ht:zgL (s.data.toList.drop k)=none):decL (f+1) (s.data.toList.drop k)=s[k]::decL f (s.data.toList.drop (k+1)):=by
 rw [zbZ s k h] at ht ⊢
 simp only [decL,ht]
theorem zyY (s:ByteArray) (k:Nat) (v:UInt8) (h:zgL (s.data.toList.drop k)=some v):k+2<s.size:=by
 by_cases hk:k+2<s.size
 ·exact hk
 ·rw [zlD s k (by omega)] at h;cases h
theorem zxO (s:ByteArray) (w:World) (hs:s.size≤1073741824):
  Calls Tryz.prog 167 #[.string s] w fun e w'=>e= .returned (.string ⟨(decB s.data.toList).toArray⟩)∧Below w.heap.size w w':=by
 go_enter Tryz.func167,Tryz.ntmps167
 go_wp2
 go_loopw [4] (fun i wr=> ∃(k fuel:Nat) (T:List UInt8),i= .int .i64 k∧k≤s.size∧Lib.IsBuilderF 67 5 w.heap.size w.heap.size (Lib.byteCells T) wr∧Below w.heap.size w wr∧T.length≤k∧s.size≤k+fuel∧Hid (T++decL fuel (s.data.toList.drop k)=decB s.data.toList)) (fun i _=>s.size - (intOf i).toNat)
 case atStart=>
  refine ⟨0,s.size,[],rfl,Nat.zero_le _,Lib.IsBuilderF.of (Lib.fresh_isBuilder _ _ w),(ygV _ w).alloc (ygS _) _,by simp,by omega,?_⟩
  show []++decL s.size (s.data.toList.drop 0)=decL s.data.toList.length s.data.toList
  rw [zaI];rfl
 case round=>
  obtain ⟨k,fuel,T,rfl,hk,hI,hbw,hTl,hfu,HD⟩:=hrel
  have hsz:=hbw.size
  by_cases hlt:k<s.size
  ·obtain ⟨f,rfl⟩: ∃f,fuel=f+1:=⟨fuel - 1,by omega⟩
   cases hth:zgL (s.data.toList.drop k) with
   |some v=>
    have hroom:=zyY s k v hth
    have hD2:=HD.out
    rw [z0I s f k v hlt hth] at hD2
    have HD2:=ygR hD2
    have HTH:=ygR hth
    clear hD2 hth
    go_wp2_with fail
    refine (zmK s k _ hs hlt).mono ?_
    rw [HTH.out]
    rintro e w' ⟨rfl,nq,rfl⟩
    have hI2:Lib.IsBuilderF 67 5 w.heap.size w.heap.size (Lib.byteCells T) (wr.drewN nq):=hI
    have hb2:=zbU hbw nq
    have hsz2:w.heap.size≤(wr.drewN nq).heap.size:=hsz
    generalize wr.drewN nq=w2 at*
    go_wp2_with fail
    refine (Tryz.Builder_WriteByte_k w.heap.size w.heap.size _ _ _ hI2 (by rw [Lib.byteCells_length];omega) hsz2).mono ?_
    rintro e w3 ⟨rfl,h3,b3,_⟩
    go_wp2
    go_roundw
    case rel=>
     refine ⟨k+3,f,T++[v],by go_num,by omega,?_,hb2.trans b3,by simp;omega,by omega,?_⟩
     ·rw [zjI T v _ rfl];exact .inr h3
     ·show (T++[v])++_=_
      rw [List.append_assoc];exact HD2.out
    case measure=>simp [intOf];omega
   |none=>
    have hD2:=HD.out
    rw [z2Q s f k hlt hth] at hD2
    have HD2:=ygR hD2
    have HTH:=ygR hth
    clear hD2 hth
    go_wp2_with fail
    refine (zmK s k _ hs hlt).mono ?_
    rw [HTH.out]
    rintro e w' ⟨rfl,nq,rfl⟩
    have hI2:Lib.IsBuilderF 67 5 w.heap.size w.heap.size (Lib.byteCells T) (wr.drewN nq):=hI
    have hb2:=zbU hbw nq
    have hsz2:w.heap.size≤(wr.drewN nq).heap.size:=hsz
    generalize wr.drewN nq=w2 at*
    go_wp2_with fail
    refine (Tryz.Builder_WriteByte_k w.heap.size w.heap.size _ _ _ hI2 (by rw [Lib.byteCells_length];omega) hsz2).mono ?_
    rintro e w3 ⟨rfl,h3,b3,_⟩
    go_wp2
    go_roundw
    case rel=>
     refine ⟨k+1,f,T++[s[k]],by go_num,by omega,?_,hb2.trans b3,by simp;omega,by omega,?_⟩
     ·rw [zjI T s[k] _ rfl];exact .inr h3
     ·show (T++[s[k]])++_=_
      rw [List.append_assoc];exact HD2.out
    case measure=>simp [intOf];omega
  ·have hfin:T=decB s.data.toList:=by
    have:=HD.out
    rwa [z9R s fuel k hlt,List.append_nil] at this
   subst hfin
   go_wp2_with fail
   refine (Tryz.Builder_String_any_k w.heap.size w.heap.size _ _ hI (by omega)).mono ?_
   rintro e w1 ⟨rfl,_,b1,_⟩
   go_wp2
   go_ret
   exact ⟨rfl,hbw.trans b1⟩
def pctL (l:List UInt8):List UInt8:=l.flatMap pctB
def encP (s r:Int):List UInt8:=if inB s r=true then pctL (Lib.encodeRune r) else Lib.encodeRune r
def encB (s:Int) (l:List Int):List UInt8:=l.flatMap (encP s)
theorem zuX (l:List UInt8):(pctL l).length=3*l.length:=by
 induction l with
 |nil=>rfl
 |cons c l ih=>simp only [pctL,List.flatMap_cons,List.length_append] at ih ⊢;rw [ih];simp [pctB];omega
theorem zuL (s r:Int):(encP s r).length≤12:=by
 have:=zfQ r
 unfold encP
 split
 ·rw [zuX];omega
 ·omega
theorem z6Z (l:List UInt8) (k:Nat) (h:k<l.length):pctL (l.take (k+1))=pctL (l.take k)++pctB l[k]:=by
 unfold pctL
 rw [List.take_succ_eq_append_getElem h,List.flatMap_append]
 simp
theorem z1V (s r:Int) (l:List Int):encB s (r::l)=encP s r++encB s l:=by simp [encB]
theorem z7H (s:Int) (l:List Int) (k:Nat) (h:k<l.length):encB s (l.take (k+1))=encB s (l.take k)++encP s l[k]:=by
 unfold encB
 rw [List.take_succ_eq_append_getElem h,List.flatMap_append]
 simp
theorem zjQ (s:Int) (l:List Int): ∀k,(encB s (l.take k)).length≤12*k
 |0=>by simp [encB]
 |k+1=>by
  have ih:=zjQ s l k
  by_cases h:k<l.length
  ·rw [z7H s l k h,List.length_append];have:=zuL s l[k];omega
  ·rw [List.take_of_length_le (by omega)];rw [List.take_of_length_le (by omega)] at ih;omega
theorem zrL {T e:TypeId} {B b:Nat} {bs:List Value} {w w':World} (h:Lib.IsBuilderF T e B b bs w) (hb:Below w.heap.size w w'):Lib.IsBuilderF T e B b bs w':=by
 have key: ∀p,Lib.BuilderAtF T e B b p bs w→Lib.BuilderAtF T e B b p bs w':=by
  intro p hh
  obtain ⟨hB,v,hv,hown,hne⟩:=hh
  refine ⟨hB,v,(hb.block b (Array.getElem?_eq_some_iff.1 hv).1).trans hv,⟨hown.1,?_⟩,hne⟩
  rcases hown.2 with hn|⟨g,cap,cur,fz,hv2,hbg,hg,rest⟩
  ·exact .inl hn
  ·exact .inr ⟨g,cap,cur,fz,hv2,hbg,(hb.block g (Array.getElem?_eq_some_iff.1 hg).1).trans hg,rest⟩
 exact h.elim (fun x=> .inl (key _ x)) (fun x=> .inr (key _ x))
theorem yfW (w:World) (r:Int) (t:TypeId):RowR (w.alloc (.cells #[.int .i32 r] t)) (.slice (some ⟨w.heap.size,0,none⟩) 1 1) ([r].map (Value.int .i32)):=by
 refine ⟨_,1,rfl,fun j u hj=>⟨_,rfl,?_⟩⟩
 exact zsL w (.int .i32 r) t j u hj
theorem ztQ (l:List UInt8):Lib.strCells ⟨l.toArray⟩=Lib.byteCells l:=rfl
theorem zxW (l:List UInt8) (k:Nat) (h:k<(ByteArray.mk l.toArray).size):(ByteArray.mk l.toArray)[k]=l[k]'(by simpa [ByteArray.size] using h):=rfl
theorem zxZ (st:Int) (s:ByteArray) (w:World) (hst:0≤st) (hs:s.size≤67108864):
  Calls Tryz.prog 152 #[.int .u8 st,.string s] w fun e w'=>e= .returned (.string ⟨(encB st (scal s)).toArray⟩)∧Below w.heap.size w w':=by
 go_enter Tryz.func152,Tryz.ntmps152
 go_wp2
 go_loopw [] (fun wr=> ∃(pos fuel:Nat) (acc:List UInt8),Lib.IsBuilderF 67 5 w.heap.size w.heap.size (Lib.byteCells acc) wr∧wr.heap[w.heap.size+1]? =some (.stringIter s pos)∧Below w.heap.size w wr∧Hid (acc++encB st (zjW s fuel pos)=encB st (scal s))∧s.size≤pos+fuel∧acc.length≤12*pos∧pos≤s.size+4) (fun wr=>s.size - wr.iterPos (w.heap.size+1))
 case atStart=>
  refine ⟨0,s.size,[],(Lib.IsBuilderF.of (Lib.fresh_isBuilder _ _ w)).alloc _,?_,((ygV _ w).alloc (ygS _) _).alloc (by simp) _,rfl,by omega,by simp,by omega⟩
  have:=World.iter_heap (w.alloc (.cells #[.pointer none,.slice none 0 0] 67)) s 0
  simpa using this
 case round=>
  obtain ⟨pos,fuel,acc,hI,hit,hbw,HA,hfu,hal,hpo⟩:=hrel
  have hsz:w.heap.size+1<wr.heap.size:=(Array.getElem?_eq_some_iff.1 hit).1
  by_cases hp:pos<s.size
  ·have hnx: ∀ty,(Instr.next (.pointer (some ⟨w.heap.size+1,0,none⟩)) true ty).run Tryz.prog wr=_:=fun ty=>Lib.run_next_any_at wr (w.heap.size+1) s pos ty hit hp
   have hwd:=zdR s pos hp
   have hwl:=ybO s pos
   have hd1:=decode_le s pos
   have hI2:=hI.iterAt hit (pos+(Utf8.decode s pos).2)
   have hit2:=Lib.iterAt_heap wr (w.heap.size+1) s pos (pos+(Utf8.decode s pos).2) hit
   have hbw2:=Lib.below_iterAt hbw (k:=w.heap.size+1) (by omega) s (pos+(Utf8.decode s pos).2)
   have hsz2:w.heap.size+1<(wr.iterAt (w.heap.size+1) s (pos+(Utf8.decode s pos).2)).heap.size:=by rw [Lib.iterAt_size];omega
   obtain ⟨f,rfl⟩: ∃f,fuel=f+1:=⟨fuel - 1,by omega⟩
   have hA2:=HA.out
   rw [zjA s f pos hp,z1V] at hA2
   have HA2:=ygR hA2
   clear hA2
   generalize wr.iterAt (w.heap.size+1) s (pos+(Utf8.decode s pos).2)=wi at*
   generalize hr:((Utf8.decode s pos).1:Int)=r at*
   have hr0:0≤r:=by omega
   have hr1:r≤2147483647:=by omega
   have HWP:Hid (wr.iterPos (w.heap.size+1)=pos):=by
    show wr.iterPos (w.heap.size+1)=pos
    simp only [World.iterPos,hit]
   clear hr
   have hel:=zfQ r
   cases hin:inB st r with
   |false=>
    have hep:encP st r=Lib.encodeRune r:=by unfold encP;rw [hin];rfl
    have HEP:=ygR hep
    clear hep
    go_wp2_with fail
    refine (ycX st r _ hst).mono ?_
    rintro e w' ⟨rfl,rfl⟩
    rw [hin]
    go_wp2_with fail
    refine (Tryz.Builder_WriteRune_k w.heap.size w.heap.size _ r (by omega) hr1 _ hI2 (by rw [Lib.byteCells_length];omega) (by omega)).mono ?_
    rintro e w1 ⟨rfl,h1,b1,k1⟩
    have hit3:=k1.iter hit2 (by omega)
    go_wp2
    go_roundw
    case rel=>
     refine ⟨pos+(Utf8.decode s pos).2,f,acc++Lib.encodeRune r,?_,hit3,hbw2.trans b1,?_,by omega,by simp;omega,by omega⟩
     ·rw [Lib.byteCells_append,Lib.byteCells_encodeRune];exact .inr h1
     ·show (acc++Lib.encodeRune r)++_=_
      rw [List.append_assoc,←HEP.out];exact HA2.out
    case measure=>
     rw [HWP.out]
     simp only [World.iterPos,hit3]
     omega
   |true=>
    have hep:encP st r=pctL (Lib.encodeRune r):=by unfold encP;rw [hin];rfl
    have HEP:=ygR hep
    clear hep
    go_wp2_with fail
    refine (ycX st r _ hst).mono ?_
    rintro e w' ⟨rfl,rfl⟩
    rw [hin]
    have hrow:=yfW wi r 21
    have hI3:=hI2.alloc (.cells #[.int .i32 r] 21)
    have hit3:(wi.alloc (.cells #[.int .i32 r] 21)).heap[w.heap.size+1]? =some (.stringIter s (pos+(Utf8.decode s pos).2)):=by rw [Below.heap_alloc _ _ _ (by omega)];exact hit2
    have hbw3:=hbw2.alloc (by omega:w.heap.size≤wi.heap.size) (.cells #[.int .i32 r] 21)
    go_wp2_with fail
    refine (z9D _ [r] _ hrow (by simp) (by intro x hx;simp at hx;omega)).mono ?_
    rintro e w2 ⟨rfl,hb2⟩
    have hI4:=zrL hI3 hb2
    have hit4:=(hb2.block (w.heap.size+1) (by simp;omega)).trans hit3
    have hbw4:Below w.heap.size w w2:=hbw3.trans (hb2.mono (by simp;omega))
    clear hI2 hI3 hit2 hit3 hbw2 hbw3 hrow hb2
    rw [show zhY [r]=Lib.encodeRune r from by simp [zhY]]
    generalize hE:Lib.encodeRune r=E at*
    have HE:=ygR hE
    clear hE
    go_wp2
    go_loopw [26] (fun i wq=> ∃j:Nat,j≤E.length∧i= .int .i64 j∧Lib.IsBuilderF 67 5 w.heap.size w.heap.size (Lib.byteCells (acc++pctL (E.take j))) wq∧wq.heap[w.heap.size+1]? =some (.stringIter s (pos+(Utf8.decode s pos).2))∧Below w.heap.size w wq) (fun i _=>E.length - (intOf i).toNat)
    case atStart=>
     refine ⟨0,Nat.zero_le _,rfl,?_,hit4,hbw4⟩
     simpa [pctL] using hI4
    case round=>
     obtain ⟨j,hj,rfl,hIq,hitq,hbwq⟩:=hrel
     have hszq:w.heap.size+1<wr.heap.size:=(Array.getElem?_eq_some_iff.1 hitq).1
     by_cases hjlt:j<E.length
     ·have hjs:j<(ByteArray.mk E.toArray).size:=by rw [zaE];exact hjlt
      have hsn:=z6Z E j hjlt
      have HSN:=ygR hsn
      have hpl:(pctL (E.take j)).length≤12:=by rw [zuX,List.length_take];omega
      clear hsn
      have hba:=zxW E j hjs
      have HBA:=ygR hba
      clear hba
      go_wp2_with fail
      refine (ybA (ByteArray.mk E.toArray)[j] _).mono ?_
      rintro e w3 ⟨rfl,hb3⟩
      have hI5:=zrL hIq hb3
      have hit5:=(hb3.block (w.heap.size+1) (by omega)).trans hitq
      have hbw5:Below w.heap.size w w3:=hbwq.trans (hb3.mono (by omega))
      have hsz3:w.heap.size≤w3.heap.size:=hbw5.size
      go_wp2_with fail
      refine (Tryz.Builder_WriteString_k w.heap.size w.heap.size _ _ _ hI5 (by rw [Lib.byteCells_length,List.length_append,zaE,show (pctB (ByteArray.mk E.toArray)[j]).length=3 from rfl];omega) hsz3).mono ?_
      rintro e w4 ⟨rfl,h4,b4,k4⟩
      have hit6:=k4.iter hit5 (by omega)
      go_wp2
      go_roundw
      case rel=>
       refine ⟨j+1,by omega,by go_num,?_,hit6,hbw5.trans b4⟩
       rw [HSN.out,←List.append_assoc,Lib.byteCells_append,←HBA.out,←ztQ]
       exact .inr h4
      case measure=>simp [intOf];omega
     ·have hfin:pctL (E.take j)=encP st r:=by rw [List.take_of_length_le (by omega),HEP.out]
      rw [hfin] at hIq
      clear hfin
      have hpl:=zuL st r
      generalize encP st r=EP at*
      go_wp2
      go_roundw
      case rel=>
       refine ⟨pos+(Utf8.decode s pos).2,f,acc++EP,hIq,hitq,hbwq,?_,by omega,by simp;omega,by omega⟩
       show (acc++EP)++_=_
       rw [List.append_assoc];exact HA2.out
      case measure=>
       simp only [World.iterPos,hitq]
       have:=HWP.out
       simp only [World.iterPos] at this
       omega
  ·have hnx: ∀ty,(Instr.next (.pointer (some ⟨w.heap.size+1,0,none⟩)) true ty).run Tryz.prog wr=_:=fun ty=>Lib.run_next_end_at wr (w.heap.size+1) s pos ty hit hp
   have hfin:acc=encB st (scal s):=by
    have:=HA.out
    rw [zlW s fuel pos hp] at this
    simpa [encB] using this
   subst hfin
   go_wp2_with fail
   refine (Tryz.Builder_String_any_k w.heap.size w.heap.size _ _ hI (by omega)).mono ?_
   rintro e w1 ⟨rfl,_,b1,_⟩
   go_wp2
   go_ret
   exact ⟨rfl,hbw.trans b1⟩
def digC (b:Int) (c:UInt8):Bool:=decide (0≤valZ (c.toNat:Int)∧valZ (c.toNat:Int)<b)
def zbE (b:Int) (l:List UInt8):Bool:=l.all (digC b)
def capZ (x:Int):Int:=if 1099511627776<x then 1099511627776 else x
def zsR (b:Int) (n:Int) (c:UInt8):Int:=capZ (n*b+valZ (c.toNat:Int))
def numZ (b:Int) (l:List UInt8):Int:=l.foldl (zsR b) 0
def zfB (l:List UInt8):List UInt8×Int:=
 match l with
 |a::c::r=>if a.toNat=48 then (if c.toNat=120∨c.toNat=88 then (r,16) else (c::r,8)) else (a::c::r,10)
 |_=>(l,10)
def zcD (l:List UInt8):Int×Bool:=
 if l.isEmpty then (0,false) else if zbE (zfB l).2 (zfB l).1 then (numZ (zfB l).2 (zfB l).1,true) else (0,false)
theorem zzC (b:Int) (s:ByteArray) (k:Nat) (h:k<s.size):zbE b (s.data.toList.take (k+1))=(zbE b (s.data.toList.take k)&&digC b s[k]):=by
 rw [zcL s k h];simp [zbE]
theorem z3Q (b:Int) (s:ByteArray) (k:Nat) (h:k<s.size):numZ b (s.data.toList.take (k+1))=zsR b (numZ b (s.data.toList.take k)) s[k]:=by
 rw [zcL s k h];simp [numZ]
theorem zpH {b:Int} {c:UInt8} {v:Int} (hv:valZ (c.toNat:Int)=v) (h0:0≤v) (h1:v<b):digC b c=true:=ygU (by rw [hv];exact ⟨h0,h1⟩)
theorem zfE {b:Int} {c:UInt8} {v:Int} (hv:valZ (c.toNat:Int)=v) (h:v<0∨b≤v):digC b c=false:=ygT (by rw [hv];omega)
theorem zdM (b:Int) (s:ByteArray) (k:Nat) (h:k<s.size) (hc:digC b s[k]=false):zbE b s.data.toList=false:=by
 unfold zbE
 rw [List.all_eq_false]
 refine ⟨s[k],?_,by rw [hc];simp⟩
 show s.data[k]∈_
 simp
theorem zjZ (b:Int) (s:ByteArray) (k:Nat) (h:k<s.size) (hp:zbE b (s.data.toList.take k)=true) (hc:digC b s[k]=true):zbE b (s.data.toList.take (k+1))=true:=by
 rw [zzC b s k h,hp,hc];rfl
theorem ziI (r:Int) (h:128≤r):valZ r= -1:=by
 unfold valZ;(repeat' split)<;>omega
theorem zvS (r:Int):valZ r<16:=by
 unfold valZ;(repeat' split)<;>omega
theorem ydY (x:Int):capZ x≤1099511627776:=by unfold capZ;split<;>omega
theorem yfM {x:Int} (h:1099511627776<x):capZ x=1099511627776:=if_pos h
theorem yfF {x:Int} (h: ¬1099511627776<x):capZ x=x:=if_neg h
theorem ybC (b n:Int) (c:UInt8) (v:Int) (hv:valZ (c.toNat:Int)=v):zsR b n c=capZ (n*b+v):=by rw [zsR,hv]
theorem znI (l:List UInt8):(zfB l).2=8∨(zfB l).2=10∨(zfB l).2=16:=by
 unfold zfB
 repeat' split
 all_goals simp
theorem zpB (s:ByteArray) (h:2≤s.size): ∃r,s.data.toList=s[0]::s[1]::r∧s.data.toList.drop 2=r:=by
 refine ⟨s.data.toList.drop 2,?_,rfl⟩
 have e0:s.data.toList=s.data.toList.drop 0:=rfl
 conv=>lhs;rw [e0,List.drop_eq_getElem_cons (by simp;omega),List.drop_eq_getElem_cons (by simp;omega)]
 rfl
theorem ztB (s:ByteArray) (h:s.size<2):zfB s.data.toList=(s.data.toList,10):=by
 have hl:=zaI s
 match hd:s.data.toList,hl with
 |[],_=>rfl
 |[a],_=>rfl
 |a::c::r,hl=>simp at hl;omega
theorem z3Y (s:ByteArray) (h:2≤s.size) (h0:s[0].toNat≠48):zfB s.data.toList=(s.data.toList,10):=by
 obtain ⟨r,hr,_⟩:=zpB s h
 rw [hr];simp [zfB,h0]
theorem z2P (s:ByteArray) (h:2≤s.size) (h0:s[0].toNat=48) (h1:s[1].toNat=120∨s[1].toNat=88):zfB s.data.toList=(s.data.toList.drop 2,16):=by
 obtain ⟨r,hr,h2⟩:=zpB s h
 rw [h2,hr];simp only [zfB,h0,h1,if_true]
theorem z6O (s:ByteArray) (h:2≤s.size) (h0:s[0].toNat=48) (h1: ¬(s[1].toNat=120∨s[1].toNat=88)):zfB s.data.toList=(s.data.toList.drop 1,8):=by
 obtain ⟨r,hr,_⟩:=zpB s h
 rw [hr];simp only [zfB,h0,h1,if_true,if_false];rfl
theorem znF (s:ByteArray) (a:Nat):s.extract a s.size=⟨(s.data.toList.drop a).toArray⟩:=
 zjH s a s.size _ (List.take_of_length_le (by simp))
def z3U (w:World) (x:List UInt8×Int) (e:Ending) (w':World):Prop:=e= .returned (.tuple #[.string ⟨x.1.toArray⟩,.int .i64 x.2])∧w=w'
theorem zgW {w:World} {x:List UInt8×Int} {y:ByteArray} {b:Int} {l:List UInt8} (h:x=(l,b)) (hy:y=⟨l.toArray⟩):z3U w x (.returned (.tuple #[.string y,.int .i64 b])) w:=by
 subst h hy;exact ⟨rfl,rfl⟩
theorem zlM (s:ByteArray) (w:World) (hs:s.size≤1073741824):
  Calls Tryz.prog 216 #[.string s] w (z3U w (zfB s.data.toList)):=by
 by_cases h2:s.size<2
 ·have HR:=ygR (ztB s h2)
  go_enter Tryz.func216,Tryz.ntmps216
  go_wp2
  go_ret2
  exact zgW HR.out (by simp)
 ·have h2':2≤s.size:=by omega
  have l0:0<s.size:=by omega
  have l1:1<s.size:=by omega
  obtain ⟨a,ha⟩: ∃a,s[0].toNat=a:=⟨_,rfl⟩
  obtain ⟨c,hc⟩: ∃a,s[1].toNat=a:=⟨_,rfl⟩
  by_cases h48:a=48
  ·subst h48
   by_cases hx:c=120∨c=88
   ·have HR:=ygR (z2P s h2' ha (by rw [hc];exact hx))
    rcases hx with rfl|rfl
    all_goals
     go_enter Tryz.func216,Tryz.ntmps216
     go_wp2
     go_ret2
     exact zgW HR.out (znF s 2)
   ·have HR:=ygR (z6O s h2' ha (by rw [hc];exact hx))
    have b1:((c:Int)==120)=false:=beq_eq_false_iff_ne.2 (by omega)
    have b2:((c:Int)==88)=false:=beq_eq_false_iff_ne.2 (by omega)
    clear hx
    go_enter Tryz.func216,Tryz.ntmps216
    go_wp2
    go_ret2
    exact zgW HR.out (znF s 1)
  ·have HR:=ygR (z3Y s h2' (by rw [ha];exact h48))
   have b1:((a:Int) !=48)=true:=by rw [bne_iff_ne];omega
   go_enter Tryz.func216,Tryz.ntmps216
   go_wp2
   go_ret2
   exact zgW HR.out (by simp)
def z6I (w:World) (x:Int×Bool) (e:Ending) (w':World):Prop:=e= .returned (.tuple #[.int .u64 x.1,.bool x.2])∧Below w.heap.size w w'
theorem zfW {w w':World} {x:Int×Bool} {n:Int} {b:Bool} (h:x=(n,b)) (hb:Below w.heap.size w w'):z6I w x (.returned (.tuple #[.int .u64 n,.bool b])) w':=by
 subst h;exact ⟨rfl,hb⟩
theorem z7X (l:List UInt8) (r:List UInt8) (b:Int) (h:zfB l=(r,b)) (hd:zbE b r=false):zcD l=(0,false):=by
 unfold zcD
 rw [h,hd]
 split<;>rfl
theorem zxL (l:List UInt8) (r:List UInt8) (b:Int) (h:zfB l=(r,b)) (hn:l≠[]) (hd:zbE b r=true):zcD l=(numZ b r,true):=by
 unfold zcD
 rw [h,hd]
 cases l with
 |nil=>exact absurd rfl hn
 |cons a t=>rfl
theorem zsY (s:ByteArray) (h:s.size=0):s.data.toList=[]:=List.length_eq_zero_iff.1 (by rw [zaI];exact h)
theorem zfD (s:ByteArray) (h:s.size≠0):s.data.toList≠[]:=fun e=>h (by rw [←zaI,e];rfl)
theorem z1E (s:ByteArray):ByteArray.mk s.data.toList.toArray=s:=by simp
theorem zaH (l:List UInt8):(ByteArray.mk l.toArray).data.toList=l:=by simp
theorem zcS (s:ByteArray) (h:s.size=0):s=⟨#[]⟩:=by
 apply ByteArray.ext
 apply Array.ext'
 exact zsY s h
theorem zcW (s:ByteArray) (h:s.size≠0):s.toList.isEmpty=false:=by
 rw [ByteArray.toList_eq]
 cases hd:s.data.toList with
 |nil=>exact absurd hd (zfD s h)
 |cons a l=>rfl
theorem zzN (s:ByteArray) (d:ByteArray) (b:Int) (w:World) (hs:s.size≤1073741824) (hn:s.size≠0) (hb:b=8∨b=10∨b=16) (hr:zfB s.data.toList=(d.data.toList,b)):
  Calls Tryz.prog 199 #[.string s] w (z6I w (zcD s.data.toList)):=by
 have HR:=ygR hr
 have HNO:=ygR (z7X s.data.toList _ b hr)
 have HYES:=ygR (zxL s.data.toList _ b hr (zfD s hn))
 have hse:=zcW s hn
 clear hr hn
 have hb1:8≤b:=by omega
 have hb2:b≤16:=by omega
 clear hb
 go_enter Tryz.func199,Tryz.ntmps199
 go_wp2_with fail
 refine (zlM s _ hs).mono ?_
 rw [HR.out]
 rintro e w' ⟨rfl,rfl⟩
 simp only [z1E]
 go_wp2
 go_loopw [6] (fun n wr=> ∃(k:Nat) (A:Int),n= .int .u64 A∧0≤A∧A≤1099511627776∧k≤d.size∧wr.heap[w.heap.size]? =some (.stringIter d k)∧Below w.heap.size w wr∧w.heap.size+1≤wr.heap.size∧Hid (A=numZ b (d.data.toList.take k))∧Hid (zbE b (d.data.toList.take k)=true)) (fun _ wr=>d.size - wr.iterPos w.heap.size)
 case atStart=>exact ⟨0,0,rfl,by omega,by omega,Nat.zero_le _,World.iter_heap w d 0,(ygV _ w).alloc (ygS _) _,by simp [World.iter],rfl,rfl⟩
 case round=>
  obtain ⟨k,A,rfl,hA0,hA1,hk,hit,hbw,hsz,HA,HDG⟩:=hrel
  by_cases hp:k<d.size
  ·obtain ⟨c,hc⟩: ∃c,(d[k]'hp).toNat=c:=⟨_,rfl⟩
   have hnx: ∀ty,(Instr.next (.pointer (some ⟨w.heap.size,0,none⟩)) true ty).run Tryz.prog wr=_:=fun ty=>Lib.run_next_any_at wr w.heap.size d k ty hit hp
   by_cases hc128:c<128
   ·have hdec:=decode_ascii d k hp (by omega)
    rw [hc] at hdec
    rw [hdec] at hnx
    have hit2:=Lib.iterAt_heap wr w.heap.size d k (k+1) hit
    have hbw2:=Lib.below_iterAt hbw (k:=w.heap.size) (ygS _) d (k+1)
    have hsz2:w.heap.size+1≤(wr.iterAt w.heap.size d (k+1)).heap.size:=by rw [Lib.iterAt_size];exact hsz
    simp only at hnx
    generalize wr.iterAt w.heap.size d (k+1)=wi at*
    obtain ⟨v,hv⟩: ∃v,valZ (c:Int)=v:=⟨_,rfl⟩
    have hv16:v<16:=by rw [←hv];exact zvS _
    have HV:Hid (valZ (d[k].toNat:Int)=v):=by show valZ (d[k].toNat:Int)=v;rw [hc];exact hv
    have HIT:=ygR hit
    have HC:=ygR hc
    clear hit hc hdec
    by_cases h0:v<0
    ·have HF:=ygR (HNO.out (zdM b d k hp (zfE HV.out (.inl h0))))
     go_wp2_with (go_at_call 118;refine (zbI _ _).mono ?_;rintro e w' ⟨rfl,rfl⟩)
     go_ret2
     exact zfW HF.out hbw2
    ·by_cases h1:b≤v
     ·have HF:=ygR (HNO.out (zdM b d k hp (zfE HV.out (.inr h1))))
      go_wp2_with (go_at_call 118;refine (zbI _ _).mono ?_;rintro e w' ⟨rfl,rfl⟩)
      go_ret2
      exact zfW HF.out hbw2
     ·have HF:=ygR (zjZ b d k hp HDG.out (zpH HV.out (by omega) (by omega)))
      have hsn:=z3Q b d k hp
      rw [←HA.out,ybC _ _ _ v HV.out] at hsn
      have HSN:=ygR hsn
      clear hsn
      have hP0:0≤A*b:=Int.mul_nonneg hA0 (by omega)
      have hP1:A*b≤1099511627776*16:=Int.mul_le_mul hA1 hb2 (by omega) (by omega)
      by_cases ht:1099511627776<A*b+v
      ·have HC2:=ygR (HSN.out.trans (yfM ht))
       go_wp2_with (go_at_call 118;refine (zbI _ _).mono ?_;rintro e w' ⟨rfl,rfl⟩)
       go_roundw
       case rel=>exact ⟨k+1,1099511627776,rfl,by omega,by omega,by omega,hit2,hbw2,hsz2,HC2.out.symm,HF⟩
       case measure=>
        simp only [World.iterPos,hit2,HIT.out]
        omega
      ·have HC2:=ygR (HSN.out.trans (yfF ht))
       go_wp2_with (go_at_call 118;refine (zbI _ _).mono ?_;rintro e w' ⟨rfl,rfl⟩)
       go_roundw
       case rel=>exact ⟨k+1,_,rfl,by omega,by omega,by omega,hit2,hbw2,hsz2,HC2.out.symm,HF⟩
       case measure=>
        simp only [World.iterPos,hit2,HIT.out]
        omega
   ·have hh:=decode_high d k hp (by omega)
    obtain ⟨r,hr⟩: ∃r,(Utf8.decode d k).1=r:=⟨_,rfl⟩
    obtain ⟨wd,hwd⟩: ∃r,(Utf8.decode d k).2=r:=⟨_,rfl⟩
    have hrl:=decode_le d k
    rw [hr,hwd] at hnx
    rw [hr,hwd] at hh
    rw [hr] at hrl
    have hbw2:=Lib.below_iterAt hbw (k:=w.heap.size) (ygS _) d (k+wd)
    generalize wr.iterAt w.heap.size d (k+wd)=wi at*
    have hv:valZ (r:Int)= -1:=ziI _ (by omega)
    have HF:=ygR (HNO.out (zdM b d k hp (zfE (ziI _ (by omega)) (.inl (by omega)))))
    clear hc hr hwd
    go_wp2_with (go_at_call 118;refine (zbI _ _).mono ?_;rintro e w' ⟨rfl,rfl⟩)
    go_ret2
    exact zfW HF.out hbw2
  ·have hnx: ∀ty,(Instr.next (.pointer (some ⟨w.heap.size,0,none⟩)) true ty).run Tryz.prog wr=_:=fun ty=>Lib.run_next_end_at wr w.heap.size d k ty hit hp
   have hdt:=HDG.out
   rw [zdL d k hp] at hdt
   have hat:=HA.out
   rw [zdL d k hp] at hat
   have HF:=ygR (HYES.out hdt)
   have HAT:=ygR hat
   clear hdt hat
   go_wp2
   go_ret2
   exact zfW (by rw [HF.out,HAT.out]) hbw
theorem ziN (s:ByteArray) (w:World) (hs:s.size≤1073741824):
  Calls Tryz.prog 199 #[.string s] w (z6I w (zcD s.data.toList)):=by
 by_cases hn:s.size=0
 ·obtain rfl:=zcS s hn
  clear hn hs
  have HF:Hid (zcD (ByteArray.mk #[]).data.toList=(0,false)):=rfl
  go_enter Tryz.func199,Tryz.ntmps199
  go_wp2
  go_ret2
  exact zfW HF.out (ygV _ _)
 ·obtain ⟨⟨r,b⟩,hr⟩: ∃x,zfB s.data.toList=x:=⟨_,rfl⟩
  have hb:=znI s.data.toList
  rw [hr] at hb
  exact zzN s ⟨r.toArray⟩ b w hs hn hb (by rw [zaH];exact hr)
def decN (l:List UInt8):Int:=l.foldl (fun n c=>n*10+valZ (c.toNat:Int)) 0
def decZ (l:List UInt8) (m:Int):Int×Bool:=
 if (l.isEmpty||(decide (1<l.length)&&decide ((l.getD 0 0).toNat=48))|| !zbE 10 l)=true then (0,false) else if m<decN l then (0,false) else (decN l,true)
theorem z6Y (s:ByteArray) (k:Nat) (h:k<s.size):decN (s.data.toList.take (k+1))=decN (s.data.toList.take k)*10+valZ (s[k].toNat:Int):=by
 rw [zcL s k h];simp [decN]
theorem zpE (l:List UInt8): ∀a:Int,0≤a→zbE 10 l=true→a≤l.foldl (fun n c=>n*10+valZ (c.toNat:Int)) a:=by
 induction l with
 |nil=>intro a _ _;exact Int.le_refl _
 |cons c l ih=>
  intro a ha hd
  have h1:digC 10 c=true∧zbE 10 l=true:=by simpa [zbE] using hd
  have h2:=of_decide_eq_true h1.1
  have:=ih (a*10+valZ (c.toNat:Int)) (by omega) h1.2
  exact Int.le_trans (by omega) this
theorem zmJ (l:List UInt8) (hd:zbE 10 l=true):0≤decN l:=zpE l 0 (Int.le_refl _) hd
theorem zxM (b:Int) (l:List UInt8) (k:Nat):zbE b l=(zbE b (l.take k)&&zbE b (l.drop k)):=by
 unfold zbE
 rw [←List.all_append,List.take_append_drop]
theorem zjP (l:List UInt8) (k:Nat) (hd:zbE 10 l=true):decN (l.take k)≤decN l:=by
 have h:=zxM 10 l k
 rw [hd] at h
 have h2:zbE 10 (l.take k)=true∧zbE 10 (l.drop k)=true:=by simpa using h.symm
 have e:decN l=(l.drop k).foldl (fun n c=>n*10+valZ (c.toNat:Int)) (decN (l.take k)):=by
  unfold decN
  rw [←List.foldl_append,List.take_append_drop]
 rw [e]
 exact zpE _ _ (zmJ _ h2.1) h2.2
theorem zqS (l:List UInt8) (m:Int) (h:l=[]∨(1<l.length∧(l.getD 0 0).toNat=48)):decZ l m=(0,false):=by
 unfold decZ
 rw [if_pos]
 rcases h with rfl|⟨h1,h2⟩
 ·rfl
 ·rw [ygU h1,ygU h2];simp
theorem zuI (l:List UInt8) (m:Int) (h:zbE 10 l=false):decZ l m=(0,false):=by
 unfold decZ
 rw [if_pos (by rw [h];simp)]
theorem ybI (l:List UInt8) (m:Int) (k:Nat) (h:m<decN (l.take k)):decZ l m=(0,false):=by
 by_cases hd:zbE 10 l=true
 ·unfold decZ
  split
  ·rfl
  ·rw [if_pos]
   have:=zjP l k hd
   omega
 ·exact zuI l m (by simpa using hd)
theorem ycN (l:List UInt8) (m:Int) (h0:l≠[]) (h1: ¬(1<l.length∧(l.getD 0 0).toNat=48)) (hd:zbE 10 l=true) (hm:decN l≤m):decZ l m=(decN l,true):=by
 unfold decZ
 rw [if_neg,if_neg (by omega)]
 rw [hd]
 cases l with
 |nil=>exact absurd rfl h0
 |cons a r=>
  by_cases e1:1<(a::r).length
  ·rw [ygU e1,ygT (fun e=>h1 ⟨e1,e⟩)];simp
  ·rw [ygT e1];simp
theorem zqR (s:ByteArray) (h:0<s.size):(s.data.toList.getD 0 0).toNat=s[0].toNat:=by
 rw [List.getD,zdG s 0 h];rfl
theorem zzI (r:Int):zaT r=decide (0≤valZ r∧valZ r<10):=by
 unfold zaT valZ
 by_cases h:48≤r∧r≤57
 ·rw [if_pos h,ygU h,ygU (by omega)]
 ·rw [if_neg h,ygT h]
  refine (ygT ?_).symm
  repeat' split
  all_goals omega
theorem zhU (c:UInt8):digC 10 c=zaT (c.toNat:Int):=(zzI _).symm
theorem zqU {r:Int} (h:zaT r=true):48≤r∧r≤57:=of_decide_eq_true h
theorem znN {r:Int} (h1:48≤r) (h2:r≤57):valZ r=r - 48:=if_pos ⟨h1,h2⟩
theorem zfH (r:Int) (h:128≤r):zaT r=false:=ygT (by omega)
def z1Z (w:World) (x:Int×Bool) (e:Ending) (w':World):Prop:=e= .returned (.tuple #[.int .i64 x.1,.bool x.2])∧Below w.heap.size w w'
theorem zdZ {w w':World} {x:Int×Bool} {n:Int} {b:Bool} (h:x=(n,b)) (hb:Below w.heap.size w w'):z1Z w x (.returned (.tuple #[.int .i64 n,.bool b])) w':=by
 subst h;exact ⟨rfl,hb⟩
theorem zqV (s:ByteArray) (m:Int) (w:World) (hs:s.size≤1073741824) (hm:m≤9223372036854775807) (hm0: -9223372036854775808≤m) (hn:1≤s.size) (hz: ¬(1<s.size∧s[0].toNat=48)):
  Calls Tryz.prog 188 #[.string s,.int .i64 m] w (z1Z w (decZ s.data.toList m)):=by
 have HNO:=ygR (zuI s.data.toList m)
 have HBIG:=ygR (ybI s.data.toList m)
 have HYES:=ygR (ycN s.data.toList m (zfD s (by omega)) (by rw [zaI,zqR s (by omega)];exact hz))
 have hse:=zcW s (by omega)
 have l0:0<s.size:=by omega
 obtain ⟨a,ha⟩: ∃a,s[0].toNat=a:=⟨_,rfl⟩
 rw [ha] at hz
 rcases (show s.size≤1∨(1<s.size∧((a:Int)==48)=false) from by
   by_cases h1:1<s.size
   ·exact .inr ⟨h1,beq_eq_false_iff_ne.2 (fun e=>hz ⟨h1,by omega⟩)⟩
   ·exact .inl (by omega)) with h1|⟨h1,hb1⟩
 all_goals
  clear hz
  go_enter Tryz.func188,Tryz.ntmps188
  go_wp2
  go_loopw [6] (fun n wr=> ∃(k:Nat) (A:Int),n= .int .i64 A∧0≤A∧(A=0∨A≤m)∧k≤s.size∧wr.heap[w.heap.size]? =some (.stringIter s k)∧Below w.heap.size w wr∧w.heap.size+1≤wr.heap.size∧Hid (A=decN (s.data.toList.take k))∧Hid (zbE 10 (s.data.toList.take k)=true)∧Hid (1≤k→A≤m)) (fun _ wr=>s.size - wr.iterPos w.heap.size)
  case atStart=>exact ⟨0,0,rfl,by omega,.inl rfl,Nat.zero_le _,World.iter_heap w s 0,(ygV _ w).alloc (ygS _) _,by simp [World.iter],rfl,rfl,fun h=>absurd h (by omega)⟩
  case round=>
   obtain ⟨k,A,rfl,hA0,hA1,hk,hit,hbw,hsz,HA,HDG,HK⟩:=hrel
   have hA2:A≤9223372036854775807:=by omega
   clear hA1
   by_cases hp:k<s.size
   ·obtain ⟨c,hc⟩: ∃c,(s[k]'hp).toNat=c:=⟨_,rfl⟩
    have hnx: ∀ty,(Instr.next (.pointer (some ⟨w.heap.size,0,none⟩)) true ty).run Tryz.prog wr=_:=fun ty=>Lib.run_next_any_at wr w.heap.size s k ty hit hp
    by_cases hc128:c<128
    ·have hdec:=decode_ascii s k hp (by omega)
     rw [hc] at hdec
     rw [hdec] at hnx
     have hit2:=Lib.iterAt_heap wr w.heap.size s k (k+1) hit
     have hbw2:=Lib.below_iterAt hbw (k:=w.heap.size) (ygS _) s (k+1)
     have hsz2:w.heap.size+1≤(wr.iterAt w.heap.size s (k+1)).heap.size:=by rw [Lib.iterAt_size];exact hsz
     simp only at hnx
     generalize wr.iterAt w.heap.size s (k+1)=wi at*
     have HIT:=ygR hit
     have HC:=ygR hc
     clear hit hc hdec
     cases hdg:zaT (c:Int) with
     |false=>
      have HF:=ygR (HNO.out (zdM 10 s k hp (by rw [zhU,HC.out];exact hdg)))
      go_wp2_with (go_at_call 76;refine (zbN _ _).mono ?_;rintro e w' ⟨rfl,rfl⟩)
      go_ret2
      exact zdZ HF.out hbw2
     |true=>
      obtain ⟨hc1,hc2⟩:=zqU hdg
      have hv:valZ (c:Int)=(c:Int) - 48:=znN hc1 hc2
      have HF:=ygR (zjZ 10 s k hp HDG.out (by rw [zhU,HC.out];exact hdg))
      have hsn:=z6Y s k hp
      rw [←HA.out,HC.out,hv] at hsn
      have HSN:=ygR hsn
      clear hsn
      obtain ⟨v,hvv⟩: ∃v:Int,(c:Int) - 48=v:=⟨_,rfl⟩
      have hv0:0≤v:=by omega
      have hv9:v≤9:=by omega
      rw [hvv] at hv
      have HVV:=ygR hvv
      clear hvv
      by_cases hg:m<A*10+v
      ·have HB:=ygR (HBIG.out (k+1) (by rw [HSN.out,HVV.out];exact hg))
       by_cases hg1:m<v
       ·go_wp2_with (first|(go_at_call 76;refine (zbN _ _).mono ?_;rintro e w' ⟨rfl,rfl⟩)|(go_at_call 118;refine (zbI _ _).mono ?_;rintro e w' ⟨rfl,rfl⟩))
        go_ret2
        exact zdZ HB.out hbw2
       ·have hg2:(m - v)/10<A:=by omega
        go_wp2_with (first|(go_at_call 76;refine (zbN _ _).mono ?_;rintro e w' ⟨rfl,rfl⟩)|(go_at_call 118;refine (zbI _ _).mono ?_;rintro e w' ⟨rfl,rfl⟩))
        go_ret2
        exact zdZ HB.out hbw2
      ·have hg1: ¬m<v:=by omega
       have hg2: ¬(m - v)/10<A:=by omega
       go_wp2_with (first|(go_at_call 76;refine (zbN _ _).mono ?_;rintro e w' ⟨rfl,rfl⟩)|(go_at_call 118;refine (zbI _ _).mono ?_;rintro e w' ⟨rfl,rfl⟩))
       go_roundw
       case rel=>exact ⟨k+1,A*10+v,rfl,by omega,by omega,by omega,hit2,hbw2,hsz2,(by show _=_;rw [HSN.out,HVV.out]),HF,fun _=>by omega⟩
       case measure=>
        simp only [World.iterPos,hit2,HIT.out]
        omega
    ·have hh:=decode_high s k hp (by omega)
     obtain ⟨r,hr⟩: ∃r,(Utf8.decode s k).1=r:=⟨_,rfl⟩
     obtain ⟨wd,hwd⟩: ∃r,(Utf8.decode s k).2=r:=⟨_,rfl⟩
     have hrl:=decode_le s k
     rw [hr,hwd] at hnx
     rw [hr,hwd] at hh
     rw [hr] at hrl
     have hbw2:=Lib.below_iterAt hbw (k:=w.heap.size) (ygS _) s (k+wd)
     generalize wr.iterAt w.heap.size s (k+wd)=wi at*
     have hv:zaT (r:Int)=false:=zfH _ (by omega)
     have HF:=ygR (HNO.out (zdM 10 s k hp (by rw [zhU];exact zfH _ (by omega))))
     clear hc hr hwd
     go_wp2_with (go_at_call 76;refine (zbN _ _).mono ?_;rintro e w' ⟨rfl,rfl⟩)
     go_ret2
     exact zdZ HF.out hbw2
   ·have hnx: ∀ty,(Instr.next (.pointer (some ⟨w.heap.size,0,none⟩)) true ty).run Tryz.prog wr=_:=fun ty=>Lib.run_next_end_at wr w.heap.size s k ty hit hp
    have hdt:=HDG.out
    rw [zdL s k hp] at hdt
    have hat:=HA.out
    rw [zdL s k hp] at hat
    have HF:=ygR (HYES.out hdt (by rw [←hat];exact HK.out (by omega)))
    have HAT:=ygR hat
    clear hdt hat
    go_wp2
    go_ret2
    exact zdZ (by rw [HF.out,HAT.out]) hbw
theorem zlZ (s:ByteArray) (m:Int) (w:World) (hs:s.size≤1073741824) (hm:m≤9223372036854775807) (hm0: -9223372036854775808≤m):
  Calls Tryz.prog 188 #[.string s,.int .i64 m] w (z1Z w (decZ s.data.toList m)):=by
 by_cases hn:s.size=0
 ·obtain rfl:=zcS s hn
  have HF:=ygR (zqS (ByteArray.mk #[]).data.toList m (.inl rfl))
  clear hn hs
  go_enter Tryz.func188,Tryz.ntmps188
  go_wp2
  go_ret2
  exact zdZ HF.out (ygV _ _)
 ·by_cases hz:1<s.size∧s[0].toNat=48
  ·obtain ⟨h1,h0⟩:=hz
   have HF:=ygR (zqS s.data.toList m (.inr ⟨by rw [zaI];exact h1,by rw [zqR s (by omega)];exact h0⟩))
   have hse:=zcW s hn
   have l0:0<s.size:=by omega
   go_enter Tryz.func188,Tryz.ntmps188
   go_wp2
   go_ret2
   exact zdZ HF.out (ygV _ _)
  ·exact zqV s m w hs hm hm0 (by omega) hz
def zdV (l:List UInt8):Bool:= !l.isEmpty&&zbE 10 l
theorem z5C {l:List UInt8} (h:zbE 10 l=false):zdV l=false:=by unfold zdV;rw [h];simp
theorem zzA {s:ByteArray} (hn:s.size≠0) (h:zbE 10 s.data.toList=true):zdV s.data.toList=true:=by
 unfold zdV;rw [h]
 cases hd:s.data.toList with
 |nil=>exact absurd hd (zfD s hn)
 |cons a l=>rfl
def zbB (w:World) (b:Bool) (e:Ending) (w':World):Prop:=e= .returned (.bool b)∧Below w.heap.size w w'
theorem zaC {w w':World} {x b:Bool} (h:x=b) (hb:Below w.heap.size w w'):zbB w x (.returned (.bool b)) w':=by
 subst h;exact ⟨rfl,hb⟩
theorem zeW (s:ByteArray) (w:World) (hs:s.size≤1073741824):
  Calls Tryz.prog 198 #[.string s] w (zbB w (zdV s.data.toList)):=by
 by_cases hn:s.size=0
 ·obtain rfl:=zcS s hn
  have HF:Hid (zdV (ByteArray.mk #[]).data.toList=false):=rfl
  clear hn hs
  go_enter Tryz.func198,Tryz.ntmps198
  go_wp2
  go_loopw [] (fun wr=>wr.heap[w.heap.size]? =some (.stringIter ⟨#[]⟩ 0)∧Below w.heap.size w wr) (fun _=>0)
  case atStart=>exact ⟨World.iter_heap w ⟨#[]⟩ 0,(ygV _ w).alloc (ygS _) _⟩
  case round=>
   obtain ⟨hit,hbw⟩:=hrel
   have hnx: ∀ty,(Instr.next (.pointer (some ⟨w.heap.size,0,none⟩)) true ty).run Tryz.prog wr=_:=fun ty=>Lib.run_next_end_at wr w.heap.size ⟨#[]⟩ 0 ty hit (by decide)
   go_wp2
   go_ret
   exact zaC HF.out hbw
 ·have HNO:=ygR (z5C (l:=s.data.toList))
  have HYES:=ygR (zzA hn)
  have hse:=zcW s hn
  clear hn
  go_enter Tryz.func198,Tryz.ntmps198
  go_wp2
  go_loopw [] (fun wr=> ∃(k:Nat),k≤s.size∧wr.heap[w.heap.size]? =some (.stringIter s k)∧Below w.heap.size w wr∧w.heap.size+1≤wr.heap.size∧Hid (zbE 10 (s.data.toList.take k)=true)) (fun wr=>s.size - wr.iterPos w.heap.size)
  case atStart=>exact ⟨0,Nat.zero_le _,World.iter_heap w s 0,(ygV _ w).alloc (ygS _) _,by simp [World.iter],rfl⟩
  case round=>
   obtain ⟨k,hk,hit,hbw,hsz,HDG⟩:=hrel
   by_cases hp:k<s.size
   ·obtain ⟨c,hc⟩: ∃c,(s[k]'hp).toNat=c:=⟨_,rfl⟩
    have hnx: ∀ty,(Instr.next (.pointer (some ⟨w.heap.size,0,none⟩)) true ty).run Tryz.prog wr=_:=fun ty=>Lib.run_next_any_at wr w.heap.size s k ty hit hp
    by_cases hc128:c<128
    ·have hdec:=decode_ascii s k hp (by omega)
     rw [hc] at hdec
     rw [hdec] at hnx
     have hit2:=Lib.iterAt_heap wr w.heap.size s k (k+1) hit
     have hbw2:=Lib.below_iterAt hbw (k:=w.heap.size) (ygS _) s (k+1)
     have hsz2:w.heap.size+1≤(wr.iterAt w.heap.size s (k+1)).heap.size:=by rw [Lib.iterAt_size];exact hsz
     simp only at hnx
     generalize wr.iterAt w.heap.size s (k+1)=wi at*
     have HIT:=ygR hit
     have HC:=ygR hc
     clear hit hc hdec
     cases hdg:zaT (c:Int) with
     |false=>
      have HF:=ygR (HNO.out (zdM 10 s k hp (by rw [zhU,HC.out];exact hdg)))
      go_wp2_with (go_at_call 76;refine (zbN _ _).mono ?_;rintro e w' ⟨rfl,rfl⟩)
      go_ret
      exact zaC HF.out hbw2
     |true=>
      have HF:=ygR (zjZ 10 s k hp HDG.out (by rw [zhU,HC.out];exact hdg))
      go_wp2_with (go_at_call 76;refine (zbN _ _).mono ?_;rintro e w' ⟨rfl,rfl⟩)
      go_roundw
      case rel=>exact ⟨k+1,by omega,hit2,hbw2,hsz2,HF⟩
      case measure=>
       simp only [World.iterPos,hit2,HIT.out]
       omega
    ·have hh:=decode_high s k hp (by omega)
     obtain ⟨r,hr⟩: ∃r,(Utf8.decode s k).1=r:=⟨_,rfl⟩
     obtain ⟨wd,hwd⟩: ∃r,(Utf8.decode s k).2=r:=⟨_,rfl⟩
     have hrl:=decode_le s k
     rw [hr,hwd] at hnx
     rw [hr,hwd] at hh
     rw [hr] at hrl
     have hbw2:=Lib.below_iterAt hbw (k:=w.heap.size) (ygS _) s (k+wd)
     generalize wr.iterAt w.heap.size s (k+wd)=wi at*
     have hv:zaT (r:Int)=false:=zfH _ (by omega)
     have HF:=ygR (HNO.out (zdM 10 s k hp (by rw [zhU];exact zfH _ (by omega))))
     clear hc hr hwd
     go_wp2_with (go_at_call 76;refine (zbN _ _).mono ?_;rintro e w' ⟨rfl,rfl⟩)
     go_ret
     exact zaC HF.out hbw2
   ·have hnx: ∀ty,(Instr.next (.pointer (some ⟨w.heap.size,0,none⟩)) true ty).run Tryz.prog wr=_:=fun ty=>Lib.run_next_end_at wr w.heap.size s k ty hit hp
    have hdt:=HDG.out
    rw [zdL s k hp] at hdt
    have HF:=ygR (HYES.out hdt)
    clear hdt
    go_wp2
    go_ret
    exact zaC HF.out hbw
def ziL (ps:List (List UInt8)):List UInt8:=
 if 1<ps.length∧ps.getD (ps.length - 1) []=[] then ps.getD (ps.length - 2) [] else ps.getD (ps.length - 1) []
def zaM (l:List UInt8):List (List UInt8):=zbH (hasB [46]) l
def zmP (x:List UInt8):Bool:=zdV x||(zcD x).2
def zgB (l:List UInt8):Bool:=zmP (ziL (zaM l))
theorem z8R (p:UInt8→Bool) (l:List UInt8): ∀st:List (List UInt8)×List UInt8,(∀x∈(l.foldl (zaV p) st).1,x∈st.1∨x.length≤st.2.length+l.length)∧(l.foldl (zaV p) st).2.length≤st.2.length+l.length:=by
 induction l with
 |nil=>intro st;exact ⟨fun x hx=> .inl hx,by simp⟩
 |cons c l ih=>
  intro st
  simp only [List.foldl_cons,List.length_cons]
  have h:=ih (zaV p st c)
  by_cases hp:p c=true
  ·have e:zaV p st c=(st.1++[st.2],[]):=by simp [zaV,hp]
   rw [e] at h ⊢
   refine ⟨fun x hx=> ?_,by have:=h.2;simp at this;omega⟩
   rcases h.1 x hx with h1|h1
   ·simp at h1
    rcases h1 with h1|h1
    ·exact .inl h1
    ·subst h1;exact .inr (by omega)
   ·simp at h1;exact .inr (by omega)
  ·have e:zaV p st c=(st.1,st.2++[c]):=by simp [zaV,hp]
   rw [e] at h ⊢
   refine ⟨fun x hx=> ?_,by have:=h.2;simp at this;omega⟩
   rcases h.1 x hx with h1|h1
   ·exact .inl h1
   ·simp at h1;exact .inr (by omega)
theorem z8Z (p:UInt8→Bool) (l x:List UInt8) (h:x∈zbH p l):x.length≤l.length:=by
 have k:=z8R p l ([],[])
 unfold zbH at h
 rcases List.mem_append.1 h with h|h
 ·rcases k.1 x h with h|h
  ·simp at h
  ·simpa using h
 ·simp at h
  subst h
  exact Nat.le_trans k.2 (by simp)
theorem zgX (p:UInt8→Bool) (l:List UInt8) (j:Nat):((zbH p l).getD j []).length≤l.length:=by
 by_cases h:j<(zbH p l).length
 ·refine z8Z p l _ ?_
  rw [List.getD,List.getElem?_eq_getElem h]
  exact List.getElem_mem h
 ·rw [List.getD,List.getElem?_eq_none (by omega)]
  simp
theorem zmF (n:Nat) (x:List UInt8) (ps:List (List UInt8)) (h:ps.length=n+1) (hx:ps.getD n []=x) (hc:n=0∨x≠[]):ziL ps=x:=by
 unfold ziL
 rw [h,Nat.add_sub_cancel,hx,if_neg]
 rintro ⟨h1,h2⟩
 rcases hc with h3|h3
 ·omega
 ·exact h3 h2
theorem ztT (n:Nat) (y:List UInt8) (ps:List (List UInt8)) (h:ps.length=n+2) (hx:ps.getD (n+1) []=[]) (hy:ps.getD n []=y):ziL ps=y:=by
 unfold ziL
 rw [h,show n+2 - 1=n+1 from rfl,hx,if_pos ⟨by omega,rfl⟩,show n+2 - 2=n from rfl,hy]
theorem zdK {x:List UInt8} (h:x≠[]):x.isEmpty=false:=by cases x with|nil=>exact absurd rfl h|cons a l=>rfl
theorem zhV {x:List UInt8} (h:zdV x=true):zmP x=true:=by unfold zmP;rw [h];rfl
theorem zhL {x:List UInt8} {b:Bool} (h:zdV x=false) (hb:(zcD x).2=b):zmP x=b:=by unfold zmP;rw [h,hb];rfl
theorem z9T (s:ByteArray) (w:World) (hs:s.size≤1073741824) (x:List UInt8) (hl:(zaM s.data.toList).length=1) (hx:(zaM s.data.toList).getD 0 []=x):
  Calls Tryz.prog 168 #[.string s] w (zbB w (zgB s.data.toList)):=by
 have hxl:x.length≤s.size:=by rw [←hx,←zaI];exact zgX _ _ _
 have HE0:=ygR (show zgB s.data.toList=zmP x from by unfold zgB;rw [zmF 0 x _ hl hx (.inl rfl)])
 have HL:=ygR hl
 have HX:=ygR hx
 clear hl hx
 go_enter Tryz.func168,Tryz.ntmps168
 go_wp2_with fail
 refine (zcQ s _ _ hs).mono ?_
 rintro e w1 ⟨v,rfl,hp,hb1⟩
 have hp':zaY w.heap.size w1 v (zaM s.data.toList):=hp
 obtain ⟨g,cap,rfl,hg,hcell⟩:=hp'.form (by rw [HL.out];omega)
 rw [HL.out]
 rw [HL.out] at hcell
 have hcx:=hcell 0 (by omega)
 rw [HX.out] at hcx
 clear hcell hp hp'
 by_cases haz:zdV x=true
 -- digits alone
 ·have HE:=ygR (HE0.out.trans (zhV haz))
  have HAZ:=ygR haz
  clear haz
  go_wp2_with fail
  refine (zeW ⟨x.toArray⟩ _ (by rw [zaE];omega)).mono ?_
  rw [zaH,HAZ.out]
  rintro e w2 ⟨rfl,hb2⟩
  have hc2:Below w.heap.size w w2:=hb1.trans (hb2.mono hb1.size)
  clear hb1 hb2
  go_wp2
  go_ret
  exact zaC HE.out hc2
 ·have haf:zdV x=false:=by simpa using haz
  have HE:=ygR (HE0.out.trans (zhL haf rfl))
  have HAZ:=ygR haf
  clear haz haf
  go_wp2_with fail
  refine (zeW ⟨x.toArray⟩ _ (by rw [zaE];omega)).mono ?_
  rw [zaH,HAZ.out]
  rintro e w2 ⟨rfl,hb2⟩
  have hc2:Below w.heap.size w w2:=hb1.trans (hb2.mono hb1.size)
  have hcx2:=(hb2.cell (p:=⟨g,0,none⟩) hg).trans hcx
  clear hb1 hb2 hcx
  go_wp2_with fail
  refine (ziN ⟨x.toArray⟩ _ (by rw [zaE];omega)).mono ?_
  rw [zaH]
  rintro e w3 ⟨rfl,hb3⟩
  have hc3:Below w.heap.size w w3:=hc2.trans (hb3.mono hc2.size)
  clear hc2 hb3 hcx2
  go_wp2
  go_ret
  exact zaC HE.out hc3
theorem zxB (s:ByteArray) (w:World) (hs:s.size≤1073741824) (n:Nat) (x:List UInt8) (hl:(zaM s.data.toList).length=n+2) (hx:(zaM s.data.toList).getD (n+1) []=x) (hne:x≠[]):
  Calls Tryz.prog 168 #[.string s] w (zbB w (zgB s.data.toList)):=by
 have hxl:x.length≤s.size:=by rw [←hx,←zaI];exact zgX _ _ _
 have HE0:=ygR (show zgB s.data.toList=zmP x from by unfold zgB;rw [zmF (n+1) x _ hl hx (.inr hne)])
 have hxe:x.isEmpty=false:=zdK hne
 have HL:=ygR hl
 have HX:=ygR hx
 clear hl hx hne
 have hnb:n≤1073741824:=by
  have h1:=zcC (hasB [46]) s.data.toList
  rw [zaI] at h1
  have h2:=HL.out
  unfold zaM at h2
  omega
 go_enter Tryz.func168,Tryz.ntmps168
 go_wp2_with fail
 refine (zcQ s _ _ hs).mono ?_
 rintro e w1 ⟨v,rfl,hp,hb1⟩
 have hp':zaY w.heap.size w1 v (zaM s.data.toList):=hp
 obtain ⟨g,cap,rfl,hg,hcell⟩:=hp'.form (by rw [HL.out];omega)
 rw [HL.out]
 rw [HL.out] at hcell
 have hcx:=hcell (n+1) (by omega)
 rw [HX.out] at hcx
 clear hcell hp hp'
 by_cases haz:zdV x=true
 -- digits alone
 ·have HE:=ygR (HE0.out.trans (zhV haz))
  have HAZ:=ygR haz
  clear haz
  go_wp2_with fail
  refine (zeW ⟨x.toArray⟩ _ (by rw [zaE];omega)).mono ?_
  rw [zaH,HAZ.out]
  rintro e w2 ⟨rfl,hb2⟩
  have hc2:Below w.heap.size w w2:=hb1.trans (hb2.mono hb1.size)
  clear hb1 hb2
  go_wp2
  go_ret
  exact zaC HE.out hc2
 ·have haf:zdV x=false:=by simpa using haz
  have HE:=ygR (HE0.out.trans (zhL haf rfl))
  have HAZ:=ygR haf
  clear haz haf
  go_wp2_with fail
  refine (zeW ⟨x.toArray⟩ _ (by rw [zaE];omega)).mono ?_
  rw [zaH,HAZ.out]
  rintro e w2 ⟨rfl,hb2⟩
  have hc2:Below w.heap.size w w2:=hb1.trans (hb2.mono hb1.size)
  have hcx2:=(hb2.cell (p:=⟨g,(n+1),none⟩) hg).trans hcx
  clear hb1 hb2 hcx
  go_wp2_with fail
  refine (ziN ⟨x.toArray⟩ _ (by rw [zaE];omega)).mono ?_
  rw [zaH]
  rintro e w3 ⟨rfl,hb3⟩
  have hc3:Below w.heap.size w w3:=hc2.trans (hb3.mono hc2.size)
  clear hc2 hb3 hcx2
  go_wp2
  go_ret
  exact zaC HE.out hc3
theorem zqB (s:ByteArray) (w:World) (hs:s.size≤1073741824) (n:Nat) (x:List UInt8) (hl:(zaM s.data.toList).length=n+2) (hx:(zaM s.data.toList).getD n []=x) (hy:(zaM s.data.toList).getD (n+1) []=[]):
  Calls Tryz.prog 168 #[.string s] w (zbB w (zgB s.data.toList)):=by
 have hxl:x.length≤s.size:=by rw [←hx,←zaI];exact zgX _ _ _
 have HE0:=ygR (show zgB s.data.toList=zmP x from by unfold zgB;rw [ztT n x _ hl hy hx])
 have HL:=ygR hl
 have HX:=ygR hx
 have HY:=ygR hy
 clear hl hx hy
 have hnb:n≤1073741824:=by
  have h1:=zcC (hasB [46]) s.data.toList
  rw [zaI] at h1
  have h2:=HL.out
  unfold zaM at h2
  omega
 go_enter Tryz.func168,Tryz.ntmps168
 go_wp2_with fail
 refine (zcQ s _ _ hs).mono ?_
 rintro e w1 ⟨v,rfl,hp,hb1⟩
 have hp':zaY w.heap.size w1 v (zaM s.data.toList):=hp
 obtain ⟨g,cap,rfl,hg,hcell⟩:=hp'.form (by rw [HL.out];omega)
 rw [HL.out]
 rw [HL.out] at hcell
 have hcx:=hcell n (by omega)
 rw [HX.out] at hcx
 have hcy:=hcell (n+1) (by omega)
 rw [HY.out] at hcy
 clear hcell hp hp'
 by_cases haz:zdV x=true
 -- digits alone
 ·have HE:=ygR (HE0.out.trans (zhV haz))
  have HAZ:=ygR haz
  clear haz
  go_wp2_with fail
  refine (zeW ⟨x.toArray⟩ _ (by rw [zaE];omega)).mono ?_
  rw [zaH,HAZ.out]
  rintro e w2 ⟨rfl,hb2⟩
  have hc2:Below w.heap.size w w2:=hb1.trans (hb2.mono hb1.size)
  clear hb1 hb2
  go_wp2
  go_ret
  exact zaC HE.out hc2
 ·have haf:zdV x=false:=by simpa using haz
  have HE:=ygR (HE0.out.trans (zhL haf rfl))
  have HAZ:=ygR haf
  clear haz haf
  go_wp2_with fail
  refine (zeW ⟨x.toArray⟩ _ (by rw [zaE];omega)).mono ?_
  rw [zaH,HAZ.out]
  rintro e w2 ⟨rfl,hb2⟩
  have hc2:Below w.heap.size w w2:=hb1.trans (hb2.mono hb1.size)
  have hcx2:=(hb2.cell (p:=⟨g,n,none⟩) hg).trans hcx
  clear hb1 hb2 hcx
  go_wp2_with fail
  refine (ziN ⟨x.toArray⟩ _ (by rw [zaE];omega)).mono ?_
  rw [zaH]
  rintro e w3 ⟨rfl,hb3⟩
  have hc3:Below w.heap.size w w3:=hc2.trans (hb3.mono hc2.size)
  clear hc2 hb3 hcx2
  go_wp2
  go_ret
  exact zaC HE.out hc3
theorem ycM (s:ByteArray) (w:World) (hs:s.size≤1073741824):
  Calls Tryz.prog 168 #[.string s] w (zbB w (zgB s.data.toList)):=by
 have h0:0<(zaM s.data.toList).length:=ziD _ _
 by_cases h1:(zaM s.data.toList).length=1
 ·exact z9T s w hs _ h1 rfl
 ·obtain ⟨n,hn⟩: ∃n,(zaM s.data.toList).length=n+2:=⟨(zaM s.data.toList).length - 2,by omega⟩
  by_cases he:(zaM s.data.toList).getD (n+1) []=[]
  ·exact zqB s w hs n _ hn rfl he
  ·exact zxB s w hs n _ hn rfl he
theorem zvU (p:UInt8→Bool) (l:List UInt8): ∀(xs:List (List UInt8)) (t:List UInt8),(∀c∈l,p c=false)→l.foldl (zaV p) (xs,t)=(xs,t++l):=by
 induction l with
 |nil=>intro xs t _;simp
 |cons c l ih=>
  intro xs t h
  have hc:=h c (by simp)
  simp only [List.foldl_cons,zaV,hc]
  rw [show (if false=true then (xs++[t],[]) else (xs,t++[c]))=(xs,t++[c]) from rfl,ih _ _ (fun d hd=>h d (by simp [hd]))]
  simp
theorem has46 (c:UInt8):hasB [46] c=decide (c=46):=by
 simp only [hasB,List.any_cons,List.any_nil,Bool.or_false]
 by_cases h:c=46
 ·subst h;rfl
 ·rw [ygT h];exact beq_eq_false_iff_ne.2 (fun e=>h e.symm)
end
end
section
open Go.RowKit
theorem z1H (n:Nat) (h:n<16):valZ ((hexN n).toNat:Int)=n∧(hexN n).toNat≠37∧(hexN n).toNat<128:=by
 have key: ∀n:Fin 16,valZ ((hexN n.val).toNat:Int)=n.val∧(hexN n.val).toNat≠37∧(hexN n.val).toNat<128:=by decide+kernel
 exact key ⟨n,h⟩
theorem ycW (st:Nat) (n:Nat) (hs:st<6) (h:n<16):inB st ((hexN n).toNat:Int)=false∧inB st 37=false:=by
 have key: ∀st:Fin 6,∀n:Fin 16,inB (st.val:Int) ((hexN n.val).toNat:Int)=false∧inB (st.val:Int) 37=false:=by decide+kernel
 exact key ⟨st,hs⟩ ⟨n,h⟩
theorem zrM {st r:Int} (h0:0≤st) (h1:st≤5) (h:inB st r=false):31<r∧r≤126:=by
 by_cases hc:r≤31∨126<r
 ·rw [z4X h0 h1 hc] at h;cases h
 ·omega
theorem zjR {r:Int} (h0:0≤r) (h1:r<128):Lib.encodeRune r=[r.toNat.toUInt8]:=by
 unfold Lib.encodeRune
 rw [Lib.encodeRuneZ_one h0 (by omega)]
 rfl
theorem zrY (st:Int) (h0:0≤st) (h1:st≤5) (l:List Int): ∀b∈encB st l,b.toNat<128∧inB st (b.toNat:Int)=false:=by
 intro b hb
 obtain ⟨r,_,hb⟩:=List.mem_flatMap.1 hb
 cases hin:inB st r with
 |true=>
  have e:encP st r=pctL (Lib.encodeRune r):=by unfold encP;rw [hin];rfl
  rw [e] at hb
  obtain ⟨c,_,hb⟩:=List.mem_flatMap.1 hb
  have hc:=c.toNat_lt
  have hst:st=(st.toNat:Int):=(Int.toNat_of_nonneg h0).symm
  have k1:=ycW st.toNat (c.toNat/16) (by omega) (by omega)
  have k2:=ycW st.toNat (c.toNat % 16) (by omega) (by omega)
  rw [←hst] at k1 k2
  have v1:=z1H (c.toNat/16) (by omega)
  have v2:=z1H (c.toNat % 16) (by omega)
  simp only [pctB,List.mem_cons,List.not_mem_nil,or_false] at hb
  rcases hb with rfl|rfl|rfl
  ·exact ⟨by decide,k1.2⟩
  ·exact ⟨v1.2.2,k1.1⟩
  ·exact ⟨v2.2.2,k2.1⟩
 |false=>
  have e:encP st r=Lib.encodeRune r:=by unfold encP;rw [hin];rfl
  have ha:=zrM h0 h1 hin
  rw [e,zjR (by omega) (by omega)] at hb
  simp only [List.mem_cons,List.not_mem_nil,or_false] at hb
  subst hb
  rw [u8_of r (by omega) (by omega),Int.toNat_of_nonneg (by omega)]
  exact ⟨by omega,hin⟩
end
end Go.Proofs.YtppgdppmheiocaaGreatDoor
