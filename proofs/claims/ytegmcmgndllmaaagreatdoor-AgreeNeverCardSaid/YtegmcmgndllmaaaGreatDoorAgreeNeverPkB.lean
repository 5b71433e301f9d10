/-
  What the law AgreeNever leans on, and its walk (2 of 42).
-/
import Derived.IntWalk
import Derived.StillTailTactics
import Derived.Deep.RegionHeld3
import Derived.Deep.AppendLies
import Derived.Test.YtegmcmgndllmaaaGreatDoorAgreeNeverPkA
namespace Go.Proofs.YtegmcmgndllmaaaGreatDoor
set_option maxRecDepth 100000
set_option maxHeartbeats 16000000
abbrev yjZ := @Lib.hid
abbrev ykA := @Nat.le_refl
abbrev ykB := @decide_eq_false
abbrev ykC := @decide_eq_true
abbrev ykD := @Go.RowKit.Below.refl
section
section
open Go.RowKit
def hexN (n:Nat):UInt8:=([48,49,50,51,52,53,54,55,56,57,65,66,67,68,69,70]:List UInt8).getD n 0
def pctB (c:UInt8):List UInt8:=[37,hexN (c.toNat/16),hexN (c.toNat % 16)]
theorem ygL (n:Nat) (h:n<(ByteArray.mk #[48,49,50,51,52,53,54,55,56,57,65,66,67,68,69,70]).size):((ByteArray.mk #[48,49,50,51,52,53,54,55,56,57,65,66,67,68,69,70])[n]'h).toNat=(hexN n).toNat:=by
 have key: ∀n:Fin 16,((ByteArray.mk #[48,49,50,51,52,53,54,55,56,57,65,66,67,68,69,70])[n.val]'n.isLt).toNat=(hexN n.val).toNat:=by decide
 exact key ⟨n,h⟩
theorem ycU (c:UInt8) (w:World):
  Calls Tryz.prog 275 #[.int .u8 (c.toNat:Int)] w fun e w'=>e= .returned (.string ⟨(pctB c).toArray⟩)∧Below w.heap.size w w':=by
 obtain ⟨n,m⟩: ∃n,c.toNat=n:=⟨_,rfl⟩
 have E:n<256:=by rw [←m];exact c.toNat_lt
 have hR:pctB c=[37,hexN (n/16),hexN (n % 16)]:=by unfold pctB;rw [m]
 rw [m,hR]
 clear m hR c
 have A:(0:Int)≤(n:Int)/16:=by omega
 have B:(n:Int)/16<16:=by omega
 have D:(0:Int)≤(n:Int) % 16:=by omega
 have C:(n:Int) % 16<16:=by omega
 have j:n/16<(ByteArray.mk #[48,49,50,51,52,53,54,55,56,57,65,66,67,68,69,70]).size:=by show n/16<16;omega
 have i:n % 16<(ByteArray.mk #[48,49,50,51,52,53,54,55,56,57,65,66,67,68,69,70]).size:=by show n % 16<16;omega
 have f:=yfZ (P:=Tryz.prog) w.drew 158 9 5 [37,(((ByteArray.mk #[48,49,50,51,52,53,54,55,56,57,65,66,67,68,69,70])[n/16]'j).toNat:Int),(((ByteArray.mk #[48,49,50,51,52,53,54,55,56,57,65,66,67,68,69,70])[n % 16]'i).toNat:Int)]
  (by
   intro x o
   simp only [List.mem_cons,List.not_mem_nil,or_false] at o
   rcases o with rfl|rfl|rfl
   ·decide
   ·have:=((ByteArray.mk #[48,49,50,51,52,53,54,55,56,57,65,66,67,68,69,70])[n/16]'j).toNat_lt;omega
   ·have:=((ByteArray.mk #[48,49,50,51,52,53,54,55,56,57,65,66,67,68,69,70])[n % 16]'i).toNat_lt;omega)
  Tryz.underlying158 Tryz.underlying5 Tryz.underlying9
 have d:(convert 158 9 (.slice (some ⟨w.heap.size,0,none⟩) 3 3)).run Tryz.prog ((w.alloc (.cells #[.int .u8 37,.int .u8 (((ByteArray.mk #[48,49,50,51,52,53,54,55,56,57,65,66,67,68,69,70])[n/16]'j).toNat:Int),.int .u8 (((ByteArray.mk #[48,49,50,51,52,53,54,55,56,57,65,66,67,68,69,70])[n % 16]'i).toNat:Int)] 5)).drew)=_:=f
 clear f
 have hR:zoY [37,(((ByteArray.mk #[48,49,50,51,52,53,54,55,56,57,65,66,67,68,69,70])[n/16]'j).toNat:Int),(((ByteArray.mk #[48,49,50,51,52,53,54,55,56,57,65,66,67,68,69,70])[n % 16]'i).toNat:Int)]=[37,hexN (n/16),hexN (n % 16)]:=by
  simp only [zoY,List.map_cons,List.map_nil,ygL _ j,ygL _ i,zjD]
  rfl
 rw [hR] at d
 clear hR
 generalize [37,hexN (n/16),hexN (n % 16)]=R at d ⊢
 go_enter Tryz.func275,Tryz.ntmps275
 go_wp2
 go_region
 all_goals (go_wp2;go_ret;exact ⟨rfl,((ykD _ _).alloc (ykA _) _).drew⟩)
def setL:Nat→List Int
 |1=>[32,34,60,62,96]
 |2=>[32,34,35,60,62]
 |3=>[32,34,35,60,62,39]
 |4=>[32,34,35,60,62,63,94,96,123,125]
 |5=>[32,34,35,60,62,63,94,96,123,125,47,58,59,61,64,91,92,93,124]
 |_=>[]
def inB (s r:Int):Bool:=decide (0≤s∧s≤5)&&(decide (r≤31∨126<r)||(setL s.toNat).contains r)
theorem yiE {s r:Int} (h:s<0∨5<s):inB s r=false:=by
 unfold inB
 rw [ykB (by omega)];rfl
theorem z5X {s r:Int} (f:0≤s) (d:s≤5) (h:r≤31∨126<r):inB s r=true:=by
 unfold inB
 rw [ykC ⟨f,d⟩,ykC h];rfl
theorem zkM {s r:Int} (f:0≤s) (d:s≤5) (i:31<r) (j:r≤126):inB s r=(setL s.toNat).contains r:=by
 unfold inB
 rw [ykC ⟨f,d⟩,ykB (by omega)];simp
theorem yhS (n:Nat) (h:n<127):decide (0≤Lib.indexByte ([]:List UInt8) n.toUInt8)=(setL 0).contains (n:Int):=by
 have key: ∀n:Fin 127,decide (0≤Lib.indexByte ([]:List UInt8) n.val.toUInt8)=(setL 0).contains (n.val:Int):=by decide+kernel
 exact key ⟨n,h⟩
theorem yhQ (r:Int) (w:World) (f:31<r) (m:r≤126):
  Calls Tryz.prog 272 #[.int .u8 0,.int .i32 r] w fun e w'=>e= .returned (.bool (inB 0 r))∧w=w':=by
 obtain ⟨n,rfl⟩:=Int.eq_ofNat_of_zero_le (show 0≤r by omega)
 have j:=yjZ ((zkM (s:=0) (by decide) (by decide) f m).trans (yhS n (by omega)).symm)
 go_enter Tryz.func272,Tryz.ntmps272
 go_wp2_with (first|(go_at_call 88;refine (Tryz.strings_ContainsRune_ascii _ _ _ (by omega) (by omega)).mono ?_;rintro e w' ⟨rfl,rfl⟩)|go_in)
 go_ret
 exact ⟨zaY (by rw [j.out];have d:decide ((n:Int)≤31)=false:=ykB (by omega);have i:decide (126<(n:Int))=false:=ykB (by omega);simp only [d,i,Bool.false_or]),rfl⟩
theorem yiG (n:Nat) (h:n<127):decide (0≤Lib.indexByte ([32,34,60,62,96]:List UInt8) n.toUInt8)=(setL 1).contains (n:Int):=by
 have key: ∀n:Fin 127,decide (0≤Lib.indexByte ([32,34,60,62,96]:List UInt8) n.val.toUInt8)=(setL 1).contains (n.val:Int):=by decide+kernel
 exact key ⟨n,h⟩
theorem yiM (r:Int) (w:World) (f:31<r) (m:r≤126):
  Calls Tryz.prog 272 #[.int .u8 1,.int .i32 r] w fun e w'=>e= .returned (.bool (inB 1 r))∧w=w':=by
 obtain ⟨n,rfl⟩:=Int.eq_ofNat_of_zero_le (show 0≤r by omega)
 have j:=yjZ ((zkM (s:=1) (by decide) (by decide) f m).trans (yiG n (by omega)).symm)
 go_enter Tryz.func272,Tryz.ntmps272
 go_wp2_with (first|(go_at_call 88;refine (Tryz.strings_ContainsRune_ascii _ _ _ (by omega) (by omega)).mono ?_;rintro e w' ⟨rfl,rfl⟩)|go_in)
 go_ret
 exact ⟨zaY (by rw [j.out];have d:decide ((n:Int)≤31)=false:=ykB (by omega);have i:decide (126<(n:Int))=false:=ykB (by omega);simp only [d,i,Bool.false_or]),rfl⟩
theorem yhL (n:Nat) (h:n<127):decide (0≤Lib.indexByte ([32,34,35,60,62]:List UInt8) n.toUInt8)=(setL 2).contains (n:Int):=by
 have key: ∀n:Fin 127,decide (0≤Lib.indexByte ([32,34,35,60,62]:List UInt8) n.val.toUInt8)=(setL 2).contains (n.val:Int):=by decide+kernel
 exact key ⟨n,h⟩
theorem yiH (r:Int) (w:World) (f:31<r) (m:r≤126):
  Calls Tryz.prog 272 #[.int .u8 2,.int .i32 r] w fun e w'=>e= .returned (.bool (inB 2 r))∧w=w':=by
 obtain ⟨n,rfl⟩:=Int.eq_ofNat_of_zero_le (show 0≤r by omega)
 have j:=yjZ ((zkM (s:=2) (by decide) (by decide) f m).trans (yhL n (by omega)).symm)
 go_enter Tryz.func272,Tryz.ntmps272
 go_wp2_with (first|(go_at_call 88;refine (Tryz.strings_ContainsRune_ascii _ _ _ (by omega) (by omega)).mono ?_;rintro e w' ⟨rfl,rfl⟩)|go_in)
 go_ret
 exact ⟨zaY (by rw [j.out];have d:decide ((n:Int)≤31)=false:=ykB (by omega);have i:decide (126<(n:Int))=false:=ykB (by omega);simp only [d,i,Bool.false_or]),rfl⟩
theorem yhB (n:Nat) (h:n<127):decide (0≤Lib.indexByte ([32,34,35,60,62,39]:List UInt8) n.toUInt8)=(setL 3).contains (n:Int):=by
 have key: ∀n:Fin 127,decide (0≤Lib.indexByte ([32,34,35,60,62,39]:List UInt8) n.val.toUInt8)=(setL 3).contains (n.val:Int):=by decide+kernel
 exact key ⟨n,h⟩
theorem yjB (r:Int) (w:World) (f:31<r) (m:r≤126):
  Calls Tryz.prog 272 #[.int .u8 3,.int .i32 r] w fun e w'=>e= .returned (.bool (inB 3 r))∧w=w':=by
 obtain ⟨n,rfl⟩:=Int.eq_ofNat_of_zero_le (show 0≤r by omega)
 have j:=yjZ ((zkM (s:=3) (by decide) (by decide) f m).trans (yhB n (by omega)).symm)
 go_enter Tryz.func272,Tryz.ntmps272
 go_wp2_with (first|(go_at_call 88;refine (Tryz.strings_ContainsRune_ascii _ _ _ (by omega) (by omega)).mono ?_;rintro e w' ⟨rfl,rfl⟩)|go_in)
 go_ret
 exact ⟨zaY (by rw [j.out];have d:decide ((n:Int)≤31)=false:=ykB (by omega);have i:decide (126<(n:Int))=false:=ykB (by omega);simp only [d,i,Bool.false_or]),rfl⟩
theorem yhE (n:Nat) (h:n<127):decide (0≤Lib.indexByte ([32,34,35,60,62,63,94,96,123,125]:List UInt8) n.toUInt8)=(setL 4).contains (n:Int):=by
 have key: ∀n:Fin 127,decide (0≤Lib.indexByte ([32,34,35,60,62,63,94,96,123,125]:List UInt8) n.val.toUInt8)=(setL 4).contains (n.val:Int):=by decide+kernel
 exact key ⟨n,h⟩
theorem yhU (r:Int) (w:World) (f:31<r) (m:r≤126):
  Calls Tryz.prog 272 #[.int .u8 4,.int .i32 r] w fun e w'=>e= .returned (.bool (inB 4 r))∧w=w':=by
 obtain ⟨n,rfl⟩:=Int.eq_ofNat_of_zero_le (show 0≤r by omega)
 have j:=yjZ ((zkM (s:=4) (by decide) (by decide) f m).trans (yhE n (by omega)).symm)
 go_enter Tryz.func272,Tryz.ntmps272
 go_wp2_with (first|(go_at_call 88;refine (Tryz.strings_ContainsRune_ascii _ _ _ (by omega) (by omega)).mono ?_;rintro e w' ⟨rfl,rfl⟩)|go_in)
 go_ret
 exact ⟨zaY (by rw [j.out];have d:decide ((n:Int)≤31)=false:=ykB (by omega);have i:decide (126<(n:Int))=false:=ykB (by omega);simp only [d,i,Bool.false_or]),rfl⟩
theorem yhC (n:Nat) (h:n<127):decide (0≤Lib.indexByte ([32,34,35,60,62,63,94,96,123,125,47,58,59,61,64,91,92,93,124]:List UInt8) n.toUInt8)=(setL 5).contains (n:Int):=by
 have key: ∀n:Fin 127,decide (0≤Lib.indexByte ([32,34,35,60,62,63,94,96,123,125,47,58,59,61,64,91,92,93,124]:List UInt8) n.val.toUInt8)=(setL 5).contains (n.val:Int):=by decide+kernel
 exact key ⟨n,h⟩
theorem yiT (r:Int) (w:World) (f:31<r) (m:r≤126):
  Calls Tryz.prog 272 #[.int .u8 5,.int .i32 r] w fun e w'=>e= .returned (.bool (inB 5 r))∧w=w':=by
 obtain ⟨n,rfl⟩:=Int.eq_ofNat_of_zero_le (show 0≤r by omega)
 have j:=yjZ ((zkM (s:=5) (by decide) (by decide) f m).trans (yhC n (by omega)).symm)
 go_enter Tryz.func272,Tryz.ntmps272
 go_wp2_with (first|(go_at_call 88;refine (Tryz.strings_ContainsRune_ascii _ _ _ (by omega) (by omega)).mono ?_;rintro e w' ⟨rfl,rfl⟩)|go_in)
 go_ret
 exact ⟨zaY (by rw [j.out];have d:decide ((n:Int)≤31)=false:=ykB (by omega);have i:decide (126<(n:Int))=false:=ykB (by omega);simp only [d,i,Bool.false_or]),rfl⟩
theorem in_ctl (s r:Int) (w:World) (i:0≤s) (f:s≤5) (h:r≤31∨126<r):
  Calls Tryz.prog 272 #[.int .u8 s,.int .i32 r] w fun e w'=>e= .returned (.bool (inB s r))∧w=w':=by
 have d:=yjZ (z5X i f h)
 rcases h with h|h
 ·go_enter Tryz.func272,Tryz.ntmps272
  go_wp2
  go_ret
  exact ⟨zaY d.out.symm,rfl⟩
 ·go_enter Tryz.func272,Tryz.ntmps272
  go_wp2
  go_ret
  exact ⟨zaY d.out.symm,rfl⟩
theorem in_out (s r:Int) (w:World) (h:5<s):
  Calls Tryz.prog 272 #[.int .u8 s,.int .i32 r] w fun e w'=>e= .returned (.bool (inB s r))∧w=w':=by
 have d:=yjZ (yiE (s:=s) (r:=r) (.inr h))
 go_enter Tryz.func272,Tryz.ntmps272
 go_wp2
 go_ret
 exact ⟨zaY d.out.symm,rfl⟩
theorem ygK (s r:Int) (w:World) (i:0≤s):
  Calls Tryz.prog 272 #[.int .u8 s,.int .i32 r] w fun e w'=>e= .returned (.bool (inB s r))∧w=w':=by
 by_cases f:5<s
 ·exact in_out s r w f
 ·by_cases d:r≤31∨126<r
  ·exact in_ctl s r w i (by omega) d
  ·rcases (show s=0∨s=1∨s=2∨s=3∨s=4∨s=5 from by omega) with rfl|rfl|rfl|rfl|rfl|rfl
   ·exact yhQ r w (by omega) (by omega)
   ·exact yiM r w (by omega) (by omega)
   ·exact yiH r w (by omega) (by omega)
   ·exact yjB r w (by omega) (by omega)
   ·exact yhU r w (by omega) (by omega)
   ·exact yiT r w (by omega) (by omega)
def zhM:List UInt8→Option UInt8
 |c::a::b::_=>if c.toNat=37∧0≤valZ (a.toNat:Int)∧0≤valZ (b.toNat:Int) then some (UInt8.ofNat ((valZ (a.toNat:Int)*16+valZ (b.toNat:Int)).toNat)) else none
 |_=>none
def decL:Nat→List UInt8→List UInt8
 |0,_=>[]
 |_+1,[]=>[]
 |f+1,c::r=>match zhM (c::r) with
  |some v=>v::decL f (r.drop 2)
  |none=>c::decL f r
def decB (l:List UInt8):List UInt8:=decL l.length l
theorem z6A (r:Int):valZ r<16:=by unfold valZ;(repeat' split)<;>omega
theorem z4C (r:Int): -1≤valZ r:=by unfold valZ;(repeat' split)<;>omega
theorem zcP (s:ByteArray) (k:Nat) (h:k<s.size):s.data.toList.drop k=s[k]::s.data.toList.drop (k+1):=by
 rw [List.drop_eq_getElem_cons (by simpa using h)]
 rfl
theorem zeB (s:ByteArray) (k:Nat) (h: ¬k<s.size):s.data.toList.drop k=[]:=List.drop_eq_nil_of_le (by simpa using h)
theorem z1X (s:ByteArray) (k:Nat) (j:k+2<s.size) (d:s[k].toNat=37) (f:0≤valZ (s[k+1].toNat:Int)) (i:0≤valZ (s[k+2].toNat:Int)):
  zhM (s.data.toList.drop k)=some (UInt8.ofNat ((valZ (s[k+1].toNat:Int)*16+valZ (s[k+2].toNat:Int)).toNat)):=by
 rw [zcP s k (by omega),zcP s (k+1) (by omega),zcP s (k+2) (by omega)]
 simp only [zhM]
 rw [if_pos ⟨d,f,i⟩]
theorem ztM (s:ByteArray) (k:Nat) (d:k+2<s.size) (h:s[k].toNat≠37∨valZ (s[k+1].toNat:Int)<0∨valZ (s[k+2].toNat:Int)<0):
  zhM (s.data.toList.drop k)=none:=by
 rw [zcP s k (by omega),zcP s (k+1) (by omega),zcP s (k+2) (by omega)]
 simp only [zhM]
 rw [if_neg (by omega)]
theorem zmV (s:ByteArray) (k:Nat) (i:s.size≤k+2):zhM (s.data.toList.drop k)=none:=by
 by_cases f:k<s.size
 ·rw [zcP s k f]
  by_cases d:k+1<s.size
  ·rw [zcP s (k+1) d,zeB s (k+2) (by omega)]
   rfl
  ·rw [zeB s (k+1) d]
   rfl
 ·rw [zeB s k f]
  rfl
theorem ydG (a b:Int) (f:0≤a) (i:a<16) (d:0≤b) (j:b<16):bits BinOp.or IntKind.i64 (a*16) b % 256=a*16+b:=by
 have key: ∀a b:Fin 16,bits BinOp.or IntKind.i64 ((a.val:Int)*16) (b.val:Int) % 256=(a.val:Int)*16+(b.val:Int):=by decide+kernel
 have:=key ⟨a.toNat,by omega⟩ ⟨b.toNat,by omega⟩
 simp only [Int.toNat_of_nonneg f,Int.toNat_of_nonneg d] at this
 exact this
def zwY (o:Option UInt8) (w:World) (e:Ending) (w':World):Prop:=e= .returned (.tuple #[.int .u8 ((o.getD 0).toNat:Int),.bool o.isSome])∧ ∃n,w'=w.drewN n
theorem zeZ {o:Option UInt8} {w:World} {e:Ending} {w':World} (i:o=none) (d:e= .returned (.tuple #[.int .u8 0,.bool false])) (n:Nat) (f:w'=w.drewN n):zwY o w e w':=by
 subst i
 exact ⟨d,n,f⟩
theorem ztU {o:Option UInt8} {v:UInt8} {x:Int} {w:World} {e:Ending} {w':World} (j:o=some v) (d:e= .returned (.tuple #[.int .u8 x,.bool true])) (f:x=(v.toNat:Int)) (n:Nat) (i:w'=w.drewN n):zwY o w e w':=by
 subst j f
 exact ⟨d,n,i⟩
theorem z0C (x:Int) (d:0≤x) (f:x<256):x=((UInt8.ofNat x.toNat).toNat:Int):=by
 have:x.toNat % 256=x.toNat:=Nat.mod_eq_of_lt (by omega)
 simp [this]
 omega
theorem znM (s:ByteArray) (k:Nat) (w:World) (hs:s.size≤1073741824) (hk:k<s.size):
  Calls Tryz.prog 178 #[.string s,.int .i64 k] w (zwY (zhM (s.data.toList.drop k)) w):=by
 obtain ⟨C,B⟩: ∃c,s[k].toNat=c:=⟨_,rfl⟩
 by_cases D:k+2<s.size
 ·obtain ⟨I,i⟩: ∃c,s[k+1].toNat=c:=⟨_,rfl⟩
  obtain ⟨N,m⟩: ∃c,s[k+2].toNat=c:=⟨_,rfl⟩
  have l1:I<256:=by rw [←i];exact s[k+1].toNat_lt
  have l2:N<256:=by rw [←m];exact s[k+2].toNat_lt
  by_cases j:C=37
  ·subst j
   obtain ⟨o,d⟩: ∃v,valZ (I:Int)=v:=⟨_,rfl⟩
   obtain ⟨A,f⟩: ∃v,valZ (N:Int)=v:=⟨_,rfl⟩
   have U:o<16:=by rw [←d];exact z6A _
   have V:A<16:=by rw [←f];exact z6A _
   have b3: -1≤o:=by rw [←d];exact z4C _
   have b4: -1≤A:=by rw [←f];exact z4C _
   have K:((37:Int) !=37)=false:=by decide
   by_cases Y:0≤o∧0≤A
   ·obtain ⟨Q,O⟩:=Y
    have HT:=yjZ (z1X s k D B (by rw [i,d];exact Q) (by rw [m,f];exact O))
    rw [i,m,d,f] at HT
    have X:=yjZ (ydG o A Q U O V)
    have HX:=yjZ (z0C (o*16+A) (by omega) (by omega))
    have p1:(0:Int)≤(k:Int)+1:=by omega
    have S:(0:Int)≤(k:Int)+2:=by omega
    have p3:(k:Int)+1<(s.size:Int):=by omega
    have p4:(k:Int)+2<(s.size:Int):=by omega
    have G:IntKind.i64.wrap ((k:Int)+1)=(k:Int)+1:=IntWalk.i64_in _ (by omega)
    have H:IntKind.i64.wrap ((k:Int)+2)=(k:Int)+2:=IntWalk.i64_in _ (by omega)
    have E:((k:Int)+1).toNat=k+1:=by omega
    have r2:((k:Int)+2).toNat=k+2:=by omega
    go_enter Tryz.func178,Tryz.ntmps178
    go_wp2_with fail
    go_quiet ((go_at_call 107;exact Calls.quiet_of_same ((zbS _ _).mono fun _ _ h=>⟨h.1,h.2.symm⟩)))
    clear G H E r2
    go_wp2
    go_ret2
    exact ztU HT.out rfl (X.out.trans HX.out) nq rfl
   ·have HT:=yjZ (ztM s k D (by rw [i,m,d,f];omega))
    have p1:(0:Int)≤(k:Int)+1:=by omega
    have S:(0:Int)≤(k:Int)+2:=by omega
    have p3:(k:Int)+1<(s.size:Int):=by omega
    have p4:(k:Int)+2<(s.size:Int):=by omega
    by_cases M:o<0
    all_goals
     have G:IntKind.i64.wrap ((k:Int)+1)=(k:Int)+1:=IntWalk.i64_in _ (by omega)
     have H:IntKind.i64.wrap ((k:Int)+2)=(k:Int)+2:=IntWalk.i64_in _ (by omega)
     have E:((k:Int)+1).toNat=k+1:=by omega
     have r2:((k:Int)+2).toNat=k+2:=by omega
     go_enter Tryz.func178,Tryz.ntmps178
     go_wp2_with fail
     go_quiet ((go_at_call 107;exact Calls.quiet_of_same ((zbS _ _).mono fun _ _ h=>⟨h.1,h.2.symm⟩)))
     clear G H E r2
     have J:o<0∨A<0:=by omega
     go_wp2
     all_goals
      go_ret2
      exact zeZ HT.out rfl nq rfl
  ·have HT:=yjZ (ztM s k D (.inl (by rw [B];exact j)))
   have Z:((C:Int) !=37)=true:=by rw [bne_iff_ne];omega
   go_enter Tryz.func178,Tryz.ntmps178
   go_wp2
   go_ret2
   exact zeZ HT.out rfl 0 rfl
 ·have HT:=yjZ (zmV s k (by omega))
  by_cases j:C=37
  ·subst j
   go_enter Tryz.func178,Tryz.ntmps178
   go_wp2
   go_ret2
   exact zeZ HT.out rfl 0 rfl
  ·have Z:((C:Int) !=37)=true:=by rw [bne_iff_ne];omega
   go_enter Tryz.func178,Tryz.ntmps178
   go_wp2
   go_ret2
   exact zeZ HT.out rfl 0 rfl
theorem ygG (s:ByteArray) (f k:Nat) (h: ¬k<s.size):decL f (s.data.toList.drop k)=[]:=by
 rw [zeB s k h]
 cases f<;>rfl
theorem z4J (s:ByteArray) (f k:Nat) (v:UInt8) (h:k<s.size) (d:zhM (s.data.toList.drop k)=some v):decL (f+1) (s.data.toList.drop k)=v::decL f (s.data.toList.drop (k+3)):=by
 rw [zcP s k h] at d ⊢
 simp only [decL,d,List.drop_drop]
theorem z5E (s:ByteArray) (f k:Nat) (h:k<s.size) (d:zhM (s.data.toList.drop k)=none):decL (f+1) (s.data.toList.drop k)=s[k]::decL f (s.data.toList.drop (k+1)):=by
 rw [zcP s k h] at d ⊢
 simp only [decL,d]
theorem z1F (s:ByteArray) (k:Nat) (v:UInt8) (h:zhM (s.data.toList.drop k)=some v):k+2<s.size:=by
 by_cases d:k+2<s.size
 ·exact d
 ·rw [zmV s k (by omega)] at h;cases h
theorem z1V (s:ByteArray) (w:World) (O:s.size≤1073741824):
  Calls Tryz.prog 105 #[.string s] w fun e w'=>e= .returned (.string ⟨(decB s.data.toList).toArray⟩)∧Below w.heap.size w w':=by
 go_enter Tryz.func105,Tryz.ntmps105
 go_wp2
 go_loopw [4] (fun i wr=> ∃(k fuel:Nat) (T:List UInt8),i= .int .i64 k∧k≤s.size∧Lib.IsBuilderF 160 5 w.heap.size w.heap.size (Lib.byteCells T) wr∧Below w.heap.size w wr∧T.length≤k∧s.size≤k+fuel∧Hid (T++decL fuel (s.data.toList.drop k)=decB s.data.toList)) (fun i _=>s.size - (intOf i).toNat)
 case atStart=>
  refine ⟨0,s.size,[],rfl,Nat.zero_le _,Lib.IsBuilderF.of (Lib.fresh_isBuilder _ _ w),(ykD _ w).alloc (ykA _) _,by simp,by omega,?_⟩
  show []++decL s.size (s.data.toList.drop 0)=decL s.data.toList.length s.data.toList
  rw [zaR];rfl
 case round=>
  obtain ⟨k,fuel,T,rfl,Z,J,A,U,X,K⟩:=hrel
  have H:=A.size
  by_cases o:k<s.size
  ·obtain ⟨f,rfl⟩: ∃f,fuel=f+1:=⟨fuel - 1,by omega⟩
   cases j:zhM (s.data.toList.drop k) with
   |some v=>
    have I:=z1F s k v j
    have d:=K.out
    rw [z4J s f k v o j] at d
    have E:=yjZ d
    have B:=yjZ j
    clear d j
    go_wp2_with fail
    refine (znM s k _ O o).mono ?_
    rw [B.out]
    rintro e w' ⟨rfl,nq,rfl⟩
    have D:Lib.IsBuilderF 160 5 w.heap.size w.heap.size (Lib.byteCells T) (wr.drewN nq):=J
    have C:=zbV A nq
    have m:w.heap.size≤(wr.drewN nq).heap.size:=H
    generalize wr.drewN nq=V at*
    go_wp2_with fail
    refine (Tryz.Builder_WriteByte_k w.heap.size w.heap.size _ _ _ D (by rw [Lib.byteCells_length];omega) m).mono ?_
    rintro e Q ⟨rfl,N,M,_⟩
    go_wp2
    go_roundw
    case rel=>
     refine ⟨k+3,f,T++[v],by go_num,by omega,?_,C.trans M,by simp;omega,by omega,?_⟩
     ·rw [zkV T v _ rfl];exact .inr N
     ·show (T++[v])++_=_
      rw [List.append_assoc];exact E.out
    case measure=>simp [intOf];omega
   |none=>
    have d:=K.out
    rw [z5E s f k o j] at d
    have E:=yjZ d
    have B:=yjZ j
    clear d j
    go_wp2_with fail
    refine (znM s k _ O o).mono ?_
    rw [B.out]
    rintro e w' ⟨rfl,nq,rfl⟩
    have D:Lib.IsBuilderF 160 5 w.heap.size w.heap.size (Lib.byteCells T) (wr.drewN nq):=J
    have C:=zbV A nq
    have m:w.heap.size≤(wr.drewN nq).heap.size:=H
    generalize wr.drewN nq=V at*
    go_wp2_with fail
    refine (Tryz.Builder_WriteByte_k w.heap.size w.heap.size _ _ _ D (by rw [Lib.byteCells_length];omega) m).mono ?_
    rintro e Q ⟨rfl,N,M,_⟩
    go_wp2
    go_roundw
    case rel=>
     refine ⟨k+1,f,T++[s[k]],by go_num,by omega,?_,C.trans M,by simp;omega,by omega,?_⟩
     ·rw [zkV T s[k] _ rfl];exact .inr N
     ·show (T++[s[k]])++_=_
      rw [List.append_assoc];exact E.out
    case measure=>simp [intOf];omega
  ·have G:T=decB s.data.toList:=by
    have:=K.out
    rwa [ygG s fuel k o,List.append_nil] at this
   subst G
   go_wp2_with fail
   refine (Tryz.Builder_String_any_k w.heap.size w.heap.size _ _ J (by omega)).mono ?_
   rintro e Y ⟨rfl,_,S,_⟩
   go_wp2
   go_ret
   exact ⟨rfl,A.trans S⟩
def pctL (l:List UInt8):List UInt8:=l.flatMap pctB
def encP (s r:Int):List UInt8:=if inB s r=true then pctL (Lib.encodeRune r) else Lib.encodeRune r
def encB (s:Int) (l:List Int):List UInt8:=l.flatMap (encP s)
theorem zyY (l:List UInt8):(pctL l).length=3*l.length:=by
 induction l with
 |nil=>rfl
 |cons c l d=>simp only [pctL,List.flatMap_cons,List.length_append] at d ⊢;rw [d];simp [pctB];omega
theorem zzR (s r:Int):(encP s r).length≤12:=by
 have:=zgM r
 unfold encP
 split
 ·rw [zyY];omega
 ·omega
theorem z6T (l:List UInt8) (k:Nat) (h:k<l.length):pctL (l.take (k+1))=pctL (l.take k)++pctB l[k]:=by
 unfold pctL
 rw [List.take_succ_eq_append_getElem h,List.flatMap_append]
 simp
theorem z7O (s r:Int) (l:List Int):encB s (r::l)=encP s r++encB s l:=by simp [encB]
theorem z6O (s:Int) (l:List Int) (k:Nat) (h:k<l.length):encB s (l.take (k+1))=encB s (l.take k)++encP s l[k]:=by
 unfold encB
 rw [List.take_succ_eq_append_getElem h,List.flatMap_append]
 simp
theorem zlG (s:Int) (l:List Int): ∀k,(encB s (l.take k)).length≤12*k
 |0=>by simp [encB]
 |k+1=>by
  have d:=zlG s l k
  by_cases h:k<l.length
  ·rw [z6O s l k h,List.length_append];have:=zzR s l[k];omega
  ·rw [List.take_of_length_le (by omega)];rw [List.take_of_length_le (by omega)] at d;omega
theorem zsF {T e:TypeId} {B b:Nat} {i:List Value} {w w':World} (h:Lib.IsBuilderF T e B b i w) (E:Below w.heap.size w w'):Lib.IsBuilderF T e B b i w':=by
 have key: ∀p,Lib.BuilderAtF T e B b p i w→Lib.BuilderAtF T e B b p i w':=by
  intro p J
  obtain ⟨I,v,D,d,j⟩:=J
  refine ⟨I,v,(E.block b (Array.getElem?_eq_some_iff.1 D).1).trans D,⟨d.1,?_⟩,j⟩
  rcases d.2 with H|⟨g,A,C,K,o,m,G,f⟩
  ·exact .inl H
  ·exact .inr ⟨g,A,C,K,o,m,(E.block g (Array.getElem?_eq_some_iff.1 G).1).trans G,f⟩
 exact h.elim (fun x=> .inl (key _ x)) (fun x=> .inr (key _ x))
theorem yhK (w:World) (r:Int) (t:TypeId):RowR (w.alloc (.cells #[.int .i32 r] t)) (.slice (some ⟨w.heap.size,0,none⟩) 1 1) ([r].map (Value.int .i32)):=by
 refine ⟨_,1,rfl,fun j u d=>⟨_,rfl,?_⟩⟩
 exact zwQ w (.int .i32 r) t j u d
theorem zwH (l:List UInt8):Lib.strCells ⟨l.toArray⟩=Lib.byteCells l:=rfl
theorem z0Q (l:List UInt8) (k:Nat) (h:k<(ByteArray.mk l.toArray).size):(ByteArray.mk l.toArray)[k]=l[k]'(by simpa [ByteArray.size] using h):=rfl
theorem z2L (st:Int) (s:ByteArray) (w:World) (qa:0≤st) (hs:s.size≤67108864):
  Calls Tryz.prog 222 #[.int .u8 st,.string s] w fun e w'=>e= .returned (.string ⟨(encB st (scal s)).toArray⟩)∧Below w.heap.size w w':=by
 go_enter Tryz.func222,Tryz.ntmps222
 go_wp2
 go_loopw [] (fun wr=> ∃(d fuel:Nat) (m:List UInt8),Lib.IsBuilderF 160 5 w.heap.size w.heap.size (Lib.byteCells m) wr∧wr.heap[w.heap.size+1]? =some (.stringIter s d)∧Below w.heap.size w wr∧Hid (m++encB st (zlK s fuel d)=encB st (scal s))∧s.size≤d+fuel∧m.length≤12*d∧d≤s.size+4) (fun wr=>s.size - wr.iterPos (w.heap.size+1))
 case atStart=>
  refine ⟨0,s.size,[],(Lib.IsBuilderF.of (Lib.fresh_isBuilder _ _ w)).alloc _,?_,((ykD _ w).alloc (ykA _) _).alloc (by simp) _,rfl,by omega,by simp,by omega⟩
  have:=World.iter_heap (w.alloc (.cells #[.pointer none,.slice none 0 0] 160)) s 0
  simpa using this
 case round=>
  obtain ⟨d,fuel,m,hI,C,qe,HA,qA,qD,qB⟩:=hrel
  have qy:w.heap.size+1<wr.heap.size:=(Array.getElem?_eq_some_iff.1 C).1
  by_cases hp:d<s.size
  ·have qm: ∀V,(Instr.next (.pointer (some ⟨w.heap.size+1,0,none⟩)) true V).run Tryz.prog wr=_:=fun V=>Lib.run_next_any_at wr (w.heap.size+1) s d V C hp
   have qz:=zeN s d hp
   have qE:=ygA s d
   have hd1:=decode_le s d
   have Z:=hI.iterAt C (d+(Utf8.decode s d).2)
   have D:=Lib.iterAt_heap wr (w.heap.size+1) s d (d+(Utf8.decode s d).2) C
   have G:=Lib.below_iterAt qe (k:=w.heap.size+1) (by omega) s (d+(Utf8.decode s d).2)
   have qx:w.heap.size+1<(wr.iterAt (w.heap.size+1) s (d+(Utf8.decode s d).2)).heap.size:=by rw [Lib.iterAt_size];omega
   obtain ⟨f,rfl⟩: ∃f,fuel=f+1:=⟨fuel - 1,by omega⟩
   have X:=HA.out
   rw [zkP s f d hp,z7O] at X
   have qi:=yjZ X
   clear X
   generalize wr.iterAt (w.heap.size+1) s (d+(Utf8.decode s d).2)=wi at*
   generalize hr:((Utf8.decode s d).1:Int)=r at*
   have qF:0≤r:=by omega
   have qs:r≤2147483647:=by omega
   have qg:Hid (wr.iterPos (w.heap.size+1)=d):=by
    show wr.iterPos (w.heap.size+1)=d
    simp only [World.iterPos,C]
   clear hr
   have qC:=zgM r
   cases I:inB st r with
   |false=>
    have H:encP st r=Lib.encodeRune r:=by unfold encP;rw [I];rfl
    have S:=yjZ H
    clear H
    go_wp2_with fail
    refine (ygK st r _ qa).mono ?_
    rintro e w' ⟨rfl,rfl⟩
    rw [I]
    go_wp2_with fail
    refine (Tryz.Builder_WriteRune_k w.heap.size w.heap.size _ r (by omega) qs _ Z (by rw [Lib.byteCells_length];omega) (by omega)).mono ?_
    rintro e w1 ⟨rfl,h1,b1,k1⟩
    have o:=k1.iter D (by omega)
    go_wp2
    go_roundw
    case rel=>
     refine ⟨d+(Utf8.decode s d).2,f,m++Lib.encodeRune r,?_,o,G.trans b1,?_,by omega,by simp;omega,by omega⟩
     ·rw [Lib.byteCells_append,Lib.byteCells_encodeRune];exact .inr h1
     ·show (m++Lib.encodeRune r)++_=_
      rw [List.append_assoc,←S.out];exact qi.out
    case measure=>
     rw [qg.out]
     simp only [World.iterPos,o]
     omega
   |true=>
    have H:encP st r=pctL (Lib.encodeRune r):=by unfold encP;rw [I];rfl
    have S:=yjZ H
    clear H
    go_wp2_with fail
    refine (ygK st r _ qa).mono ?_
    rintro e w' ⟨rfl,rfl⟩
    rw [I]
    have O:=yhK wi r 21
    have qd:=Z.alloc (.cells #[.int .i32 r] 21)
    have o:(wi.alloc (.cells #[.int .i32 r] 21)).heap[w.heap.size+1]? =some (.stringIter s (d+(Utf8.decode s d).2)):=by rw [Below.heap_alloc _ _ _ (by omega)];exact D
    have M:=G.alloc (by omega:w.heap.size≤wi.heap.size) (.cells #[.int .i32 r] 21)
    go_wp2_with fail
    refine (yfJ _ [r] _ O (by simp) (by intro x hx;simp at hx;omega)).mono ?_
    rintro e w2 ⟨rfl,J⟩
    have qv:=zsF qd J
    have qf:=(J.block (w.heap.size+1) (by simp;omega)).trans o
    have qj:Below w.heap.size w w2:=M.trans (J.mono (by simp;omega))
    clear Z qd D o G M O J
    rw [show zkB [r]=Lib.encodeRune r from by simp [zkB]]
    generalize hE:Lib.encodeRune r=E at*
    have HE:=yjZ hE
    clear hE
    go_wp2
    go_loopw [26] (fun i wq=> ∃j:Nat,j≤E.length∧i= .int .i64 j∧Lib.IsBuilderF 160 5 w.heap.size w.heap.size (Lib.byteCells (m++pctL (E.take j))) wq∧wq.heap[w.heap.size+1]? =some (.stringIter s (d+(Utf8.decode s d).2))∧Below w.heap.size w wq) (fun i _=>E.length - (intOf i).toNat)
    case atStart=>
     refine ⟨0,Nat.zero_le _,rfl,?_,qf,qj⟩
     simpa [pctL] using qv
    case round=>
     obtain ⟨j,hj,rfl,Y,A,Q⟩:=hrel
     have qw:w.heap.size+1<wr.heap.size:=(Array.getElem?_eq_some_iff.1 A).1
     by_cases N:j<E.length
     ·have qp:j<(ByteArray.mk E.toArray).size:=by rw [zaI];exact N
      have ql:=z6T E j N
      have qr:=yjZ ql
      have qo:(pctL (E.take j)).length≤12:=by rw [zyY,List.length_take];omega
      clear ql
      have qh:=z0Q E j qp
      have qn:=yjZ qh
      clear qh
      go_wp2_with fail
      refine (ycU (ByteArray.mk E.toArray)[j] _).mono ?_
      rintro e w3 ⟨rfl,U⟩
      have qq:=zsF Y U
      have qc:=(U.block (w.heap.size+1) (by omega)).trans A
      have K:Below w.heap.size w w3:=Q.trans (U.mono (by omega))
      have qk:w.heap.size≤w3.heap.size:=K.size
      go_wp2_with fail
      refine (Tryz.Builder_WriteString_k w.heap.size w.heap.size _ _ _ qq (by rw [Lib.byteCells_length,List.length_append,zaI,show (pctB (ByteArray.mk E.toArray)[j]).length=3 from rfl];omega) qk).mono ?_
      rintro e w4 ⟨rfl,h4,b4,k4⟩
      have qb:=k4.iter qc (by omega)
      go_wp2
      go_roundw
      case rel=>
       refine ⟨j+1,by omega,by go_num,?_,qb,K.trans b4⟩
       rw [qr.out,←List.append_assoc,Lib.byteCells_append,←qn.out,←zwH]
       exact .inr h4
      case measure=>simp [intOf];omega
     ·have B:pctL (E.take j)=encP st r:=by rw [List.take_of_length_le (by omega),S.out]
      rw [B] at Y
      clear B
      have qo:=zzR st r
      generalize encP st r=EP at*
      go_wp2
      go_roundw
      case rel=>
       refine ⟨d+(Utf8.decode s d).2,f,m++EP,Y,A,Q,?_,by omega,by simp;omega,by omega⟩
       show (m++EP)++_=_
       rw [List.append_assoc];exact qi.out
      case measure=>
       simp only [World.iterPos,A]
       have:=qg.out
       simp only [World.iterPos] at this
       omega
  ·have qm: ∀V,(Instr.next (.pointer (some ⟨w.heap.size+1,0,none⟩)) true V).run Tryz.prog wr=_:=fun V=>Lib.run_next_end_at wr (w.heap.size+1) s d V C hp
   have B:m=encB st (scal s):=by
    have:=HA.out
    rw [znW s fuel d hp] at this
    simpa [encB] using this
   subst B
   go_wp2_with fail
   refine (Tryz.Builder_String_any_k w.heap.size w.heap.size _ _ hI (by omega)).mono ?_
   rintro e w1 ⟨rfl,_,b1,_⟩
   go_wp2
   go_ret
   exact ⟨rfl,qe.trans b1⟩
def digC (b:Int) (c:UInt8):Bool:=decide (0≤valZ (c.toNat:Int)∧valZ (c.toNat:Int)<b)
def zbO (b:Int) (l:List UInt8):Bool:=l.all (digC b)
def capZ (x:Int):Int:=if 1099511627776<x then 1099511627776 else x
def zwR (b:Int) (n:Int) (c:UInt8):Int:=capZ (n*b+valZ (c.toNat:Int))
def numZ (b:Int) (l:List UInt8):Int:=l.foldl (zwR b) 0
def zgE (l:List UInt8):List UInt8×Int:=
 match l with
 |a::c::r=>if a.toNat=48 then (if c.toNat=120∨c.toNat=88 then (r,16) else (c::r,8)) else (a::c::r,10)
 |_=>(l,10)
def zcV (l:List UInt8):Int×Bool:=
 if l.isEmpty then (0,false) else if zbO (zgE l).2 (zgE l).1 then (numZ (zgE l).2 (zgE l).1,true) else (0,false)
theorem z0F (b:Int) (s:ByteArray) (k:Nat) (h:k<s.size):zbO b (s.data.toList.take (k+1))=(zbO b (s.data.toList.take k)&&digC b s[k]):=by
 rw [zdE s k h];simp [zbO]
theorem z5P (b:Int) (s:ByteArray) (k:Nat) (h:k<s.size):numZ b (s.data.toList.take (k+1))=zwR b (numZ b (s.data.toList.take k)) s[k]:=by
 rw [zdE s k h];simp [numZ]
theorem zuR {b:Int} {c:UInt8} {v:Int} (f:valZ (c.toNat:Int)=v) (i:0≤v) (d:v<b):digC b c=true:=ykC (by rw [f];exact ⟨i,d⟩)
theorem zfN {b:Int} {c:UInt8} {v:Int} (d:valZ (c.toNat:Int)=v) (h:v<0∨b≤v):digC b c=false:=ykB (by rw [d];omega)
theorem zeH (b:Int) (s:ByteArray) (k:Nat) (h:k<s.size) (d:digC b s[k]=false):zbO b s.data.toList=false:=by
 unfold zbO
 rw [List.all_eq_false]
 refine ⟨s[k],?_,by rw [d];simp⟩
 show s.data[k]∈_
 simp
theorem zlX (b:Int) (s:ByteArray) (k:Nat) (h:k<s.size) (d:zbO b (s.data.toList.take k)=true) (f:digC b s[k]=true):zbO b (s.data.toList.take (k+1))=true:=by
 rw [z0F b s k h,d,f];rfl
theorem zjP (r:Int) (h:128≤r):valZ r= -1:=by
 unfold valZ;(repeat' split)<;>omega
theorem zzQ (r:Int):valZ r<16:=by
 unfold valZ;(repeat' split)<;>omega
theorem yiX (x:Int):capZ x≤1099511627776:=by unfold capZ;split<;>omega
theorem yjG {x:Int} (h:1099511627776<x):capZ x=1099511627776:=if_pos h
theorem yiA {x:Int} (h: ¬1099511627776<x):capZ x=x:=if_neg h
theorem yfH (b n:Int) (c:UInt8) (v:Int) (d:valZ (c.toNat:Int)=v):zwR b n c=capZ (n*b+v):=by rw [zwR,d]
theorem zoR (l:List UInt8):(zgE l).2=8∨(zgE l).2=10∨(zgE l).2=16:=by
 unfold zgE
 repeat' split
 all_goals simp
theorem zpQ (s:ByteArray) (h:2≤s.size): ∃r,s.data.toList=s[0]::s[1]::r∧s.data.toList.drop 2=r:=by
 refine ⟨s.data.toList.drop 2,?_,rfl⟩
 have d:s.data.toList=s.data.toList.drop 0:=rfl
 conv=>lhs;rw [d,List.drop_eq_getElem_cons (by simp;omega),List.drop_eq_getElem_cons (by simp;omega)]
 rfl
theorem zvJ (s:ByteArray) (h:s.size<2):zgE s.data.toList=(s.data.toList,10):=by
 have d:=zaR s
 match f:s.data.toList,d with
 |[],_=>rfl
 |[a],_=>rfl
 |a::c::r,d=>simp at d;omega
theorem z5Y (s:ByteArray) (h:2≤s.size) (f:s[0].toNat≠48):zgE s.data.toList=(s.data.toList,10):=by
 obtain ⟨r,d,_⟩:=zpQ s h
 rw [d];simp [zgE,f]
theorem yaN (s:ByteArray) (h:2≤s.size) (j:s[0].toNat=48) (f:s[1].toNat=120∨s[1].toNat=88):zgE s.data.toList=(s.data.toList.drop 2,16):=by
 obtain ⟨r,d,i⟩:=zpQ s h
 rw [i,d];simp only [zgE,j,f,if_true]
theorem z5S (s:ByteArray) (h:2≤s.size) (i:s[0].toNat=48) (f: ¬(s[1].toNat=120∨s[1].toNat=88)):zgE s.data.toList=(s.data.toList.drop 1,8):=by
 obtain ⟨r,d,_⟩:=zpQ s h
 rw [d];simp only [zgE,i,f,if_true,if_false];rfl
theorem zpB (s:ByteArray) (a:Nat):s.extract a s.size=⟨(s.data.toList.drop a).toArray⟩:=
 zkS s a s.size _ (List.take_of_length_le (by simp))
def z9F (w:World) (x:List UInt8×Int) (e:Ending) (w':World):Prop:=e= .returned (.tuple #[.string ⟨x.1.toArray⟩,.int .i64 x.2])∧w=w'
theorem zhT {w:World} {x:List UInt8×Int} {y:ByteArray} {b:Int} {l:List UInt8} (h:x=(l,b)) (d:y=⟨l.toArray⟩):z9F w x (.returned (.tuple #[.string y,.int .i64 b])) w:=by
 subst h d;exact ⟨rfl,rfl⟩
theorem zmN (s:ByteArray) (w:World) (E:s.size≤1073741824):
  Calls Tryz.prog 185 #[.string s] w (z9F w (zgE s.data.toList)):=by
 by_cases A:s.size<2
 ·have d:=yjZ (zvJ s A)
  go_enter Tryz.func185,Tryz.ntmps185
  go_wp2
  go_ret2
  exact zhT d.out (by simp)
 ·have f:2≤s.size:=by omega
  have D:0<s.size:=by omega
  have G:1<s.size:=by omega
  obtain ⟨a,m⟩: ∃a,s[0].toNat=a:=⟨_,rfl⟩
  obtain ⟨c,o⟩: ∃a,s[1].toNat=a:=⟨_,rfl⟩
  by_cases i:a=48
  ·subst i
   by_cases j:c=120∨c=88
   ·have d:=yjZ (yaN s f m (by rw [o];exact j))
    rcases j with rfl|rfl
    all_goals
     go_enter Tryz.func185,Tryz.ntmps185
     go_wp2
     go_ret2
     exact zhT d.out (zpB s 2)
   ·have d:=yjZ (z5S s f m (by rw [o];exact j))
    have B:((c:Int)==120)=false:=beq_eq_false_iff_ne.2 (by omega)
    have C:((c:Int)==88)=false:=beq_eq_false_iff_ne.2 (by omega)
    clear j
    go_enter Tryz.func185,Tryz.ntmps185
    go_wp2
    go_ret2
    exact zhT d.out (zpB s 1)
  ·have d:=yjZ (z5Y s f (by rw [m];exact i))
   have B:((a:Int) !=48)=true:=by rw [bne_iff_ne];omega
   go_enter Tryz.func185,Tryz.ntmps185
   go_wp2
   go_ret2
   exact zhT d.out (by simp)
def yaF (w:World) (x:Int×Bool) (e:Ending) (w':World):Prop:=e= .returned (.tuple #[.int .u64 x.1,.bool x.2])∧Below w.heap.size w w'
theorem zhD {w w':World} {x:Int×Bool} {n:Int} {b:Bool} (h:x=(n,b)) (d:Below w.heap.size w w'):yaF w x (.returned (.tuple #[.int .u64 n,.bool b])) w':=by
 subst h;exact ⟨rfl,d⟩
theorem z3D (l:List UInt8) (r:List UInt8) (b:Int) (h:zgE l=(r,b)) (d:zbO b r=false):zcV l=(0,false):=by
 unfold zcV
 rw [h,d]
 split<;>rfl
theorem z0Y (l:List UInt8) (r:List UInt8) (b:Int) (h:zgE l=(r,b)) (f:l≠[]) (d:zbO b r=true):zcV l=(numZ b r,true):=by
 unfold zcV
 rw [h,d]
 cases l with
 |nil=>exact absurd rfl f
 |cons a t=>rfl
theorem zvV (s:ByteArray) (h:s.size=0):s.data.toList=[]:=List.length_eq_zero_iff.1 (by rw [zaR];exact h)
theorem zfM (s:ByteArray) (h:s.size≠0):s.data.toList≠[]:=fun e=>h (by rw [←zaR,e];rfl)
theorem z5D (s:ByteArray):ByteArray.mk s.data.toList.toArray=s:=by simp
theorem zaQ (l:List UInt8):(ByteArray.mk l.toArray).data.toList=l:=by simp
theorem zdO (s:ByteArray) (h:s.size=0):s=⟨#[]⟩:=by
 apply ByteArray.ext
 apply Array.ext'
 exact zvV s h
theorem zeA (s:ByteArray) (h:s.size≠0):s.toList.isEmpty=false:=by
 rw [ByteArray.toList_eq]
 cases d:s.data.toList with
 |nil=>exact absurd d (zfM s h)
 |cons a l=>rfl
theorem z2M (s:ByteArray) (d:ByteArray) (b:Int) (w:World) (hs:s.size≤1073741824) (hn:s.size≠0) (hb:b=8∨b=10∨b=16) (D:zgE s.data.toList=(d.data.toList,b)):
  Calls Tryz.prog 113 #[.string s] w (yaF w (zcV s.data.toList)):=by
 have HR:=yjZ D
 have I:=yjZ (z3D s.data.toList _ b D)
 have U:=yjZ (z0Y s.data.toList _ b D (zfM s hn))
 have qk:=zeA s hn
 clear D hn
 have qi:8≤b:=by omega
 have qa:b≤16:=by omega
 clear hb
 go_enter Tryz.func113,Tryz.ntmps113
 go_wp2_with fail
 refine (zmN s _ hs).mono ?_
 rw [HR.out]
 rintro e w' ⟨rfl,rfl⟩
 simp only [z5D]
 go_wp2
 go_loopw [6] (fun n wr=> ∃(k:Nat) (A:Int),n= .int .u64 A∧0≤A∧A≤1099511627776∧k≤d.size∧wr.heap[w.heap.size]? =some (.stringIter d k)∧Below w.heap.size w wr∧w.heap.size+1≤wr.heap.size∧Hid (A=numZ b (d.data.toList.take k))∧Hid (zbO b (d.data.toList.take k)=true)) (fun _ wr=>d.size - wr.iterPos w.heap.size)
 case atStart=>exact ⟨0,0,rfl,by omega,by omega,Nat.zero_le _,World.iter_heap w d 0,(ykD _ w).alloc (ykA _) _,by simp [World.iter],rfl,rfl⟩
 case round=>
  obtain ⟨k,A,rfl,qe,qc,hk,m,K,qb,HA,V⟩:=hrel
  by_cases j:k<d.size
  ·obtain ⟨c,X⟩: ∃c,(d[k]'j).toNat=c:=⟨_,rfl⟩
   have C: ∀N,(Instr.next (.pointer (some ⟨w.heap.size,0,none⟩)) true N).run Tryz.prog wr=_:=fun N=>Lib.run_next_any_at wr w.heap.size d k N m j
   by_cases qf:c<128
   ·have o:=decode_ascii d k j (by omega)
    rw [X] at o
    rw [o] at C
    have i:=Lib.iterAt_heap wr w.heap.size d k (k+1) m
    have f:=Lib.below_iterAt K (k:=w.heap.size) (ykA _) d (k+1)
    have E:w.heap.size+1≤(wr.iterAt w.heap.size d (k+1)).heap.size:=by rw [Lib.iterAt_size];exact qb
    simp only at C
    generalize wr.iterAt w.heap.size d (k+1)=wi at*
    obtain ⟨v,hv⟩: ∃v,valZ (c:Int)=v:=⟨_,rfl⟩
    have qg:v<16:=by rw [←hv];exact zzQ _
    have Y:Hid (valZ (d[k].toNat:Int)=v):=by show valZ (d[k].toNat:Int)=v;rw [X];exact hv
    have Q:=yjZ m
    have HC:=yjZ X
    clear m X o
    by_cases h0:v<0
    ·have B:=yjZ (I.out (zeH b d k j (zfN Y.out (.inl h0))))
     go_wp2_with (go_at_call 107;refine (zbS _ _).mono ?_;rintro e w' ⟨rfl,rfl⟩)
     go_ret2
     exact zhD B.out f
    ·by_cases h1:b≤v
     ·have B:=yjZ (I.out (zeH b d k j (zfN Y.out (.inr h1))))
      go_wp2_with (go_at_call 107;refine (zbS _ _).mono ?_;rintro e w' ⟨rfl,rfl⟩)
      go_ret2
      exact zhD B.out f
     ·have B:=yjZ (zlX b d k j V.out (zuR Y.out (by omega) (by omega)))
      have M:=z5P b d k j
      rw [←HA.out,yfH _ _ _ v Y.out] at M
      have S:=yjZ M
      clear M
      have qh:0≤A*b:=Int.mul_nonneg qe (by omega)
      have qj:A*b≤1099511627776*16:=Int.mul_le_mul qc qa (by omega) (by omega)
      by_cases ht:1099511627776<A*b+v
      ·have G:=yjZ (S.out.trans (yjG ht))
       go_wp2_with (go_at_call 107;refine (zbS _ _).mono ?_;rintro e w' ⟨rfl,rfl⟩)
       go_roundw
       case rel=>exact ⟨k+1,1099511627776,rfl,by omega,by omega,by omega,i,f,E,G.out.symm,B⟩
       case measure=>
        simp only [World.iterPos,i,Q.out]
        omega
      ·have G:=yjZ (S.out.trans (yiA ht))
       go_wp2_with (go_at_call 107;refine (zbS _ _).mono ?_;rintro e w' ⟨rfl,rfl⟩)
       go_roundw
       case rel=>exact ⟨k+1,_,rfl,by omega,by omega,by omega,i,f,E,G.out.symm,B⟩
       case measure=>
        simp only [World.iterPos,i,Q.out]
        omega
   ·have hh:=decode_high d k j (by omega)
    obtain ⟨r,D⟩: ∃r,(Utf8.decode d k).1=r:=⟨_,rfl⟩
    obtain ⟨wd,H⟩: ∃r,(Utf8.decode d k).2=r:=⟨_,rfl⟩
    have Z:=decode_le d k
    rw [D,H] at C
    rw [D,H] at hh
    rw [D] at Z
    have f:=Lib.below_iterAt K (k:=w.heap.size) (ykA _) d (k+wd)
    generalize wr.iterAt w.heap.size d (k+wd)=wi at*
    have hv:valZ (r:Int)= -1:=zjP _ (by omega)
    have B:=yjZ (I.out (zeH b d k j (zfN (zjP _ (by omega)) (.inl (by omega)))))
    clear X D H
    go_wp2_with (go_at_call 107;refine (zbS _ _).mono ?_;rintro e w' ⟨rfl,rfl⟩)
    go_ret2
    exact zhD B.out f
  ·have C: ∀N,(Instr.next (.pointer (some ⟨w.heap.size,0,none⟩)) true N).run Tryz.prog wr=_:=fun N=>Lib.run_next_end_at wr w.heap.size d k N m j
   have J:=V.out
   rw [zeG d k j] at J
   have O:=HA.out
   rw [zeG d k j] at O
   have B:=yjZ (U.out J)
   have qd:=yjZ O
   clear J O
   go_wp2
   go_ret2
   exact zhD (by rw [B.out,qd.out]) K
theorem zjT (s:ByteArray) (w:World) (j:s.size≤1073741824):
  Calls Tryz.prog 113 #[.string s] w (yaF w (zcV s.data.toList)):=by
 by_cases d:s.size=0
 ·obtain rfl:=zdO s d
  clear d j
  have m:Hid (zcV (ByteArray.mk #[]).data.toList=(0,false)):=rfl
  go_enter Tryz.func113,Tryz.ntmps113
  go_wp2
  go_ret2
  exact zhD m.out (ykD _ _)
 ·obtain ⟨⟨r,b⟩,f⟩: ∃x,zgE s.data.toList=x:=⟨_,rfl⟩
  have i:=zoR s.data.toList
  rw [f] at i
  exact z2M s ⟨r.toArray⟩ b w j d i (by rw [zaQ];exact f)
def decN (l:List UInt8):Int:=l.foldl (fun n c=>n*10+valZ (c.toNat:Int)) 0
def decZ (l:List UInt8) (m:Int):Int×Bool:=
 if (l.isEmpty||(decide (1<l.length)&&decide ((l.getD 0 0).toNat=48))|| !zbO 10 l)=true then (0,false) else if m<decN l then (0,false) else (decN l,true)
theorem z7Y (s:ByteArray) (k:Nat) (h:k<s.size):decN (s.data.toList.take (k+1))=decN (s.data.toList.take k)*10+valZ (s[k].toNat:Int):=by
 rw [zdE s k h];simp [decN]
theorem zrD (l:List UInt8): ∀a:Int,0≤a→zbO 10 l=true→a≤l.foldl (fun n c=>n*10+valZ (c.toNat:Int)) a:=by
 induction l with
 |nil=>intro a _ _;exact Int.le_refl _
 |cons c l i=>
  intro a m f
  have d:digC 10 c=true∧zbO 10 l=true:=by simpa [zbO] using f
  have j:=of_decide_eq_true d.1
  have:=i (a*10+valZ (c.toNat:Int)) (by omega) d.2
  exact Int.le_trans (by omega) this
theorem znK (l:List UInt8) (d:zbO 10 l=true):0≤decN l:=zrD l 0 (Int.le_refl _) d
theorem z1G (b:Int) (l:List UInt8) (k:Nat):zbO b l=(zbO b (l.take k)&&zbO b (l.drop k)):=by
 unfold zbO
 rw [←List.all_append,List.take_append_drop]
theorem zlF (l:List UInt8) (k:Nat) (f:zbO 10 l=true):decN (l.take k)≤decN l:=by
 have h:=z1G 10 l k
 rw [f] at h
 have d:zbO 10 (l.take k)=true∧zbO 10 (l.drop k)=true:=by simpa using h.symm
 have e:decN l=(l.drop k).foldl (fun n c=>n*10+valZ (c.toNat:Int)) (decN (l.take k)):=by
  unfold decN
  rw [←List.foldl_append,List.take_append_drop]
 rw [e]
 exact zrD _ _ (znK _ d.1) d.2
theorem zsD (l:List UInt8) (m:Int) (h:l=[]∨(1<l.length∧(l.getD 0 0).toNat=48)):decZ l m=(0,false):=by
 unfold decZ
 rw [if_pos]
 rcases h with rfl|⟨d,f⟩
 ·rfl
 ·rw [ykC d,ykC f];simp
theorem z0A (l:List UInt8) (m:Int) (h:zbO 10 l=false):decZ l m=(0,false):=by
 unfold decZ
 rw [if_pos (by rw [h];simp)]
theorem ydV (l:List UInt8) (m:Int) (k:Nat) (h:m<decN (l.take k)):decZ l m=(0,false):=by
 by_cases d:zbO 10 l=true
 ·unfold decZ
  split
  ·rfl
  ·rw [if_pos]
   have:=zlF l k d
   omega
 ·exact z0A l m (by simpa using d)
theorem yeX (l:List UInt8) (m:Int) (j:l≠[]) (f: ¬(1<l.length∧(l.getD 0 0).toNat=48)) (i:zbO 10 l=true) (o:decN l≤m):decZ l m=(decN l,true):=by
 unfold decZ
 rw [if_neg,if_neg (by omega)]
 rw [i]
 cases l with
 |nil=>exact absurd rfl j
 |cons a r=>
  by_cases d:1<(a::r).length
  ·rw [ykC d,ykB (fun e=>f ⟨d,e⟩)];simp
  ·rw [ykB d];simp
theorem zsE (s:ByteArray) (h:0<s.size):(s.data.toList.getD 0 0).toNat=s[0].toNat:=by
 rw [List.getD,zeK s 0 h];rfl
theorem z2G (r:Int):zaX r=decide (0≤valZ r∧valZ r<10):=by
 unfold zaX valZ
 by_cases h:48≤r∧r≤57
 ·rw [if_pos h,ykC h,ykC (by omega)]
 ·rw [if_neg h,ykB h]
  refine (ykB ?_).symm
  repeat' split
  all_goals omega
theorem ziW (c:UInt8):digC 10 c=zaX (c.toNat:Int):=(z2G _).symm
theorem zrS {r:Int} (h:zaX r=true):48≤r∧r≤57:=of_decide_eq_true h
theorem zpA {r:Int} (f:48≤r) (d:r≤57):valZ r=r - 48:=if_pos ⟨f,d⟩
theorem zgO (r:Int) (h:128≤r):zaX r=false:=ykB (by omega)
def z4Q (w:World) (x:Int×Bool) (e:Ending) (w':World):Prop:=e= .returned (.tuple #[.int .i64 x.1,.bool x.2])∧Below w.heap.size w w'
theorem zeW {w w':World} {x:Int×Bool} {n:Int} {b:Bool} (h:x=(n,b)) (d:Below w.heap.size w w'):z4Q w x (.returned (.tuple #[.int .i64 n,.bool b])) w':=by
 subst h;exact ⟨rfl,d⟩
theorem zsU (s:ByteArray) (m:Int) (w:World) (hs:s.size≤1073741824) (hm:m≤9223372036854775807) (qn: -9223372036854775808≤m) (hn:1≤s.size) (Y: ¬(1<s.size∧s[0].toNat=48)):
  Calls Tryz.prog 308 #[.string s,.int .i64 m] w (z4Q w (decZ s.data.toList m)):=by
 have S:=yjZ (z0A s.data.toList m)
 have N:=yjZ (ydV s.data.toList m)
 have V:=yjZ (yeX s.data.toList m (zfM s (by omega)) (by rw [zaR,zsE s (by omega)];exact Y))
 have qp:=zeA s (by omega)
 have l0:0<s.size:=by omega
 obtain ⟨a,ha⟩: ∃a,s[0].toNat=a:=⟨_,rfl⟩
 rw [ha] at Y
 rcases (show s.size≤1∨(1<s.size∧((a:Int)==48)=false) from by
   by_cases Z:1<s.size
   ·exact .inr ⟨Z,beq_eq_false_iff_ne.2 (fun e=>Y ⟨Z,by omega⟩)⟩
   ·exact .inl (by omega)) with Z|⟨Z,qk⟩
 all_goals
  clear Y
  go_enter Tryz.func308,Tryz.ntmps308
  go_wp2
  go_loopw [6] (fun n wr=> ∃(k:Nat) (A:Int),n= .int .i64 A∧0≤A∧(A=0∨A≤m)∧k≤s.size∧wr.heap[w.heap.size]? =some (.stringIter s k)∧Below w.heap.size w wr∧w.heap.size+1≤wr.heap.size∧Hid (A=decN (s.data.toList.take k))∧Hid (zbO 10 (s.data.toList.take k)=true)∧Hid (1≤k→A≤m)) (fun _ wr=>s.size - wr.iterPos w.heap.size)
  case atStart=>exact ⟨0,0,rfl,by omega,.inl rfl,Nat.zero_le _,World.iter_heap w s 0,(ykD _ w).alloc (ykA _) _,by simp [World.iter],rfl,rfl,fun h=>absurd h (by omega)⟩
  case round=>
   obtain ⟨k,A,rfl,ql,qe,hk,f,J,qd,HA,X,HK⟩:=hrel
   have qo:A≤9223372036854775807:=by omega
   clear qe
   by_cases i:k<s.size
   ·obtain ⟨c,hc⟩: ∃c,(s[k]'i).toNat=c:=⟨_,rfl⟩
    have o: ∀M,(Instr.next (.pointer (some ⟨w.heap.size,0,none⟩)) true M).run Tryz.prog wr=_:=fun M=>Lib.run_next_any_at wr w.heap.size s k M f i
    by_cases qi:c<128
    ·have j:=decode_ascii s k i (by omega)
     rw [hc] at j
     rw [j] at o
     have C:=Lib.iterAt_heap wr w.heap.size s k (k+1) f
     have d:=Lib.below_iterAt J (k:=w.heap.size) (ykA _) s (k+1)
     have U:w.heap.size+1≤(wr.iterAt w.heap.size s (k+1)).heap.size:=by rw [Lib.iterAt_size];exact qd
     simp only at o
     generalize wr.iterAt w.heap.size s (k+1)=wi at*
     have qc:=yjZ f
     have HC:=yjZ hc
     clear f hc j
     cases E:zaX (c:Int) with
     |false=>
      have H:=yjZ (S.out (zeH 10 s k i (by rw [ziW,HC.out];exact E)))
      go_wp2_with (go_at_call 97;refine (zbT _ _).mono ?_;rintro e w' ⟨rfl,rfl⟩)
      go_ret2
      exact zeW H.out d
     |true=>
      obtain ⟨qg,qh⟩:=zrS E
      have hv:valZ (c:Int)=(c:Int) - 48:=zpA qg qh
      have H:=yjZ (zlX 10 s k i X.out (by rw [ziW,HC.out];exact E))
      have K:=z7Y s k i
      rw [←HA.out,HC.out,hv] at K
      have Q:=yjZ K
      clear K
      obtain ⟨v,D⟩: ∃v:Int,(c:Int) - 48=v:=⟨_,rfl⟩
      have qm:0≤v:=by omega
      have qq:v≤9:=by omega
      rw [D] at hv
      have O:=yjZ D
      clear D
      by_cases hg:m<A*10+v
      ·have HB:=yjZ (N.out (k+1) (by rw [Q.out,O.out];exact hg))
       by_cases qb:m<v
       ·go_wp2_with (first|(go_at_call 97;refine (zbT _ _).mono ?_;rintro e w' ⟨rfl,rfl⟩)|(go_at_call 107;refine (zbS _ _).mono ?_;rintro e w' ⟨rfl,rfl⟩))
        go_ret2
        exact zeW HB.out d
       ·have qj:(m - v)/10<A:=by omega
        go_wp2_with (first|(go_at_call 97;refine (zbT _ _).mono ?_;rintro e w' ⟨rfl,rfl⟩)|(go_at_call 107;refine (zbS _ _).mono ?_;rintro e w' ⟨rfl,rfl⟩))
        go_ret2
        exact zeW HB.out d
      ·have qb: ¬m<v:=by omega
       have qj: ¬(m - v)/10<A:=by omega
       go_wp2_with (first|(go_at_call 97;refine (zbT _ _).mono ?_;rintro e w' ⟨rfl,rfl⟩)|(go_at_call 107;refine (zbS _ _).mono ?_;rintro e w' ⟨rfl,rfl⟩))
       go_roundw
       case rel=>exact ⟨k+1,A*10+v,rfl,by omega,by omega,by omega,C,d,U,(by show _=_;rw [Q.out,O.out]),H,fun _=>by omega⟩
       case measure=>
        simp only [World.iterPos,C,qc.out]
        omega
    ·have hh:=decode_high s k i (by omega)
     obtain ⟨r,hr⟩: ∃r,(Utf8.decode s k).1=r:=⟨_,rfl⟩
     obtain ⟨wd,G⟩: ∃r,(Utf8.decode s k).2=r:=⟨_,rfl⟩
     have qa:=decode_le s k
     rw [hr,G] at o
     rw [hr,G] at hh
     rw [hr] at qa
     have d:=Lib.below_iterAt J (k:=w.heap.size) (ykA _) s (k+wd)
     generalize wr.iterAt w.heap.size s (k+wd)=wi at*
     have hv:zaX (r:Int)=false:=zgO _ (by omega)
     have H:=yjZ (S.out (zeH 10 s k i (by rw [ziW];exact zgO _ (by omega))))
     clear hc hr G
     go_wp2_with (go_at_call 97;refine (zbT _ _).mono ?_;rintro e w' ⟨rfl,rfl⟩)
     go_ret2
     exact zeW H.out d
   ·have o: ∀M,(Instr.next (.pointer (some ⟨w.heap.size,0,none⟩)) true M).run Tryz.prog wr=_:=fun M=>Lib.run_next_end_at wr w.heap.size s k M f i
    have I:=X.out
    rw [zeG s k i] at I
    have B:=HA.out
    rw [zeG s k i] at B
    have H:=yjZ (V.out I (by rw [←B];exact HK.out (by omega)))
    have qf:=yjZ B
    clear I B
    go_wp2
    go_ret2
    exact zeW (by rw [H.out,qf.out]) J
theorem zcQ (s:ByteArray) (m:Int) (w:World) (o:s.size≤1073741824) (B:m≤9223372036854775807) (d: -9223372036854775808≤m):
  Calls Tryz.prog 308 #[.string s,.int .i64 m] w (z4Q w (decZ s.data.toList m)):=by
 by_cases i:s.size=0
 ·obtain rfl:=zdO s i
  have f:=yjZ (zsD (ByteArray.mk #[]).data.toList m (.inl rfl))
  clear i o
  go_enter Tryz.func308,Tryz.ntmps308
  go_wp2
  go_ret2
  exact zeW f.out (ykD _ _)
 ·by_cases j:1<s.size∧s[0].toNat=48
  ·obtain ⟨A,D⟩:=j
   have f:=yjZ (zsD s.data.toList m (.inr ⟨by rw [zaR];exact A,by rw [zsE s (by omega)];exact D⟩))
   have C:=zeA s i
   have E:0<s.size:=by omega
   go_enter Tryz.func308,Tryz.ntmps308
   go_wp2
   go_ret2
   exact zeW f.out (ykD _ _)
  ·exact zsU s m w o B d (by omega) j
def zeT (l:List UInt8):Bool:= !l.isEmpty&&zbO 10 l
theorem z5C {l:List UInt8} (h:zbO 10 l=false):zeT l=false:=by unfold zeT;rw [h];simp
theorem z0I {s:ByteArray} (d:s.size≠0) (h:zbO 10 s.data.toList=true):zeT s.data.toList=true:=by
 unfold zeT;rw [h]
 cases f:s.data.toList with
 |nil=>exact absurd f (zfM s d)
 |cons a l=>rfl
def zbN (w:World) (b:Bool) (e:Ending) (w':World):Prop:=e= .returned (.bool b)∧Below w.heap.size w w'
theorem zaE {w w':World} {x b:Bool} (h:x=b) (d:Below w.heap.size w w'):zbN w x (.returned (.bool b)) w':=by
 subst h;exact ⟨rfl,d⟩
theorem zfT (s:ByteArray) (w:World) (Y:s.size≤1073741824):
  Calls Tryz.prog 112 #[.string s] w (zbN w (zeT s.data.toList)):=by
 by_cases I:s.size=0
 ·obtain rfl:=zdO s I
  have B:Hid (zeT (ByteArray.mk #[]).data.toList=false):=rfl
  clear I Y
  go_enter Tryz.func112,Tryz.ntmps112
  go_wp2
  go_loopw [] (fun wr=>wr.heap[w.heap.size]? =some (.stringIter ⟨#[]⟩ 0)∧Below w.heap.size w wr) (fun _=>0)
  case atStart=>exact ⟨World.iter_heap w ⟨#[]⟩ 0,(ykD _ w).alloc (ykA _) _⟩
  case round=>
   obtain ⟨d,j⟩:=hrel
   have i: ∀o,(Instr.next (.pointer (some ⟨w.heap.size,0,none⟩)) true o).run Tryz.prog wr=_:=fun o=>Lib.run_next_end_at wr w.heap.size ⟨#[]⟩ 0 o d (by decide)
   go_wp2
   go_ret
   exact zaE B.out j
 ·have H:=yjZ (z5C (l:=s.data.toList))
  have K:=yjZ (z0I I)
  have qa:=zeA s I
  clear I
  go_enter Tryz.func112,Tryz.ntmps112
  go_wp2
  go_loopw [] (fun wr=> ∃(k:Nat),k≤s.size∧wr.heap[w.heap.size]? =some (.stringIter s k)∧Below w.heap.size w wr∧w.heap.size+1≤wr.heap.size∧Hid (zbO 10 (s.data.toList.take k)=true)) (fun wr=>s.size - wr.iterPos w.heap.size)
  case atStart=>exact ⟨0,Nat.zero_le _,World.iter_heap w s 0,(ykD _ w).alloc (ykA _) _,by simp [World.iter],rfl⟩
  case round=>
   obtain ⟨k,hk,d,j,S,M⟩:=hrel
   by_cases A:k<s.size
   ·obtain ⟨c,O⟩: ∃c,(s[k]'A).toNat=c:=⟨_,rfl⟩
    have i: ∀o,(Instr.next (.pointer (some ⟨w.heap.size,0,none⟩)) true o).run Tryz.prog wr=_:=fun o=>Lib.run_next_any_at wr w.heap.size s k o d A
    by_cases V:c<128
    ·have m:=decode_ascii s k A (by omega)
     rw [O] at m
     rw [m] at i
     have C:=Lib.iterAt_heap wr w.heap.size s k (k+1) d
     have f:=Lib.below_iterAt j (k:=w.heap.size) (ykA _) s (k+1)
     have J:w.heap.size+1≤(wr.iterAt w.heap.size s (k+1)).heap.size:=by rw [Lib.iterAt_size];exact S
     simp only at i
     generalize wr.iterAt w.heap.size s (k+1)=Z at*
     have U:=yjZ d
     have X:=yjZ O
     clear d O m
     cases G:zaX (c:Int) with
     |false=>
      have B:=yjZ (H.out (zeH 10 s k A (by rw [ziW,X.out];exact G)))
      go_wp2_with (go_at_call 97;refine (zbT _ _).mono ?_;rintro e w' ⟨rfl,rfl⟩)
      go_ret
      exact zaE B.out f
     |true=>
      have B:=yjZ (zlX 10 s k A M.out (by rw [ziW,X.out];exact G))
      go_wp2_with (go_at_call 97;refine (zbT _ _).mono ?_;rintro e w' ⟨rfl,rfl⟩)
      go_roundw
      case rel=>exact ⟨k+1,by omega,C,f,J,B⟩
      case measure=>
       simp only [World.iterPos,C,U.out]
       omega
    ·have hh:=decode_high s k A (by omega)
     obtain ⟨r,N⟩: ∃r,(Utf8.decode s k).1=r:=⟨_,rfl⟩
     obtain ⟨wd,D⟩: ∃r,(Utf8.decode s k).2=r:=⟨_,rfl⟩
     have Q:=decode_le s k
     rw [N,D] at i
     rw [N,D] at hh
     rw [N] at Q
     have f:=Lib.below_iterAt j (k:=w.heap.size) (ykA _) s (k+wd)
     generalize wr.iterAt w.heap.size s (k+wd)=Z at*
     have hv:zaX (r:Int)=false:=zgO _ (by omega)
     have B:=yjZ (H.out (zeH 10 s k A (by rw [ziW];exact zgO _ (by omega))))
     clear O N D
     go_wp2_with (go_at_call 97;refine (zbT _ _).mono ?_;rintro e w' ⟨rfl,rfl⟩)
     go_ret
     exact zaE B.out f
   ·have i: ∀o,(Instr.next (.pointer (some ⟨w.heap.size,0,none⟩)) true o).run Tryz.prog wr=_:=fun o=>Lib.run_next_end_at wr w.heap.size s k o d A
    have E:=M.out
    rw [zeG s k A] at E
    have B:=yjZ (K.out E)
    clear E
    go_wp2
    go_ret
    exact zaE B.out j
def zjH (ps:List (List UInt8)):List UInt8:=
 if 1<ps.length∧ps.getD (ps.length - 1) []=[] then ps.getD (ps.length - 2) [] else ps.getD (ps.length - 1) []
def zaU (l:List UInt8):List (List UInt8):=zbW (hasB [46]) l
def ztR (x:List UInt8):Bool:=zeT x||(zcV x).2
def ziZ (l:List UInt8):Bool:=ztR (zjH (zaU l))
theorem ycD (p:UInt8→Bool) (l:List UInt8): ∀st:List (List UInt8)×List UInt8,(∀x∈(l.foldl (zbD p) st).1,x∈st.1∨x.length≤st.2.length+l.length)∧(l.foldl (zbD p) st).2.length≤st.2.length+l.length:=by
 induction l with
 |nil=>intro st;exact ⟨fun x f=> .inl f,by simp⟩
 |cons c l j=>
  intro st
  simp only [List.foldl_cons,List.length_cons]
  have h:=j (zbD p st c)
  by_cases i:p c=true
  ·have e:zbD p st c=(st.1++[st.2],[]):=by simp [zbD,i]
   rw [e] at h ⊢
   refine ⟨fun x f=> ?_,by have:=h.2;simp at this;omega⟩
   rcases h.1 x f with d|d
   ·simp at d
    rcases d with d|d
    ·exact .inl d
    ·subst d;exact .inr (by omega)
   ·simp at d;exact .inr (by omega)
  ·have e:zbD p st c=(st.1,st.2++[c]):=by simp [zbD,i]
   rw [e] at h ⊢
   refine ⟨fun x f=> ?_,by have:=h.2;simp at this;omega⟩
   rcases h.1 x f with d|d
   ·exact .inl d
   ·simp at d;exact .inr (by omega)
theorem yeS (p:UInt8→Bool) (l x:List UInt8) (h:x∈zbW p l):x.length≤l.length:=by
 have k:=ycD p l ([],[])
 unfold zbW at h
 rcases List.mem_append.1 h with h|h
 ·rcases k.1 x h with h|h
  ·simp at h
  ·simpa using h
 ·simp at h
  subst h
  exact Nat.le_trans k.2 (by simp)
theorem ziA (p:UInt8→Bool) (l:List UInt8) (j:Nat):((zbW p l).getD j []).length≤l.length:=by
 by_cases h:j<(zbW p l).length
 ·refine yeS p l _ ?_
  rw [List.getD,List.getElem?_eq_getElem h]
  exact List.getElem_mem h
 ·rw [List.getD,List.getElem?_eq_none (by omega)]
  simp
theorem zqX (n:Nat) (x:List UInt8) (ps:List (List UInt8)) (h:ps.length=n+1) (j:ps.getD n []=x) (i:n=0∨x≠[]):zjH ps=x:=by
 unfold zjH
 rw [h,Nat.add_sub_cancel,j,if_neg]
 rintro ⟨m,f⟩
 rcases i with d|d
 ·omega
 ·exact d f
theorem zwA (n:Nat) (y:List UInt8) (ps:List (List UInt8)) (h:ps.length=n+2) (f:ps.getD (n+1) []=[]) (d:ps.getD n []=y):zjH ps=y:=by
 unfold zjH
 rw [h,show n+2 - 1=n+1 from rfl,f,if_pos ⟨by omega,rfl⟩,show n+2 - 2=n from rfl,d]
theorem zeI {x:List UInt8} (h:x≠[]):x.isEmpty=false:=by cases x with|nil=>exact absurd rfl h|cons a l=>rfl
theorem ziV {x:List UInt8} (h:zeT x=true):ztR x=true:=by unfold ztR;rw [h];rfl
theorem zjB {x:List UInt8} {b:Bool} (h:zeT x=false) (d:(zcV x).2=b):ztR x=b:=by unfold ztR;rw [h,d];rfl
theorem ygF (s:ByteArray) (w:World) (Z:s.size≤1073741824) (x:List UInt8) (J:(zaU s.data.toList).length=1) (H:(zaU s.data.toList).getD 0 []=x):
  Calls Tryz.prog 55 #[.string s] w (zbN w (ziZ s.data.toList)):=by
 have U:x.length≤s.size:=by rw [←H,←zaR];exact ziA _ _ _
 have E:=yjZ (show ziZ s.data.toList=ztR x from by unfold ziZ;rw [zqX 0 x _ J H (.inl rfl)])
 have I:=yjZ J
 have X:=yjZ H
 clear J H
 go_enter Tryz.func55,Tryz.ntmps55
 go_wp2_with fail
 refine (zdN s _ _ Z).mono ?_
 rintro e S ⟨v,rfl,O,i⟩
 have C:zbI w.heap.size S v (zaU s.data.toList):=O
 obtain ⟨g,V,rfl,Y,d⟩:=C.form (by rw [I.out];omega)
 rw [I.out]
 rw [I.out] at d
 have o:=d 0 (by omega)
 rw [X.out] at o
 clear d O C
 by_cases m:zeT x=true
 -- digits alone
 ·have N:=yjZ (E.out.trans (ziV m))
  have A:=yjZ m
  clear m
  go_wp2_with fail
  refine (zfT ⟨x.toArray⟩ _ (by rw [zaI];omega)).mono ?_
  rw [zaQ,A.out]
  rintro e K ⟨rfl,f⟩
  have j:Below w.heap.size w K:=i.trans (f.mono i.size)
  clear i f
  go_wp2
  go_ret
  exact zaE N.out j
 ·have B:zeT x=false:=by simpa using m
  have N:=yjZ (E.out.trans (zjB B rfl))
  have A:=yjZ B
  clear m B
  go_wp2_with fail
  refine (zfT ⟨x.toArray⟩ _ (by rw [zaI];omega)).mono ?_
  rw [zaQ,A.out]
  rintro e K ⟨rfl,f⟩
  have j:Below w.heap.size w K:=i.trans (f.mono i.size)
  have D:=(f.cell (p:=⟨g,0,none⟩) Y).trans o
  clear i f o
  go_wp2_with fail
  refine (zjT ⟨x.toArray⟩ _ (by rw [zaI];omega)).mono ?_
  rw [zaQ]
  rintro e Q ⟨rfl,G⟩
  have M:Below w.heap.size w Q:=j.trans (G.mono j.size)
  clear j G D
  go_wp2
  go_ret
  exact zaE N.out M
theorem z2T (s:ByteArray) (w:World) (Z:s.size≤1073741824) (n:Nat) (x:List UInt8) (N:(zaU s.data.toList).length=n+2) (J:(zaU s.data.toList).getD (n+1) []=x) (A:x≠[]):
  Calls Tryz.prog 55 #[.string s] w (zbN w (ziZ s.data.toList)):=by
 have Y:x.length≤s.size:=by rw [←J,←zaR];exact ziA _ _ _
 have D:=yjZ (show ziZ s.data.toList=ztR x from by unfold ziZ;rw [zqX (n+1) x _ N J (.inr A)])
 have V:x.isEmpty=false:=zeI A
 have I:=yjZ N
 have HX:=yjZ J
 clear N J A
 have X:n≤1073741824:=by
  have h1:=zdF (hasB [46]) s.data.toList
  rw [zaR] at h1
  have U:=I.out
  unfold zaU at U
  omega
 go_enter Tryz.func55,Tryz.ntmps55
 go_wp2_with fail
 refine (zdN s _ _ Z).mono ?_
 rintro e w1 ⟨v,rfl,Q,i⟩
 have G:zbI w.heap.size w1 v (zaU s.data.toList):=Q
 obtain ⟨g,qa,rfl,hg,d⟩:=G.form (by rw [I.out];omega)
 rw [I.out]
 rw [I.out] at d
 have B:=d (n+1) (by omega)
 rw [HX.out] at B
 clear d Q G
 by_cases j:zeT x=true
 -- digits alone
 ·have M:=yjZ (D.out.trans (ziV j))
  have C:=yjZ j
  clear j
  go_wp2_with fail
  refine (zfT ⟨x.toArray⟩ _ (by rw [zaI];omega)).mono ?_
  rw [zaQ,C.out]
  rintro e O ⟨rfl,f⟩
  have m:Below w.heap.size w O:=i.trans (f.mono i.size)
  clear i f
  go_wp2
  go_ret
  exact zaE M.out m
 ·have o:zeT x=false:=by simpa using j
  have M:=yjZ (D.out.trans (zjB o rfl))
  have C:=yjZ o
  clear j o
  go_wp2_with fail
  refine (zfT ⟨x.toArray⟩ _ (by rw [zaI];omega)).mono ?_
  rw [zaQ,C.out]
  rintro e O ⟨rfl,f⟩
  have m:Below w.heap.size w O:=i.trans (f.mono i.size)
  have H:=(f.cell (p:=⟨g,(n+1),none⟩) hg).trans B
  clear i f B
  go_wp2_with fail
  refine (zjT ⟨x.toArray⟩ _ (by rw [zaI];omega)).mono ?_
  rw [zaQ]
  rintro e S ⟨rfl,E⟩
  have K:Below w.heap.size w S:=m.trans (E.mono m.size)
  clear m E H
  go_wp2
  go_ret
  exact zaE M.out K
theorem zuH (s:ByteArray) (w:World) (hs:s.size≤1073741824) (n:Nat) (x:List UInt8) (M:(zaU s.data.toList).length=n+2) (I:(zaU s.data.toList).getD n []=x) (O:(zaU s.data.toList).getD (n+1) []=[]):
  Calls Tryz.prog 55 #[.string s] w (zbN w (ziZ s.data.toList)):=by
 have Z:x.length≤s.size:=by rw [←I,←zaR];exact ziA _ _ _
 have C:=yjZ (show ziZ s.data.toList=ztR x from by unfold ziZ;rw [zwA n x _ M O I])
 have H:=yjZ M
 have HX:=yjZ I
 have X:=yjZ O
 clear M I O
 have Y:n≤1073741824:=by
  have h1:=zdF (hasB [46]) s.data.toList
  rw [zaR] at h1
  have V:=H.out
  unfold zaU at V
  omega
 go_enter Tryz.func55,Tryz.ntmps55
 go_wp2_with fail
 refine (zdN s _ _ hs).mono ?_
 rintro e w1 ⟨v,rfl,S,i⟩
 have E:zbI w.heap.size w1 v (zaU s.data.toList):=S
 obtain ⟨g,qa,rfl,hg,d⟩:=E.form (by rw [H.out];omega)
 rw [H.out]
 rw [H.out] at d
 have A:=d n (by omega)
 rw [HX.out] at A
 have Q:=d (n+1) (by omega)
 rw [X.out] at Q
 clear d S E
 by_cases j:zeT x=true
 -- digits alone
 ·have K:=yjZ (C.out.trans (ziV j))
  have B:=yjZ j
  clear j
  go_wp2_with fail
  refine (zfT ⟨x.toArray⟩ _ (by rw [zaI];omega)).mono ?_
  rw [zaQ,B.out]
  rintro e N ⟨rfl,f⟩
  have m:Below w.heap.size w N:=i.trans (f.mono i.size)
  clear i f
  go_wp2
  go_ret
  exact zaE K.out m
 ·have o:zeT x=false:=by simpa using j
  have K:=yjZ (C.out.trans (zjB o rfl))
  have B:=yjZ o
  clear j o
  go_wp2_with fail
  refine (zfT ⟨x.toArray⟩ _ (by rw [zaI];omega)).mono ?_
  rw [zaQ,B.out]
  rintro e N ⟨rfl,f⟩
  have m:Below w.heap.size w N:=i.trans (f.mono i.size)
  have G:=(f.cell (p:=⟨g,n,none⟩) hg).trans A
  clear i f A
  go_wp2_with fail
  refine (zjT ⟨x.toArray⟩ _ (by rw [zaI];omega)).mono ?_
  rw [zaQ]
  rintro e U ⟨rfl,D⟩
  have J:Below w.heap.size w U:=m.trans (D.mono m.size)
  clear m D G
  go_wp2
  go_ret
  exact zaE K.out J
theorem ydW (s:ByteArray) (w:World) (d:s.size≤1073741824):
  Calls Tryz.prog 55 #[.string s] w (zbN w (ziZ s.data.toList)):=by
 have m:0<(zaU s.data.toList).length:=zjK _ _
 by_cases j:(zaU s.data.toList).length=1
 ·exact ygF s w d _ j rfl
 ·obtain ⟨n,i⟩: ∃n,(zaU s.data.toList).length=n+2:=⟨(zaU s.data.toList).length - 2,by omega⟩
  by_cases f:(zaU s.data.toList).getD (n+1) []=[]
  ·exact zuH s w d n _ i rfl f
  ·exact z2T s w d n _ i rfl f
end
end
section
open Go.RowKit
theorem z6B (n:Nat) (h:n<16):valZ ((hexN n).toNat:Int)=n∧(hexN n).toNat≠37∧(hexN n).toNat<128:=by
 have key: ∀n:Fin 16,valZ ((hexN n.val).toNat:Int)=n.val∧(hexN n.val).toNat≠37∧(hexN n.val).toNat<128:=by decide+kernel
 exact key ⟨n,h⟩
theorem ygR (st:Nat) (n:Nat) (d:st<6) (h:n<16):inB st ((hexN n).toNat:Int)=false∧inB st 37=false:=by
 have key: ∀st:Fin 6,∀n:Fin 16,inB (st.val:Int) ((hexN n.val).toNat:Int)=false∧inB (st.val:Int) 37=false:=by decide+kernel
 exact key ⟨st,d⟩ ⟨n,h⟩
theorem zsJ {st r:Int} (i:0≤st) (d:st≤5) (h:inB st r=false):31<r∧r≤126:=by
 by_cases f:r≤31∨126<r
 ·rw [z5X i d f] at h;cases h
 ·omega
theorem zlB {r:Int} (d:0≤r) (f:r<128):Lib.encodeRune r=[r.toNat.toUInt8]:=by
 unfold Lib.encodeRune
 rw [Lib.encodeRuneZ_one d (by omega)]
 rfl
theorem z5F (st:Int) (o:0≤st) (A:st≤5) (l:List Int): ∀b∈encB st l,b.toNat<128∧inB st (b.toNat:Int)=false:=by
 intro b d
 obtain ⟨r,_,d⟩:=List.mem_flatMap.1 d
 cases f:inB st r with
 |true=>
  have e:encP st r=pctL (Lib.encodeRune r):=by unfold encP;rw [f];rfl
  rw [e] at d
  obtain ⟨c,_,d⟩:=List.mem_flatMap.1 d
  have E:=c.toNat_lt
  have i:st=(st.toNat:Int):=(Int.toNat_of_nonneg o).symm
  have j:=ygR st.toNat (c.toNat/16) (by omega) (by omega)
  have m:=ygR st.toNat (c.toNat % 16) (by omega) (by omega)
  rw [←i] at j m
  have B:=z6B (c.toNat/16) (by omega)
  have C:=z6B (c.toNat % 16) (by omega)
  simp only [pctB,List.mem_cons,List.not_mem_nil,or_false] at d
  rcases d with rfl|rfl|rfl
  ·exact ⟨by decide,j.2⟩
  ·exact ⟨B.2.2,j.1⟩
  ·exact ⟨C.2.2,m.1⟩
 |false=>
  have e:encP st r=Lib.encodeRune r:=by unfold encP;rw [f];rfl
  have D:=zsJ o A f
  rw [e,zlB (by omega) (by omega)] at d
  simp only [List.mem_cons,List.not_mem_nil,or_false] at d
  subst d
  rw [u8_of r (by omega) (by omega),Int.toNat_of_nonneg (by omega)]
  exact ⟨by omega,f⟩
end
end Go.Proofs.YtegmcmgndllmaaaGreatDoor
