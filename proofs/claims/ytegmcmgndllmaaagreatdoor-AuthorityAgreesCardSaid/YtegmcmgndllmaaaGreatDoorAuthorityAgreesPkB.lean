/-
  What the law AuthorityAgrees leans on, and its walk (2 of 43).
-/
import Derived.IntWalk
import Derived.StillTailTactics
import Derived.Deep.RegionHeld3
import Derived.Deep.AppendLies
import Derived.Test.YtegmcmgndllmaaaGreatDoorAuthorityAgreesPkA
namespace Go.Proofs.YtegmcmgndllmaaaGreatDoor
set_option maxRecDepth 100000
set_option maxHeartbeats 16000000
abbrev ynD := @Lib.hid
abbrev ynE := @Nat.le_refl
abbrev ynF := @decide_eq_false
abbrev ynG := @decide_eq_true
abbrev ynH := @Go.RowKit.Below.refl
section
section
open Go.RowKit
def hexN (n:Nat):UInt8:=([48,49,50,51,52,53,54,55,56,57,65,66,67,68,69,70]:List UInt8).getD n 0
def pctB (c:UInt8):List UInt8:=[37,hexN (c.toNat/16),hexN (c.toNat % 16)]
theorem yjI (n:Nat) (h:n<(ByteArray.mk #[48,49,50,51,52,53,54,55,56,57,65,66,67,68,69,70]).size):((ByteArray.mk #[48,49,50,51,52,53,54,55,56,57,65,66,67,68,69,70])[n]'h).toNat=(hexN n).toNat:=by
 have d: ∀n:Fin 16,((ByteArray.mk #[48,49,50,51,52,53,54,55,56,57,65,66,67,68,69,70])[n.val]'n.isLt).toNat=(hexN n.val).toNat:=by decide
 exact d ⟨n,h⟩
theorem yhM (c:UInt8) (w:World):
  Calls Tryz.prog 275 #[.int .u8 (c.toNat:Int)] w fun e w'=>e= .returned (.string ⟨(pctB c).toArray⟩)∧Below w.heap.size w w':=by
 obtain ⟨n,j⟩: ∃n,c.toNat=n:=⟨_,rfl⟩
 have C:n<256:=by rw [←j];exact c.toNat_lt
 have hR:pctB c=[37,hexN (n/16),hexN (n % 16)]:=by unfold pctB;rw [j]
 rw [j,hR]
 clear j hR c
 have o:(0:Int)≤(n:Int)/16:=by omega
 have A:(n:Int)/16<16:=by omega
 have q:(0:Int)≤(n:Int) % 16:=by omega
 have B:(n:Int) % 16<16:=by omega
 have g:n/16<(ByteArray.mk #[48,49,50,51,52,53,54,55,56,57,65,66,67,68,69,70]).size:=by show n/16<16;omega
 have i:n % 16<(ByteArray.mk #[48,49,50,51,52,53,54,55,56,57,65,66,67,68,69,70]).size:=by show n % 16<16;omega
 have f:=yeU (P:=Tryz.prog) w.drew 158 9 5 [37,(((ByteArray.mk #[48,49,50,51,52,53,54,55,56,57,65,66,67,68,69,70])[n/16]'g).toNat:Int),(((ByteArray.mk #[48,49,50,51,52,53,54,55,56,57,65,66,67,68,69,70])[n % 16]'i).toNat:Int)]
  (by
   intro x m
   simp only [List.mem_cons,List.not_mem_nil,or_false] at m
   rcases m with rfl|rfl|rfl
   ·decide
   ·have:=((ByteArray.mk #[48,49,50,51,52,53,54,55,56,57,65,66,67,68,69,70])[n/16]'g).toNat_lt;omega
   ·have:=((ByteArray.mk #[48,49,50,51,52,53,54,55,56,57,65,66,67,68,69,70])[n % 16]'i).toNat_lt;omega)
  Tryz.underlying158 Tryz.underlying5 Tryz.underlying9
 have d:(convert 158 9 (.slice (some ⟨w.heap.size,0,none⟩) 3 3)).run Tryz.prog ((w.alloc (.cells #[.int .u8 37,.int .u8 (((ByteArray.mk #[48,49,50,51,52,53,54,55,56,57,65,66,67,68,69,70])[n/16]'g).toNat:Int),.int .u8 (((ByteArray.mk #[48,49,50,51,52,53,54,55,56,57,65,66,67,68,69,70])[n % 16]'i).toNat:Int)] 5)).drew)=_:=f
 clear f
 have hR:zpQ [37,(((ByteArray.mk #[48,49,50,51,52,53,54,55,56,57,65,66,67,68,69,70])[n/16]'g).toNat:Int),(((ByteArray.mk #[48,49,50,51,52,53,54,55,56,57,65,66,67,68,69,70])[n % 16]'i).toNat:Int)]=[37,hexN (n/16),hexN (n % 16)]:=by
  simp only [zpQ,List.map_cons,List.map_nil,yjI _ g,yjI _ i,zgK]
  rfl
 rw [hR] at d
 clear hR
 generalize [37,hexN (n/16),hexN (n % 16)]=R at d ⊢
 go_enter Tryz.func275,Tryz.ntmps275
 go_wp2
 go_region
 all_goals (go_wp2;go_ret;exact ⟨rfl,((ynH _ _).alloc (ynE _) _).drew⟩)
def setL:Nat→List Int
 |1=>[32,34,60,62,96]
 |2=>[32,34,35,60,62]
 |3=>[32,34,35,60,62,39]
 |4=>[32,34,35,60,62,63,94,96,123,125]
 |5=>[32,34,35,60,62,63,94,96,123,125,47,58,59,61,64,91,92,93,124]
 |_=>[]
def inB (s r:Int):Bool:=decide (0≤s∧s≤5)&&(decide (r≤31∨126<r)||(setL s.toNat).contains r)
theorem ykC {s r:Int} (h:s<0∨5<s):inB s r=false:=by
 unfold inB
 rw [ynF (by omega)];rfl
theorem z9G {s r:Int} (e:0≤s) (d:s≤5) (h:r≤31∨126<r):inB s r=true:=by
 unfold inB
 rw [ynG ⟨e,d⟩,ynG h];rfl
theorem zkU {s r:Int} (e:0≤s) (d:s≤5) (g:31<r) (f:r≤126):inB s r=(setL s.toNat).contains r:=by
 unfold inB
 rw [ynG ⟨e,d⟩,ynF (by omega)];simp
theorem ykF (n:Nat) (h:n<127):decide (0≤Lib.indexByte ([]:List UInt8) n.toUInt8)=(setL 0).contains (n:Int):=by
 have d: ∀n:Fin 127,decide (0≤Lib.indexByte ([]:List UInt8) n.val.toUInt8)=(setL 0).contains (n.val:Int):=by decide+kernel
 exact d ⟨n,h⟩
theorem yjT (r:Int) (w:World) (g:31<r) (f:r≤126):
  Calls Tryz.prog 272 #[.int .u8 0,.int .i32 r] w fun e w'=>e= .returned (.bool (inB 0 r))∧w=w':=by
 obtain ⟨n,rfl⟩:=Int.eq_ofNat_of_zero_le (show 0≤r by omega)
 have i:=ynD ((zkU (s:=0) (by decide) (by decide) g f).trans (ykF n (by omega)).symm)
 go_enter Tryz.func272,Tryz.ntmps272
 go_wp2_with (first|(go_at_call 88;refine (Tryz.strings_ContainsRune_ascii _ _ _ (by omega) (by omega)).mono ?_;rintro e w' ⟨rfl,rfl⟩)|go_in)
 go_ret
 exact ⟨zaV (by rw [i.out];have j:decide ((n:Int)≤31)=false:=ynF (by omega);have d:decide (126<(n:Int))=false:=ynF (by omega);simp only [j,d,Bool.false_or]),rfl⟩
theorem ymR (n:Nat) (h:n<127):decide (0≤Lib.indexByte ([32,34,60,62,96]:List UInt8) n.toUInt8)=(setL 1).contains (n:Int):=by
 have d: ∀n:Fin 127,decide (0≤Lib.indexByte ([32,34,60,62,96]:List UInt8) n.val.toUInt8)=(setL 1).contains (n.val:Int):=by decide+kernel
 exact d ⟨n,h⟩
theorem ymV (r:Int) (w:World) (g:31<r) (f:r≤126):
  Calls Tryz.prog 272 #[.int .u8 1,.int .i32 r] w fun e w'=>e= .returned (.bool (inB 1 r))∧w=w':=by
 obtain ⟨n,rfl⟩:=Int.eq_ofNat_of_zero_le (show 0≤r by omega)
 have i:=ynD ((zkU (s:=1) (by decide) (by decide) g f).trans (ymR n (by omega)).symm)
 go_enter Tryz.func272,Tryz.ntmps272
 go_wp2_with (first|(go_at_call 88;refine (Tryz.strings_ContainsRune_ascii _ _ _ (by omega) (by omega)).mono ?_;rintro e w' ⟨rfl,rfl⟩)|go_in)
 go_ret
 exact ⟨zaV (by rw [i.out];have j:decide ((n:Int)≤31)=false:=ynF (by omega);have d:decide (126<(n:Int))=false:=ynF (by omega);simp only [j,d,Bool.false_or]),rfl⟩
theorem yjS (n:Nat) (h:n<127):decide (0≤Lib.indexByte ([32,34,35,60,62]:List UInt8) n.toUInt8)=(setL 2).contains (n:Int):=by
 have d: ∀n:Fin 127,decide (0≤Lib.indexByte ([32,34,35,60,62]:List UInt8) n.val.toUInt8)=(setL 2).contains (n.val:Int):=by decide+kernel
 exact d ⟨n,h⟩
theorem ymO (r:Int) (w:World) (g:31<r) (f:r≤126):
  Calls Tryz.prog 272 #[.int .u8 2,.int .i32 r] w fun e w'=>e= .returned (.bool (inB 2 r))∧w=w':=by
 obtain ⟨n,rfl⟩:=Int.eq_ofNat_of_zero_le (show 0≤r by omega)
 have i:=ynD ((zkU (s:=2) (by decide) (by decide) g f).trans (yjS n (by omega)).symm)
 go_enter Tryz.func272,Tryz.ntmps272
 go_wp2_with (first|(go_at_call 88;refine (Tryz.strings_ContainsRune_ascii _ _ _ (by omega) (by omega)).mono ?_;rintro e w' ⟨rfl,rfl⟩)|go_in)
 go_ret
 exact ⟨zaV (by rw [i.out];have j:decide ((n:Int)≤31)=false:=ynF (by omega);have d:decide (126<(n:Int))=false:=ynF (by omega);simp only [j,d,Bool.false_or]),rfl⟩
theorem ykI (n:Nat) (h:n<127):decide (0≤Lib.indexByte ([32,34,35,60,62,39]:List UInt8) n.toUInt8)=(setL 3).contains (n:Int):=by
 have d: ∀n:Fin 127,decide (0≤Lib.indexByte ([32,34,35,60,62,39]:List UInt8) n.val.toUInt8)=(setL 3).contains (n.val:Int):=by decide+kernel
 exact d ⟨n,h⟩
theorem ymS (r:Int) (w:World) (g:31<r) (f:r≤126):
  Calls Tryz.prog 272 #[.int .u8 3,.int .i32 r] w fun e w'=>e= .returned (.bool (inB 3 r))∧w=w':=by
 obtain ⟨n,rfl⟩:=Int.eq_ofNat_of_zero_le (show 0≤r by omega)
 have i:=ynD ((zkU (s:=3) (by decide) (by decide) g f).trans (ykI n (by omega)).symm)
 go_enter Tryz.func272,Tryz.ntmps272
 go_wp2_with (first|(go_at_call 88;refine (Tryz.strings_ContainsRune_ascii _ _ _ (by omega) (by omega)).mono ?_;rintro e w' ⟨rfl,rfl⟩)|go_in)
 go_ret
 exact ⟨zaV (by rw [i.out];have j:decide ((n:Int)≤31)=false:=ynF (by omega);have d:decide (126<(n:Int))=false:=ynF (by omega);simp only [j,d,Bool.false_or]),rfl⟩
theorem ykQ (n:Nat) (h:n<127):decide (0≤Lib.indexByte ([32,34,35,60,62,63,94,96,123,125]:List UInt8) n.toUInt8)=(setL 4).contains (n:Int):=by
 have d: ∀n:Fin 127,decide (0≤Lib.indexByte ([32,34,35,60,62,63,94,96,123,125]:List UInt8) n.val.toUInt8)=(setL 4).contains (n.val:Int):=by decide+kernel
 exact d ⟨n,h⟩
theorem ylT (r:Int) (w:World) (g:31<r) (f:r≤126):
  Calls Tryz.prog 272 #[.int .u8 4,.int .i32 r] w fun e w'=>e= .returned (.bool (inB 4 r))∧w=w':=by
 obtain ⟨n,rfl⟩:=Int.eq_ofNat_of_zero_le (show 0≤r by omega)
 have i:=ynD ((zkU (s:=4) (by decide) (by decide) g f).trans (ykQ n (by omega)).symm)
 go_enter Tryz.func272,Tryz.ntmps272
 go_wp2_with (first|(go_at_call 88;refine (Tryz.strings_ContainsRune_ascii _ _ _ (by omega) (by omega)).mono ?_;rintro e w' ⟨rfl,rfl⟩)|go_in)
 go_ret
 exact ⟨zaV (by rw [i.out];have j:decide ((n:Int)≤31)=false:=ynF (by omega);have d:decide (126<(n:Int))=false:=ynF (by omega);simp only [j,d,Bool.false_or]),rfl⟩
theorem ykJ (n:Nat) (h:n<127):decide (0≤Lib.indexByte ([32,34,35,60,62,63,94,96,123,125,47,58,59,61,64,91,92,93,124]:List UInt8) n.toUInt8)=(setL 5).contains (n:Int):=by
 have d: ∀n:Fin 127,decide (0≤Lib.indexByte ([32,34,35,60,62,63,94,96,123,125,47,58,59,61,64,91,92,93,124]:List UInt8) n.val.toUInt8)=(setL 5).contains (n.val:Int):=by decide+kernel
 exact d ⟨n,h⟩
theorem ymH (r:Int) (w:World) (g:31<r) (f:r≤126):
  Calls Tryz.prog 272 #[.int .u8 5,.int .i32 r] w fun e w'=>e= .returned (.bool (inB 5 r))∧w=w':=by
 obtain ⟨n,rfl⟩:=Int.eq_ofNat_of_zero_le (show 0≤r by omega)
 have i:=ynD ((zkU (s:=5) (by decide) (by decide) g f).trans (ykJ n (by omega)).symm)
 go_enter Tryz.func272,Tryz.ntmps272
 go_wp2_with (first|(go_at_call 88;refine (Tryz.strings_ContainsRune_ascii _ _ _ (by omega) (by omega)).mono ?_;rintro e w' ⟨rfl,rfl⟩)|go_in)
 go_ret
 exact ⟨zaV (by rw [i.out];have j:decide ((n:Int)≤31)=false:=ynF (by omega);have d:decide (126<(n:Int))=false:=ynF (by omega);simp only [j,d,Bool.false_or]),rfl⟩
theorem in_ctl (s r:Int) (w:World) (g:0≤s) (f:s≤5) (h:r≤31∨126<r):
  Calls Tryz.prog 272 #[.int .u8 s,.int .i32 r] w fun e w'=>e= .returned (.bool (inB s r))∧w=w':=by
 have d:=ynD (z9G g f h)
 rcases h with h|h
 ·go_enter Tryz.func272,Tryz.ntmps272
  go_wp2
  go_ret
  exact ⟨zaV d.out.symm,rfl⟩
 ·go_enter Tryz.func272,Tryz.ntmps272
  go_wp2
  go_ret
  exact ⟨zaV d.out.symm,rfl⟩
theorem in_out (s r:Int) (w:World) (h:5<s):
  Calls Tryz.prog 272 #[.int .u8 s,.int .i32 r] w fun e w'=>e= .returned (.bool (inB s r))∧w=w':=by
 have d:=ynD (ykC (s:=s) (r:=r) (.inr h))
 go_enter Tryz.func272,Tryz.ntmps272
 go_wp2
 go_ret
 exact ⟨zaV d.out.symm,rfl⟩
theorem yjK (s r:Int) (w:World) (g:0≤s):
  Calls Tryz.prog 272 #[.int .u8 s,.int .i32 r] w fun e w'=>e= .returned (.bool (inB s r))∧w=w':=by
 by_cases d:5<s
 ·exact in_out s r w d
 ·by_cases f:r≤31∨126<r
  ·exact in_ctl s r w g (by omega) f
  ·rcases (show s=0∨s=1∨s=2∨s=3∨s=4∨s=5 from by omega) with rfl|rfl|rfl|rfl|rfl|rfl
   ·exact yjT r w (by omega) (by omega)
   ·exact ymV r w (by omega) (by omega)
   ·exact ymO r w (by omega) (by omega)
   ·exact ymS r w (by omega) (by omega)
   ·exact ylT r w (by omega) (by omega)
   ·exact ymH r w (by omega) (by omega)
def zfK:List UInt8→Option UInt8
 |c::a::b::_=>if c.toNat=37∧0≤valZ (a.toNat:Int)∧0≤valZ (b.toNat:Int) then some (UInt8.ofNat ((valZ (a.toNat:Int)*16+valZ (b.toNat:Int)).toNat)) else none
 |_=>none
def decL:Nat→List UInt8→List UInt8
 |0,_=>[]
 |_+1,[]=>[]
 |f+1,c::r=>match zfK (c::r) with
  |some v=>v::decL f (r.drop 2)
  |none=>c::decL f r
def decB (l:List UInt8):List UInt8:=decL l.length l
theorem z6A (r:Int):valZ r<16:=by unfold valZ;(repeat' split)<;>omega
theorem ycT (r:Int): -1≤valZ r:=by unfold valZ;(repeat' split)<;>omega
theorem zcP (s:ByteArray) (k:Nat) (h:k<s.size):s.data.toList.drop k=s[k]::s.data.toList.drop (k+1):=by
 rw [List.drop_eq_getElem_cons (by simpa using h)]
 rfl
theorem zdP (s:ByteArray) (k:Nat) (h: ¬k<s.size):s.data.toList.drop k=[]:=List.drop_eq_nil_of_le (by simpa using h)
theorem z2B (s:ByteArray) (k:Nat) (g:k+2<s.size) (d:s[k].toNat=37) (e:0≤valZ (s[k+1].toNat:Int)) (f:0≤valZ (s[k+2].toNat:Int)):
  zfK (s.data.toList.drop k)=some (UInt8.ofNat ((valZ (s[k+1].toNat:Int)*16+valZ (s[k+2].toNat:Int)).toNat)):=by
 rw [zcP s k (by omega),zcP s (k+1) (by omega),zcP s (k+2) (by omega)]
 simp only [zfK]
 rw [if_pos ⟨d,e,f⟩]
theorem zsZ (s:ByteArray) (k:Nat) (d:k+2<s.size) (h:s[k].toNat≠37∨valZ (s[k+1].toNat:Int)<0∨valZ (s[k+2].toNat:Int)<0):
  zfK (s.data.toList.drop k)=none:=by
 rw [zcP s k (by omega),zcP s (k+1) (by omega),zcP s (k+2) (by omega)]
 simp only [zfK]
 rw [if_neg (by omega)]
theorem zmS (s:ByteArray) (k:Nat) (f:s.size≤k+2):zfK (s.data.toList.drop k)=none:=by
 by_cases e:k<s.size
 ·rw [zcP s k e]
  by_cases d:k+1<s.size
  ·rw [zcP s (k+1) d,zdP s (k+2) (by omega)]
   rfl
  ·rw [zdP s (k+1) d]
   rfl
 ·rw [zdP s k e]
  rfl
theorem yhU (a b:Int) (f:0≤a) (g:a<16) (e:0≤b) (i:b<16):bits BinOp.or IntKind.i64 (a*16) b % 256=a*16+b:=by
 have d: ∀a b:Fin 16,bits BinOp.or IntKind.i64 ((a.val:Int)*16) (b.val:Int) % 256=(a.val:Int)*16+(b.val:Int):=by decide+kernel
 have:=d ⟨a.toNat,by omega⟩ ⟨b.toNat,by omega⟩
 simp only [Int.toNat_of_nonneg f,Int.toNat_of_nonneg e] at this
 exact this
def zwE (o:Option UInt8) (w:World) (e:Ending) (w':World):Prop:=e= .returned (.tuple #[.int .u8 ((o.getD 0).toNat:Int),.bool o.isSome])∧ ∃n,w'=w.drewN n
theorem zeZ {o:Option UInt8} {w:World} {e:Ending} {w':World} (d:o=none) (g:e= .returned (.tuple #[.int .u8 0,.bool false])) (n:Nat) (f:w'=w.drewN n):zwE o w e w':=by
 subst d
 exact ⟨g,n,f⟩
theorem zuF {o:Option UInt8} {v:UInt8} {x:Int} {w:World} {e:Ending} {w':World} (d:o=some v) (g:e= .returned (.tuple #[.int .u8 x,.bool true])) (i:x=(v.toNat:Int)) (n:Nat) (f:w'=w.drewN n):zwE o w e w':=by
 subst d i
 exact ⟨g,n,f⟩
theorem z1F (x:Int) (d:0≤x) (e:x<256):x=((UInt8.ofNat x.toNat).toNat:Int):=by
 have:x.toNat % 256=x.toNat:=Nat.mod_eq_of_lt (by omega)
 simp [this]
 omega
theorem znX (s:ByteArray) (k:Nat) (w:World) (hs:s.size≤1073741824) (hk:k<s.size):
  Calls Tryz.prog 178 #[.string s,.int .i64 k] w (zwE (zfK (s.data.toList.drop k)) w):=by
 obtain ⟨q,o⟩: ∃c,s[k].toNat=c:=⟨_,rfl⟩
 by_cases A:k+2<s.size
 ·obtain ⟨G,i⟩: ∃c,s[k+1].toNat=c:=⟨_,rfl⟩
  obtain ⟨L,f⟩: ∃c,s[k+2].toNat=c:=⟨_,rfl⟩
  have l1:G<256:=by rw [←i];exact s[k+1].toNat_lt
  have l2:L<256:=by rw [←f];exact s[k+2].toNat_lt
  by_cases g:q=37
  ·subst g
   obtain ⟨j,d⟩: ∃v,valZ (G:Int)=v:=⟨_,rfl⟩
   obtain ⟨m,e⟩: ∃v,valZ (L:Int)=v:=⟨_,rfl⟩
   have O:j<16:=by rw [←d];exact z6A _
   have V:m<16:=by rw [←e];exact z6A _
   have b3: -1≤j:=by rw [←d];exact ycT _
   have b4: -1≤m:=by rw [←e];exact ycT _
   have I:((37:Int) !=37)=false:=by decide
   by_cases N:0≤j∧0≤m
   ·obtain ⟨K,H⟩:=N
    have HT:=ynD (z2B s k A o (by rw [i,d];exact K) (by rw [f,e];exact H))
    rw [i,f,d,e] at HT
    have T:=ynD (yhU j m K O H V)
    have Y:=ynD (z1F (j*16+m) (by omega) (by omega))
    have Z:(0:Int)≤(k:Int)+1:=by omega
    have X:(0:Int)≤(k:Int)+2:=by omega
    have U:(k:Int)+1<(s.size:Int):=by omega
    have Q:(k:Int)+2<(s.size:Int):=by omega
    have E:IntKind.i64.wrap ((k:Int)+1)=(k:Int)+1:=IntWalk.i64_in _ (by omega)
    have D:IntKind.i64.wrap ((k:Int)+2)=(k:Int)+2:=IntWalk.i64_in _ (by omega)
    have B:((k:Int)+1).toNat=k+1:=by omega
    have C:((k:Int)+2).toNat=k+2:=by omega
    go_enter Tryz.func178,Tryz.ntmps178
    go_wp2_with fail
    go_quiet ((go_at_call 107;exact Calls.quiet_of_same ((zbP _ _).mono fun _ _ h=>⟨h.1,h.2.symm⟩)))
    clear E D B C
    go_wp2
    go_ret2
    exact zuF HT.out rfl (T.out.trans Y.out) nq rfl
   ·have HT:=ynD (zsZ s k A (by rw [i,f,d,e];omega))
    have Z:(0:Int)≤(k:Int)+1:=by omega
    have X:(0:Int)≤(k:Int)+2:=by omega
    have U:(k:Int)+1<(s.size:Int):=by omega
    have Q:(k:Int)+2<(s.size:Int):=by omega
    by_cases M:j<0
    all_goals
     have E:IntKind.i64.wrap ((k:Int)+1)=(k:Int)+1:=IntWalk.i64_in _ (by omega)
     have D:IntKind.i64.wrap ((k:Int)+2)=(k:Int)+2:=IntWalk.i64_in _ (by omega)
     have B:((k:Int)+1).toNat=k+1:=by omega
     have C:((k:Int)+2).toNat=k+2:=by omega
     go_enter Tryz.func178,Tryz.ntmps178
     go_wp2_with fail
     go_quiet ((go_at_call 107;exact Calls.quiet_of_same ((zbP _ _).mono fun _ _ h=>⟨h.1,h.2.symm⟩)))
     clear E D B C
     have J:j<0∨m<0:=by omega
     go_wp2
     all_goals
      go_ret2
      exact zeZ HT.out rfl nq rfl
  ·have HT:=ynD (zsZ s k A (.inl (by rw [o];exact g)))
   have S:((q:Int) !=37)=true:=by rw [bne_iff_ne];omega
   go_enter Tryz.func178,Tryz.ntmps178
   go_wp2
   go_ret2
   exact zeZ HT.out rfl 0 rfl
 ·have HT:=ynD (zmS s k (by omega))
  by_cases g:q=37
  ·subst g
   go_enter Tryz.func178,Tryz.ntmps178
   go_wp2
   go_ret2
   exact zeZ HT.out rfl 0 rfl
  ·have S:((q:Int) !=37)=true:=by rw [bne_iff_ne];omega
   go_enter Tryz.func178,Tryz.ntmps178
   go_wp2
   go_ret2
   exact zeZ HT.out rfl 0 rfl
theorem ygK (s:ByteArray) (f k:Nat) (h: ¬k<s.size):decL f (s.data.toList.drop k)=[]:=by
 rw [zdP s k h]
 cases f<;>rfl
theorem z8Y (s:ByteArray) (f k:Nat) (v:UInt8) (h:k<s.size) (d:zfK (s.data.toList.drop k)=some v):decL (f+1) (s.data.toList.drop k)=v::decL f (s.data.toList.drop (k+3)):=by
 rw [zcP s k h] at d ⊢
 simp only [decL,d,List.drop_drop]
theorem z5N (s:ByteArray) (f k:Nat) (h:k<s.size) (d:zfK (s.data.toList.drop k)=none):decL (f+1) (s.data.toList.drop k)=s[k]::decL f (s.data.toList.drop (k+1)):=by
 rw [zcP s k h] at d ⊢
 simp only [decL,d]
theorem z3I (s:ByteArray) (k:Nat) (v:UInt8) (h:zfK (s.data.toList.drop k)=some v):k+2<s.size:=by
 by_cases d:k+2<s.size
 ·exact d
 ·rw [zmS s k (by omega)] at h;cases h
theorem z3F (s:ByteArray) (w:World) (L:s.size≤1073741824):
  Calls Tryz.prog 105 #[.string s] w fun e w'=>e= .returned (.string ⟨(decB s.data.toList).toArray⟩)∧Below w.heap.size w w':=by
 go_enter Tryz.func105,Tryz.ntmps105
 go_wp2
 go_loopw [4] (fun i wr=> ∃(k fuel:Nat) (T:List UInt8),i= .int .i64 k∧k≤s.size∧Lib.IsBuilderF 160 5 w.heap.size w.heap.size (Lib.byteCells T) wr∧Below w.heap.size w wr∧T.length≤k∧s.size≤k+fuel∧Hid (T++decL fuel (s.data.toList.drop k)=decB s.data.toList)) (fun i _=>s.size - (intOf i).toNat)
 case atStart=>
  refine ⟨0,s.size,[],rfl,Nat.zero_le _,Lib.IsBuilderF.of (Lib.fresh_isBuilder _ _ w),(ynH _ w).alloc (ynE _) _,by simp,by omega,?_⟩
  show []++decL s.size (s.data.toList.drop 0)=decL s.data.toList.length s.data.toList
  rw [zaN];rfl
 case round=>
  obtain ⟨k,fuel,T,rfl,U,J,o,Q,S,I⟩:=hrel
  have E:=o.size
  by_cases j:k<s.size
  ·obtain ⟨f,rfl⟩: ∃f,fuel=f+1:=⟨fuel - 1,by omega⟩
   cases d:zfK (s.data.toList.drop k) with
   |some v=>
    have K:=z3I s k v d
    have g:=I.out
    rw [z8Y s f k v j d] at g
    have C:=ynD g
    have A:=ynD d
    clear g d
    go_wp2_with fail
    refine (znX s k _ L j).mono ?_
    rw [A.out]
    rintro e w' ⟨rfl,nq,rfl⟩
    have B:Lib.IsBuilderF 160 5 w.heap.size w.heap.size (Lib.byteCells T) (wr.drewN nq):=J
    have q:=zcD o nq
    have m:w.heap.size≤(wr.drewN nq).heap.size:=E
    generalize wr.drewN nq=N at*
    go_wp2_with fail
    refine (Tryz.Builder_WriteByte_k w.heap.size w.heap.size _ _ _ B (by rw [Lib.byteCells_length];omega) m).mono ?_
    rintro e O ⟨rfl,H,G,_⟩
    go_wp2
    go_roundw
    case rel=>
     refine ⟨k+3,f,T++[v],by go_num,by omega,?_,q.trans G,by simp;omega,by omega,?_⟩
     ·rw [zlB T v _ rfl];exact .inr H
     ·show (T++[v])++_=_
      rw [List.append_assoc];exact C.out
    case measure=>simp [intOf];omega
   |none=>
    have g:=I.out
    rw [z5N s f k j d] at g
    have C:=ynD g
    have A:=ynD d
    clear g d
    go_wp2_with fail
    refine (znX s k _ L j).mono ?_
    rw [A.out]
    rintro e w' ⟨rfl,nq,rfl⟩
    have B:Lib.IsBuilderF 160 5 w.heap.size w.heap.size (Lib.byteCells T) (wr.drewN nq):=J
    have q:=zcD o nq
    have m:w.heap.size≤(wr.drewN nq).heap.size:=E
    generalize wr.drewN nq=N at*
    go_wp2_with fail
    refine (Tryz.Builder_WriteByte_k w.heap.size w.heap.size _ _ _ B (by rw [Lib.byteCells_length];omega) m).mono ?_
    rintro e O ⟨rfl,H,G,_⟩
    go_wp2
    go_roundw
    case rel=>
     refine ⟨k+1,f,T++[s[k]],by go_num,by omega,?_,q.trans G,by simp;omega,by omega,?_⟩
     ·rw [zlB T s[k] _ rfl];exact .inr H
     ·show (T++[s[k]])++_=_
      rw [List.append_assoc];exact C.out
    case measure=>simp [intOf];omega
  ·have D:T=decB s.data.toList:=by
    have:=I.out
    rwa [ygK s fuel k j,List.append_nil] at this
   subst D
   go_wp2_with fail
   refine (Tryz.Builder_String_any_k w.heap.size w.heap.size _ _ J (by omega)).mono ?_
   rintro e V ⟨rfl,_,M,_⟩
   go_wp2
   go_ret
   exact ⟨rfl,o.trans M⟩
def pctL (l:List UInt8):List UInt8:=l.flatMap pctB
def encP (s r:Int):List UInt8:=if inB s r=true then pctL (Lib.encodeRune r) else Lib.encodeRune r
def encB (s:Int) (l:List Int):List UInt8:=l.flatMap (encP s)
theorem zzI (l:List UInt8):(pctL l).length=3*l.length:=by
 induction l with
 |nil=>rfl
 |cons c l d=>simp only [pctL,List.flatMap_cons,List.length_append] at d ⊢;rw [d];simp [pctB];omega
theorem z0C (s r:Int):(encP s r).length≤12:=by
 have:=zgO r
 unfold encP
 split
 ·rw [zzI];omega
 ·omega
theorem z8T (l:List UInt8) (k:Nat) (h:k<l.length):pctL (l.take (k+1))=pctL (l.take k)++pctB l[k]:=by
 unfold pctL
 rw [List.take_succ_eq_append_getElem h,List.flatMap_append]
 simp
theorem ztY (s r:Int) (l:List Int):encB s (r::l)=encP s r++encB s l:=by simp [encB]
theorem z5J (s:Int) (l:List Int) (k:Nat) (h:k<l.length):encB s (l.take (k+1))=encB s (l.take k)++encP s l[k]:=by
 unfold encB
 rw [List.take_succ_eq_append_getElem h,List.flatMap_append]
 simp
theorem zlM (s:Int) (l:List Int): ∀k,(encB s (l.take k)).length≤12*k
 |0=>by simp [encB]
 |k+1=>by
  have d:=zlM s l k
  by_cases h:k<l.length
  ·rw [z5J s l k h,List.length_append];have:=z0C s l[k];omega
  ·rw [List.take_of_length_le (by omega)];rw [List.take_of_length_le (by omega)] at d;omega
theorem ztI {T e:TypeId} {B b:Nat} {j:List Value} {w w':World} (h:Lib.IsBuilderF T e B b j w) (G:Below w.heap.size w w'):Lib.IsBuilderF T e B b j w':=by
 have i: ∀p,Lib.BuilderAtF T e B b p j w→Lib.BuilderAtF T e B b p j w':=by
  intro p K
  obtain ⟨I,v,E,d,C⟩:=K
  refine ⟨I,v,(G.block b (Array.getElem?_eq_some_iff.1 E).1).trans E,⟨d.1,?_⟩,C⟩
  rcases d.2 with J|⟨g,q,m,H,o,A,D,f⟩
  ·exact .inl J
  ·exact .inr ⟨g,q,m,H,o,A,(G.block g (Array.getElem?_eq_some_iff.1 D).1).trans D,f⟩
 exact h.elim (fun x=> .inl (i _ x)) (fun x=> .inr (i _ x))
theorem ylU (w:World) (r:Int) (t:TypeId):RowR (w.alloc (.cells #[.int .i32 r] t)) (.slice (some ⟨w.heap.size,0,none⟩) 1 1) ([r].map (Value.int .i32)):=by
 refine ⟨_,1,rfl,fun j u d=>⟨_,rfl,?_⟩⟩
 exact zwR w (.int .i32 r) t j u d
theorem zxG (l:List UInt8):Lib.strCells ⟨l.toArray⟩=Lib.byteCells l:=rfl
theorem z1V (l:List UInt8) (k:Nat) (h:k<(ByteArray.mk l.toArray).size):(ByteArray.mk l.toArray)[k]=l[k]'(by simpa [ByteArray.size] using h):=rfl
theorem z0Y (st:Int) (s:ByteArray) (w:World) (qd:0≤st) (hs:s.size≤67108864):
  Calls Tryz.prog 222 #[.int .u8 st,.string s] w fun e w'=>e= .returned (.string ⟨(encB st (scal s)).toArray⟩)∧Below w.heap.size w w':=by
 go_enter Tryz.func222,Tryz.ntmps222
 go_wp2
 go_loopw [] (fun wr=> ∃(d fuel:Nat) (acc:List UInt8),Lib.IsBuilderF 160 5 w.heap.size w.heap.size (Lib.byteCells acc) wr∧wr.heap[w.heap.size+1]? =some (.stringIter s d)∧Below w.heap.size w wr∧Hid (acc++encB st (zkO s fuel d)=encB st (scal s))∧s.size≤d+fuel∧acc.length≤12*d∧d≤s.size+4) (fun wr=>s.size - wr.iterPos (w.heap.size+1))
 case atStart=>
  refine ⟨0,s.size,[],(Lib.IsBuilderF.of (Lib.fresh_isBuilder _ _ w)).alloc _,?_,((ynH _ w).alloc (ynE _) _).alloc (by simp) _,rfl,by omega,by simp,by omega⟩
  have:=World.iter_heap (w.alloc (.cells #[.pointer none,.slice none 0 0] 160)) s 0
  simpa using this
 case round=>
  obtain ⟨d,fuel,acc,hI,q,X,HA,qv,qr,qx⟩:=hrel
  have qs:w.heap.size+1<wr.heap.size:=(Array.getElem?_eq_some_iff.1 q).1
  by_cases hp:d<s.size
  ·have qn: ∀Q,(Instr.next (.pointer (some ⟨w.heap.size+1,0,none⟩)) true Q).run Tryz.prog wr=_:=fun Q=>Lib.run_next_any_at wr (w.heap.size+1) s d Q q hp
   have qw:=zeP s d hp
   have qA:=yeB s d
   have hd1:=decode_le s d
   have T:=hI.iterAt q (d+(Utf8.decode s d).2)
   have B:=Lib.iterAt_heap wr (w.heap.size+1) s d (d+(Utf8.decode s d).2) q
   have A:=Lib.below_iterAt X (k:=w.heap.size+1) (by omega) s (d+(Utf8.decode s d).2)
   have qq:w.heap.size+1<(wr.iterAt (w.heap.size+1) s (d+(Utf8.decode s d).2)).heap.size:=by rw [Lib.iterAt_size];omega
   obtain ⟨f,rfl⟩: ∃f,fuel=f+1:=⟨fuel - 1,by omega⟩
   have N:=HA.out
   rw [zhZ s f d hp,ztY] at N
   have qe:=ynD N
   clear N
   generalize wr.iterAt (w.heap.size+1) s (d+(Utf8.decode s d).2)=wi at*
   generalize hr:((Utf8.decode s d).1:Int)=r at*
   have qy:0≤r:=by omega
   have qm:r≤2147483647:=by omega
   have Z:Hid (wr.iterPos (w.heap.size+1)=d):=by
    show wr.iterPos (w.heap.size+1)=d
    simp only [World.iterPos,q]
   clear hr
   have qz:=zgO r
   cases D:inB st r with
   |false=>
    have C:encP st r=Lib.encodeRune r:=by unfold encP;rw [D];rfl
    have M:=ynD C
    clear C
    go_wp2_with fail
    refine (yjK st r _ qd).mono ?_
    rintro e w' ⟨rfl,rfl⟩
    rw [D]
    go_wp2_with fail
    refine (Tryz.Builder_WriteRune_k w.heap.size w.heap.size _ r (by omega) qm _ T (by rw [Lib.byteCells_length];omega) (by omega)).mono ?_
    rintro e w1 ⟨rfl,h1,b1,k1⟩
    have g:=k1.iter B (by omega)
    go_wp2
    go_roundw
    case rel=>
     refine ⟨d+(Utf8.decode s d).2,f,acc++Lib.encodeRune r,?_,g,A.trans b1,?_,by omega,by simp;omega,by omega⟩
     ·rw [Lib.byteCells_append,Lib.byteCells_encodeRune];exact .inr h1
     ·show (acc++Lib.encodeRune r)++_=_
      rw [List.append_assoc,←M.out];exact qe.out
    case measure=>
     rw [Z.out]
     simp only [World.iterPos,g]
     omega
   |true=>
    have C:encP st r=pctL (Lib.encodeRune r):=by unfold encP;rw [D];rfl
    have M:=ynD C
    clear C
    go_wp2_with fail
    refine (yjK st r _ qd).mono ?_
    rintro e w' ⟨rfl,rfl⟩
    rw [D]
    have J:=ylU wi r 21
    have qf:=T.alloc (.cells #[.int .i32 r] 21)
    have g:(wi.alloc (.cells #[.int .i32 r] 21)).heap[w.heap.size+1]? =some (.stringIter s (d+(Utf8.decode s d).2)):=by rw [Below.heap_alloc _ _ _ (by omega)];exact B
    have H:=A.alloc (by omega:w.heap.size≤wi.heap.size) (.cells #[.int .i32 r] 21)
    go_wp2_with fail
    refine (yiI _ [r] _ J (by simp) (by intro x hx;simp at hx;omega)).mono ?_
    rintro e w2 ⟨rfl,G⟩
    have ql:=ztI qf G
    have V:=(G.block (w.heap.size+1) (by simp;omega)).trans g
    have qg:Below w.heap.size w w2:=H.trans (G.mono (by simp;omega))
    clear T qf B g A H J G
    rw [show zdT [r]=Lib.encodeRune r from by simp [zdT]]
    generalize hE:Lib.encodeRune r=E at*
    have HE:=ynD hE
    clear hE
    go_wp2
    go_loopw [26] (fun i wq=> ∃j:Nat,j≤E.length∧i= .int .i64 j∧Lib.IsBuilderF 160 5 w.heap.size w.heap.size (Lib.byteCells (acc++pctL (E.take j))) wq∧wq.heap[w.heap.size+1]? =some (.stringIter s (d+(Utf8.decode s d).2))∧Below w.heap.size w wq) (fun i _=>E.length - (intOf i).toNat)
    case atStart=>
     refine ⟨0,Nat.zero_le _,rfl,?_,V,qg⟩
     simpa [pctL] using ql
    case round=>
     obtain ⟨j,hj,rfl,O,m,L⟩:=hrel
     have qp:w.heap.size+1<wr.heap.size:=(Array.getElem?_eq_some_iff.1 m).1
     by_cases K:j<E.length
     ·have qo:j<(ByteArray.mk E.toArray).size:=by rw [zaF];exact K
      have qc:=z8T E j K
      have qi:=ynD qc
      have qj:(pctL (E.take j)).length≤12:=by rw [zzI,List.length_take];omega
      clear qc
      have qb:=z1V E j qo
      have qh:=ynD qb
      clear qb
      go_wp2_with fail
      refine (yhM (ByteArray.mk E.toArray)[j] _).mono ?_
      rintro e w3 ⟨rfl,S⟩
      have qk:=ztI O S
      have U:=(S.block (w.heap.size+1) (by omega)).trans m
      have I:Below w.heap.size w w3:=L.trans (S.mono (by omega))
      have qa:w.heap.size≤w3.heap.size:=I.size
      go_wp2_with fail
      refine (Tryz.Builder_WriteString_k w.heap.size w.heap.size _ _ _ qk (by rw [Lib.byteCells_length,List.length_append,zaF,show (pctB (ByteArray.mk E.toArray)[j]).length=3 from rfl];omega) qa).mono ?_
      rintro e w4 ⟨rfl,h4,b4,k4⟩
      have Y:=k4.iter U (by omega)
      go_wp2
      go_roundw
      case rel=>
       refine ⟨j+1,by omega,by go_num,?_,Y,I.trans b4⟩
       rw [qi.out,←List.append_assoc,Lib.byteCells_append,←qh.out,←zxG]
       exact .inr h4
      case measure=>simp [intOf];omega
     ·have o:pctL (E.take j)=encP st r:=by rw [List.take_of_length_le (by omega),M.out]
      rw [o] at O
      clear o
      have qj:=z0C st r
      generalize encP st r=EP at*
      go_wp2
      go_roundw
      case rel=>
       refine ⟨d+(Utf8.decode s d).2,f,acc++EP,O,m,L,?_,by omega,by simp;omega,by omega⟩
       show (acc++EP)++_=_
       rw [List.append_assoc];exact qe.out
      case measure=>
       simp only [World.iterPos,m]
       have:=Z.out
       simp only [World.iterPos] at this
       omega
  ·have qn: ∀Q,(Instr.next (.pointer (some ⟨w.heap.size+1,0,none⟩)) true Q).run Tryz.prog wr=_:=fun Q=>Lib.run_next_end_at wr (w.heap.size+1) s d Q q hp
   have o:acc=encB st (scal s):=by
    have:=HA.out
    rw [zjP s fuel d hp] at this
    simpa [encB] using this
   subst o
   go_wp2_with fail
   refine (Tryz.Builder_String_any_k w.heap.size w.heap.size _ _ hI (by omega)).mono ?_
   rintro e w1 ⟨rfl,_,b1,_⟩
   go_wp2
   go_ret
   exact ⟨rfl,X.trans b1⟩
def digC (b:Int) (c:UInt8):Bool:=decide (0≤valZ (c.toNat:Int)∧valZ (c.toNat:Int)<b)
def zbG (b:Int) (l:List UInt8):Bool:=l.all (digC b)
def capZ (x:Int):Int:=if 1099511627776<x then 1099511627776 else x
def zwV (b:Int) (n:Int) (c:UInt8):Int:=capZ (n*b+valZ (c.toNat:Int))
def numZ (b:Int) (l:List UInt8):Int:=l.foldl (zwV b) 0
def zfM (l:List UInt8):List UInt8×Int:=
 match l with
 |a::c::r=>if a.toNat=48 then (if c.toNat=120∨c.toNat=88 then (r,16) else (c::r,8)) else (a::c::r,10)
 |_=>(l,10)
def zcK (l:List UInt8):Int×Bool:=
 if l.isEmpty then (0,false) else if zbG (zfM l).2 (zfM l).1 then (numZ (zfM l).2 (zfM l).1,true) else (0,false)
theorem z1D (b:Int) (s:ByteArray) (k:Nat) (h:k<s.size):zbG b (s.data.toList.take (k+1))=(zbG b (s.data.toList.take k)&&digC b s[k]):=by
 rw [zcX s k h];simp [zbG]
theorem ycS (b:Int) (s:ByteArray) (k:Nat) (h:k<s.size):numZ b (s.data.toList.take (k+1))=zwV b (numZ b (s.data.toList.take k)) s[k]:=by
 rw [zcX s k h];simp [numZ]
theorem znV {b:Int} {c:UInt8} {v:Int} (d:valZ (c.toNat:Int)=v) (f:0≤v) (e:v<b):digC b c=true:=ynG (by rw [d];exact ⟨f,e⟩)
theorem zfW {b:Int} {c:UInt8} {v:Int} (d:valZ (c.toNat:Int)=v) (h:v<0∨b≤v):digC b c=false:=ynF (by rw [d];omega)
theorem zeD (b:Int) (s:ByteArray) (k:Nat) (h:k<s.size) (d:digC b s[k]=false):zbG b s.data.toList=false:=by
 unfold zbG
 rw [List.all_eq_false]
 refine ⟨s[k],?_,by rw [d];simp⟩
 show s.data[k]∈_
 simp
theorem zlX (b:Int) (s:ByteArray) (k:Nat) (h:k<s.size) (e:zbG b (s.data.toList.take k)=true) (d:digC b s[k]=true):zbG b (s.data.toList.take (k+1))=true:=by
 rw [z1D b s k h,e,d];rfl
theorem zkA (r:Int) (h:128≤r):valZ r= -1:=by
 unfold valZ;(repeat' split)<;>omega
theorem zxV (r:Int):valZ r<16:=by
 unfold valZ;(repeat' split)<;>omega
theorem ykP (x:Int):capZ x≤1099511627776:=by unfold capZ;split<;>omega
theorem yjU {x:Int} (h:1099511627776<x):capZ x=1099511627776:=if_pos h
theorem ymM {x:Int} (h: ¬1099511627776<x):capZ x=x:=if_neg h
theorem yhE (b n:Int) (c:UInt8) (v:Int) (d:valZ (c.toNat:Int)=v):zwV b n c=capZ (n*b+v):=by rw [zwV,d]
theorem zpH (l:List UInt8):(zfM l).2=8∨(zfM l).2=10∨(zfM l).2=16:=by
 unfold zfM
 repeat' split
 all_goals simp
theorem zrJ (s:ByteArray) (h:2≤s.size): ∃r,s.data.toList=s[0]::s[1]::r∧s.data.toList.drop 2=r:=by
 refine ⟨s.data.toList.drop 2,?_,rfl⟩
 have d:s.data.toList=s.data.toList.drop 0:=rfl
 conv=>lhs;rw [d,List.drop_eq_getElem_cons (by simp;omega),List.drop_eq_getElem_cons (by simp;omega)]
 rfl
theorem zwP (s:ByteArray) (h:s.size<2):zfM s.data.toList=(s.data.toList,10):=by
 have d:=zaN s
 match e:s.data.toList,d with
 |[],_=>rfl
 |[a],_=>rfl
 |a::c::r,d=>simp at d;omega
theorem z6C (s:ByteArray) (h:2≤s.size) (e:s[0].toNat≠48):zfM s.data.toList=(s.data.toList,10):=by
 obtain ⟨r,d,_⟩:=zrJ s h
 rw [d];simp [zfM,e]
theorem z7O (s:ByteArray) (h:2≤s.size) (f:s[0].toNat=48) (d:s[1].toNat=120∨s[1].toNat=88):zfM s.data.toList=(s.data.toList.drop 2,16):=by
 obtain ⟨r,e,g⟩:=zrJ s h
 rw [g,e];simp only [zfM,f,d,if_true]
theorem yaF (s:ByteArray) (h:2≤s.size) (f:s[0].toNat=48) (d: ¬(s[1].toNat=120∨s[1].toNat=88)):zfM s.data.toList=(s.data.toList.drop 1,8):=by
 obtain ⟨r,e,_⟩:=zrJ s h
 rw [e];simp only [zfM,f,d,if_true,if_false];rfl
theorem zqG (s:ByteArray) (a:Nat):s.extract a s.size=⟨(s.data.toList.drop a).toArray⟩:=
 zkV s a s.size _ (List.take_of_length_le (by simp))
def z4R (w:World) (x:List UInt8×Int) (e:Ending) (w':World):Prop:=e= .returned (.tuple #[.string ⟨x.1.toArray⟩,.int .i64 x.2])∧w=w'
theorem zhY {w:World} {x:List UInt8×Int} {y:ByteArray} {b:Int} {l:List UInt8} (h:x=(l,b)) (d:y=⟨l.toArray⟩):z4R w x (.returned (.tuple #[.string y,.int .i64 b])) w:=by
 subst h d;exact ⟨rfl,rfl⟩
theorem znW (s:ByteArray) (w:World) (C:s.size≤1073741824):
  Calls Tryz.prog 185 #[.string s] w (z4R w (zfM s.data.toList)):=by
 by_cases o:s.size<2
 ·have e:=ynD (zwP s o)
  go_enter Tryz.func185,Tryz.ntmps185
  go_wp2
  go_ret2
  exact zhY e.out (by simp)
 ·have d:2≤s.size:=by omega
  have q:0<s.size:=by omega
  have B:1<s.size:=by omega
  obtain ⟨a,i⟩: ∃a,s[0].toNat=a:=⟨_,rfl⟩
  obtain ⟨c,j⟩: ∃a,s[1].toNat=a:=⟨_,rfl⟩
  by_cases f:a=48
  ·subst f
   by_cases g:c=120∨c=88
   ·have e:=ynD (z7O s d i (by rw [j];exact g))
    rcases g with rfl|rfl
    all_goals
     go_enter Tryz.func185,Tryz.ntmps185
     go_wp2
     go_ret2
     exact zhY e.out (zqG s 2)
   ·have e:=ynD (yaF s d i (by rw [j];exact g))
    have m:((c:Int)==120)=false:=beq_eq_false_iff_ne.2 (by omega)
    have A:((c:Int)==88)=false:=beq_eq_false_iff_ne.2 (by omega)
    clear g
    go_enter Tryz.func185,Tryz.ntmps185
    go_wp2
    go_ret2
    exact zhY e.out (zqG s 1)
  ·have e:=ynD (z6C s d (by rw [i];exact f))
   have m:((a:Int) !=48)=true:=by rw [bne_iff_ne];omega
   go_enter Tryz.func185,Tryz.ntmps185
   go_wp2
   go_ret2
   exact zhY e.out (by simp)
def z8F (w:World) (x:Int×Bool) (e:Ending) (w':World):Prop:=e= .returned (.tuple #[.int .u64 x.1,.bool x.2])∧Below w.heap.size w w'
theorem zhU {w w':World} {x:Int×Bool} {n:Int} {b:Bool} (h:x=(n,b)) (d:Below w.heap.size w w'):z8F w x (.returned (.tuple #[.int .u64 n,.bool b])) w':=by
 subst h;exact ⟨rfl,d⟩
theorem ycG (l:List UInt8) (r:List UInt8) (b:Int) (h:zfM l=(r,b)) (d:zbG b r=false):zcK l=(0,false):=by
 unfold zcK
 rw [h,d]
 split<;>rfl
theorem z3P (l:List UInt8) (r:List UInt8) (b:Int) (h:zfM l=(r,b)) (d:l≠[]) (e:zbG b r=true):zcK l=(numZ b r,true):=by
 unfold zcK
 rw [h,e]
 cases l with
 |nil=>exact absurd rfl d
 |cons a t=>rfl
theorem zwO (s:ByteArray) (h:s.size=0):s.data.toList=[]:=List.length_eq_zero_iff.1 (by rw [zaN];exact h)
theorem zfT (s:ByteArray) (h:s.size≠0):s.data.toList≠[]:=fun e=>h (by rw [←zaN,e];rfl)
theorem ycY (s:ByteArray):ByteArray.mk s.data.toList.toArray=s:=by simp
theorem zaM (l:List UInt8):(ByteArray.mk l.toArray).data.toList=l:=by simp
theorem zdA (s:ByteArray) (h:s.size=0):s=⟨#[]⟩:=by
 apply ByteArray.ext
 apply Array.ext'
 exact zwO s h
theorem zdL (s:ByteArray) (h:s.size≠0):s.toList.isEmpty=false:=by
 rw [ByteArray.toList_eq]
 cases d:s.data.toList with
 |nil=>exact absurd d (zfT s h)
 |cons a l=>rfl
theorem z2F (s:ByteArray) (d:ByteArray) (b:Int) (w:World) (hs:s.size≤1073741824) (hn:s.size≠0) (hb:b=8∨b=10∨b=16) (B:zfM s.data.toList=(d.data.toList,b)):
  Calls Tryz.prog 113 #[.string s] w (z8F w (zcK s.data.toList)):=by
 have HR:=ynD B
 have G:=ynD (ycG s.data.toList _ b B)
 have O:=ynD (z3P s.data.toList _ b B (zfT s hn))
 have qh:=zdL s hn
 clear B hn
 have qe:8≤b:=by omega
 have V:b≤16:=by omega
 clear hb
 go_enter Tryz.func113,Tryz.ntmps113
 go_wp2_with fail
 refine (znW s _ hs).mono ?_
 rw [HR.out]
 rintro e w' ⟨rfl,rfl⟩
 simp only [ycY]
 go_wp2
 go_loopw [6] (fun n wr=> ∃(k:Nat) (A:Int),n= .int .u64 A∧0≤A∧A≤1099511627776∧k≤d.size∧wr.heap[w.heap.size]? =some (.stringIter d k)∧Below w.heap.size w wr∧w.heap.size+1≤wr.heap.size∧Hid (A=numZ b (d.data.toList.take k))∧Hid (zbG b (d.data.toList.take k)=true)) (fun _ wr=>d.size - wr.iterPos w.heap.size)
 case atStart=>exact ⟨0,0,rfl,by omega,by omega,Nat.zero_le _,World.iter_heap w d 0,(ynH _ w).alloc (ynE _) _,by simp [World.iter],rfl,rfl⟩
 case round=>
  obtain ⟨k,A,rfl,qc,Z,hk,m,E,qa,HA,N⟩:=hrel
  by_cases i:k<d.size
  ·obtain ⟨c,Q⟩: ∃c,(d[k]'i).toNat=c:=⟨_,rfl⟩
   have q: ∀L,(Instr.next (.pointer (some ⟨w.heap.size,0,none⟩)) true L).run Tryz.prog wr=_:=fun L=>Lib.run_next_any_at wr w.heap.size d k L m i
   by_cases Y:c<128
   ·have j:=decode_ascii d k i (by omega)
    rw [Q] at j
    rw [j] at q
    have g:=Lib.iterAt_heap wr w.heap.size d k (k+1) m
    have f:=Lib.below_iterAt E (k:=w.heap.size) (ynE _) d (k+1)
    have C:w.heap.size+1≤(wr.iterAt w.heap.size d (k+1)).heap.size:=by rw [Lib.iterAt_size];exact qa
    simp only at q
    generalize wr.iterAt w.heap.size d (k+1)=wi at*
    obtain ⟨v,U⟩: ∃v,valZ (c:Int)=v:=⟨_,rfl⟩
    have qd:v<16:=by rw [←U];exact zxV _
    have T:Hid (valZ (d[k].toNat:Int)=v):=by show valZ (d[k].toNat:Int)=v;rw [Q];exact U
    have S:=ynD m
    have HC:=ynD Q
    clear m Q j
    by_cases h0:v<0
    ·have o:=ynD (G.out (zeD b d k i (zfW T.out (.inl h0))))
     go_wp2_with (go_at_call 107;refine (zbP _ _).mono ?_;rintro e w' ⟨rfl,rfl⟩)
     go_ret2
     exact zhU o.out f
    ·by_cases h1:b≤v
     ·have o:=ynD (G.out (zeD b d k i (zfW T.out (.inr h1))))
      go_wp2_with (go_at_call 107;refine (zbP _ _).mono ?_;rintro e w' ⟨rfl,rfl⟩)
      go_ret2
      exact zhU o.out f
     ·have o:=ynD (zlX b d k i N.out (znV T.out (by omega) (by omega)))
      have J:=ycS b d k i
      rw [←HA.out,yhE _ _ _ v T.out] at J
      have M:=ynD J
      clear J
      have qg:0≤A*b:=Int.mul_nonneg qc (by omega)
      have qf:A*b≤1099511627776*16:=Int.mul_le_mul Z V (by omega) (by omega)
      by_cases ht:1099511627776<A*b+v
      ·have K:=ynD (M.out.trans (yjU ht))
       go_wp2_with (go_at_call 107;refine (zbP _ _).mono ?_;rintro e w' ⟨rfl,rfl⟩)
       go_roundw
       case rel=>exact ⟨k+1,1099511627776,rfl,by omega,by omega,by omega,g,f,C,K.out.symm,o⟩
       case measure=>
        simp only [World.iterPos,g,S.out]
        omega
      ·have K:=ynD (M.out.trans (ymM ht))
       go_wp2_with (go_at_call 107;refine (zbP _ _).mono ?_;rintro e w' ⟨rfl,rfl⟩)
       go_roundw
       case rel=>exact ⟨k+1,_,rfl,by omega,by omega,by omega,g,f,C,K.out.symm,o⟩
       case measure=>
        simp only [World.iterPos,g,S.out]
        omega
   ·have hh:=decode_high d k i (by omega)
    obtain ⟨r,B⟩: ∃r,(Utf8.decode d k).1=r:=⟨_,rfl⟩
    obtain ⟨wd,I⟩: ∃r,(Utf8.decode d k).2=r:=⟨_,rfl⟩
    have X:=decode_le d k
    rw [B,I] at q
    rw [B,I] at hh
    rw [B] at X
    have f:=Lib.below_iterAt E (k:=w.heap.size) (ynE _) d (k+wd)
    generalize wr.iterAt w.heap.size d (k+wd)=wi at*
    have U:valZ (r:Int)= -1:=zkA _ (by omega)
    have o:=ynD (G.out (zeD b d k i (zfW (zkA _ (by omega)) (.inl (by omega)))))
    clear Q B I
    go_wp2_with (go_at_call 107;refine (zbP _ _).mono ?_;rintro e w' ⟨rfl,rfl⟩)
    go_ret2
    exact zhU o.out f
  ·have q: ∀L,(Instr.next (.pointer (some ⟨w.heap.size,0,none⟩)) true L).run Tryz.prog wr=_:=fun L=>Lib.run_next_end_at wr w.heap.size d k L m i
   have D:=N.out
   rw [zeF d k i] at D
   have H:=HA.out
   rw [zeF d k i] at H
   have o:=ynD (O.out D)
   have qb:=ynD H
   clear D H
   go_wp2
   go_ret2
   exact zhU (by rw [o.out,qb.out]) E
theorem zjI (s:ByteArray) (w:World) (f:s.size≤1073741824):
  Calls Tryz.prog 113 #[.string s] w (z8F w (zcK s.data.toList)):=by
 by_cases d:s.size=0
 ·obtain rfl:=zdA s d
  clear d f
  have i:Hid (zcK (ByteArray.mk #[]).data.toList=(0,false)):=rfl
  go_enter Tryz.func113,Tryz.ntmps113
  go_wp2
  go_ret2
  exact zhU i.out (ynH _ _)
 ·obtain ⟨⟨r,b⟩,g⟩: ∃x,zfM s.data.toList=x:=⟨_,rfl⟩
  have e:=zpH s.data.toList
  rw [g] at e
  exact z2F s ⟨r.toArray⟩ b w f d e (by rw [zaM];exact g)
def decN (l:List UInt8):Int:=l.foldl (fun n c=>n*10+valZ (c.toNat:Int)) 0
def decZ (l:List UInt8) (m:Int):Int×Bool:=
 if (l.isEmpty||(decide (1<l.length)&&decide ((l.getD 0 0).toNat=48))|| !zbG 10 l)=true then (0,false) else if m<decN l then (0,false) else (decN l,true)
theorem z8C (s:ByteArray) (k:Nat) (h:k<s.size):decN (s.data.toList.take (k+1))=decN (s.data.toList.take k)*10+valZ (s[k].toNat:Int):=by
 rw [zcX s k h];simp [decN]
theorem zsK (l:List UInt8): ∀a:Int,0≤a→zbG 10 l=true→a≤l.foldl (fun n c=>n*10+valZ (c.toNat:Int)) a:=by
 induction l with
 |nil=>intro a _ _;exact Int.le_refl _
 |cons c l e=>
  intro a i f
  have d:digC 10 c=true∧zbG 10 l=true:=by simpa [zbG] using f
  have g:=of_decide_eq_true d.1
  have:=e (a*10+valZ (c.toNat:Int)) (by omega) d.2
  exact Int.le_trans (by omega) this
theorem zoC (l:List UInt8) (d:zbG 10 l=true):0≤decN l:=zsK l 0 (Int.le_refl _) d
theorem z1I (b:Int) (l:List UInt8) (k:Nat):zbG b l=(zbG b (l.take k)&&zbG b (l.drop k)):=by
 unfold zbG
 rw [←List.all_append,List.take_append_drop]
theorem zlK (l:List UInt8) (k:Nat) (f:zbG 10 l=true):decN (l.take k)≤decN l:=by
 have h:=z1I 10 l k
 rw [f] at h
 have d:zbG 10 (l.take k)=true∧zbG 10 (l.drop k)=true:=by simpa using h.symm
 have e:decN l=(l.drop k).foldl (fun n c=>n*10+valZ (c.toNat:Int)) (decN (l.take k)):=by
  unfold decN
  rw [←List.foldl_append,List.take_append_drop]
 rw [e]
 exact zsK _ _ (zoC _ d.1) d.2
theorem zsX (l:List UInt8) (m:Int) (h:l=[]∨(1<l.length∧(l.getD 0 0).toNat=48)):decZ l m=(0,false):=by
 unfold decZ
 rw [if_pos]
 rcases h with rfl|⟨d,e⟩
 ·rfl
 ·rw [ynG d,ynG e];simp
theorem zzL (l:List UInt8) (m:Int) (h:zbG 10 l=false):decZ l m=(0,false):=by
 unfold decZ
 rw [if_pos (by rw [h];simp)]
theorem yfU (l:List UInt8) (m:Int) (k:Nat) (h:m<decN (l.take k)):decZ l m=(0,false):=by
 by_cases d:zbG 10 l=true
 ·unfold decZ
  split
  ·rfl
  ·rw [if_pos]
   have:=zlK l k d
   omega
 ·exact zzL l m (by simpa using d)
theorem ygP (l:List UInt8) (m:Int) (g:l≠[]) (f: ¬(1<l.length∧(l.getD 0 0).toNat=48)) (i:zbG 10 l=true) (j:decN l≤m):decZ l m=(decN l,true):=by
 unfold decZ
 rw [if_neg,if_neg (by omega)]
 rw [i]
 cases l with
 |nil=>exact absurd rfl g
 |cons a r=>
  by_cases d:1<(a::r).length
  ·rw [ynG d,ynF (fun e=>f ⟨d,e⟩)];simp
  ·rw [ynF d];simp
theorem ztH (s:ByteArray) (h:0<s.size):(s.data.toList.getD 0 0).toNat=s[0].toNat:=by
 rw [List.getD,zeH s 0 h];rfl
theorem z4D (r:Int):zaU r=decide (0≤valZ r∧valZ r<10):=by
 unfold zaU valZ
 by_cases h:48≤r∧r≤57
 ·rw [if_pos h,ynG h,ynG (by omega)]
 ·rw [if_neg h,ynF h]
  refine (ynF ?_).symm
  repeat' split
  all_goals omega
theorem ziV (c:UInt8):digC 10 c=zaU (c.toNat:Int):=(z4D _).symm
theorem ztZ {r:Int} (h:zaU r=true):48≤r∧r≤57:=of_decide_eq_true h
theorem zpU {r:Int} (e:48≤r) (d:r≤57):valZ r=r - 48:=if_pos ⟨e,d⟩
theorem zgF (r:Int) (h:128≤r):zaU r=false:=ynF (by omega)
def ydH (w:World) (x:Int×Bool) (e:Ending) (w':World):Prop:=e= .returned (.tuple #[.int .i64 x.1,.bool x.2])∧Below w.heap.size w w'
theorem zeL {w w':World} {x:Int×Bool} {n:Int} {b:Bool} (h:x=(n,b)) (d:Below w.heap.size w w'):ydH w x (.returned (.tuple #[.int .i64 n,.bool b])) w':=by
 subst h;exact ⟨rfl,d⟩
theorem zuW (s:ByteArray) (m:Int) (w:World) (hs:s.size≤1073741824) (hm:m≤9223372036854775807) (ql: -9223372036854775808≤m) (hn:1≤s.size) (V: ¬(1<s.size∧s[0].toNat=48)):
  Calls Tryz.prog 308 #[.string s,.int .i64 m] w (ydH w (decZ s.data.toList m)):=by
 have N:=ynD (zzL s.data.toList m)
 have S:=ynD (yfU s.data.toList m)
 have Q:=ynD (ygP s.data.toList m (zfT s (by omega)) (by rw [zaN,ztH s (by omega)];exact V))
 have qp:=zdL s (by omega)
 have l0:0<s.size:=by omega
 obtain ⟨a,ha⟩: ∃a,s[0].toNat=a:=⟨_,rfl⟩
 rw [ha] at V
 rcases (show s.size≤1∨(1<s.size∧((a:Int)==48)=false) from by
   by_cases T:1<s.size
   ·exact .inr ⟨T,beq_eq_false_iff_ne.2 (fun e=>V ⟨T,by omega⟩)⟩
   ·exact .inl (by omega)) with T|⟨T,qj⟩
 all_goals
  clear V
  go_enter Tryz.func308,Tryz.ntmps308
  go_wp2
  go_loopw [6] (fun n wr=> ∃(k:Nat) (A:Int),n= .int .i64 A∧0≤A∧(A=0∨A≤m)∧k≤s.size∧wr.heap[w.heap.size]? =some (.stringIter s k)∧Below w.heap.size w wr∧w.heap.size+1≤wr.heap.size∧Hid (A=decN (s.data.toList.take k))∧Hid (zbG 10 (s.data.toList.take k)=true)∧Hid (1≤k→A≤m)) (fun _ wr=>s.size - wr.iterPos w.heap.size)
  case atStart=>exact ⟨0,0,rfl,by omega,.inl rfl,Nat.zero_le _,World.iter_heap w s 0,(ynH _ w).alloc (ynE _) _,by simp [World.iter],rfl,rfl,fun h=>absurd h (by omega)⟩
  case round=>
   obtain ⟨k,A,rfl,qo,qb,hk,g,D,qc,HA,M,HK⟩:=hrel
   have qm:A≤9223372036854775807:=by omega
   clear qb
   by_cases i:k<s.size
   ·obtain ⟨c,U⟩: ∃c,(s[k]'i).toNat=c:=⟨_,rfl⟩
    have o: ∀I,(Instr.next (.pointer (some ⟨w.heap.size,0,none⟩)) true I).run Tryz.prog wr=_:=fun I=>Lib.run_next_any_at wr w.heap.size s k I g i
    by_cases qa:c<128
    ·have f:=decode_ascii s k i (by omega)
     rw [U] at f
     rw [f] at o
     have q:=Lib.iterAt_heap wr w.heap.size s k (k+1) g
     have d:=Lib.below_iterAt D (k:=w.heap.size) (ynE _) s (k+1)
     have L:w.heap.size+1≤(wr.iterAt w.heap.size s (k+1)).heap.size:=by rw [Lib.iterAt_size];exact qc
     simp only at o
     generalize wr.iterAt w.heap.size s (k+1)=wi at*
     have qh:=ynD g
     have HC:=ynD U
     clear g U f
     cases B:zaU (c:Int) with
     |false=>
      have J:=ynD (N.out (zeD 10 s k i (by rw [ziV,HC.out];exact B)))
      go_wp2_with (go_at_call 97;refine (zbO _ _).mono ?_;rintro e w' ⟨rfl,rfl⟩)
      go_ret2
      exact zeL J.out d
     |true=>
      obtain ⟨qi,qe⟩:=ztZ B
      have Y:valZ (c:Int)=(c:Int) - 48:=zpU qi qe
      have J:=ynD (zlX 10 s k i M.out (by rw [ziV,HC.out];exact B))
      have H:=z8C s k i
      rw [←HA.out,HC.out,Y] at H
      have K:=ynD H
      clear H
      obtain ⟨v,E⟩: ∃v:Int,(c:Int) - 48=v:=⟨_,rfl⟩
      have qk:0≤v:=by omega
      have qn:v≤9:=by omega
      rw [E] at Y
      have O:=ynD E
      clear E
      by_cases hg:m<A*10+v
      ·have HB:=ynD (S.out (k+1) (by rw [K.out,O.out];exact hg))
       by_cases qg:m<v
       ·go_wp2_with (first|(go_at_call 97;refine (zbO _ _).mono ?_;rintro e w' ⟨rfl,rfl⟩)|(go_at_call 107;refine (zbP _ _).mono ?_;rintro e w' ⟨rfl,rfl⟩))
        go_ret2
        exact zeL HB.out d
       ·have qd:(m - v)/10<A:=by omega
        go_wp2_with (first|(go_at_call 97;refine (zbO _ _).mono ?_;rintro e w' ⟨rfl,rfl⟩)|(go_at_call 107;refine (zbP _ _).mono ?_;rintro e w' ⟨rfl,rfl⟩))
        go_ret2
        exact zeL HB.out d
      ·have qg: ¬m<v:=by omega
       have qd: ¬(m - v)/10<A:=by omega
       go_wp2_with (first|(go_at_call 97;refine (zbO _ _).mono ?_;rintro e w' ⟨rfl,rfl⟩)|(go_at_call 107;refine (zbP _ _).mono ?_;rintro e w' ⟨rfl,rfl⟩))
       go_roundw
       case rel=>exact ⟨k+1,A*10+v,rfl,by omega,by omega,by omega,q,d,L,(by show _=_;rw [K.out,O.out]),J,fun _=>by omega⟩
       case measure=>
        simp only [World.iterPos,q,qh.out]
        omega
    ·have hh:=decode_high s k i (by omega)
     obtain ⟨r,X⟩: ∃r,(Utf8.decode s k).1=r:=⟨_,rfl⟩
     obtain ⟨wd,G⟩: ∃r,(Utf8.decode s k).2=r:=⟨_,rfl⟩
     have Z:=decode_le s k
     rw [X,G] at o
     rw [X,G] at hh
     rw [X] at Z
     have d:=Lib.below_iterAt D (k:=w.heap.size) (ynE _) s (k+wd)
     generalize wr.iterAt w.heap.size s (k+wd)=wi at*
     have Y:zaU (r:Int)=false:=zgF _ (by omega)
     have J:=ynD (N.out (zeD 10 s k i (by rw [ziV];exact zgF _ (by omega))))
     clear U X G
     go_wp2_with (go_at_call 97;refine (zbO _ _).mono ?_;rintro e w' ⟨rfl,rfl⟩)
     go_ret2
     exact zeL J.out d
   ·have o: ∀I,(Instr.next (.pointer (some ⟨w.heap.size,0,none⟩)) true I).run Tryz.prog wr=_:=fun I=>Lib.run_next_end_at wr w.heap.size s k I g i
    have C:=M.out
    rw [zeF s k i] at C
    have j:=HA.out
    rw [zeF s k i] at j
    have J:=ynD (Q.out C (by rw [←j];exact HK.out (by omega)))
    have qf:=ynD j
    clear C j
    go_wp2
    go_ret2
    exact zeL (by rw [J.out,qf.out]) D
theorem znY (s:ByteArray) (m:Int) (w:World) (g:s.size≤1073741824) (o:m≤9223372036854775807) (f: -9223372036854775808≤m):
  Calls Tryz.prog 308 #[.string s,.int .i64 m] w (ydH w (decZ s.data.toList m)):=by
 by_cases d:s.size=0
 ·obtain rfl:=zdA s d
  have e:=ynD (zsX (ByteArray.mk #[]).data.toList m (.inl rfl))
  clear d g
  go_enter Tryz.func308,Tryz.ntmps308
  go_wp2
  go_ret2
  exact zeL e.out (ynH _ _)
 ·by_cases i:1<s.size∧s[0].toNat=48
  ·obtain ⟨j,q⟩:=i
   have e:=ynD (zsX s.data.toList m (.inr ⟨by rw [zaN];exact j,by rw [ztH s (by omega)];exact q⟩))
   have A:=zdL s d
   have B:0<s.size:=by omega
   go_enter Tryz.func308,Tryz.ntmps308
   go_wp2
   go_ret2
   exact zeL e.out (ynH _ _)
  ·exact zuW s m w g o f (by omega) i
def zeK (l:List UInt8):Bool:= !l.isEmpty&&zbG 10 l
theorem z9P {l:List UInt8} (h:zbG 10 l=false):zeK l=false:=by unfold zeK;rw [h];simp
theorem z2S {s:ByteArray} (d:s.size≠0) (h:zbG 10 s.data.toList=true):zeK s.data.toList=true:=by
 unfold zeK;rw [h]
 cases e:s.data.toList with
 |nil=>exact absurd e (zfT s d)
 |cons a l=>rfl
def zbE (w:World) (b:Bool) (e:Ending) (w':World):Prop:=e= .returned (.bool b)∧Below w.heap.size w w'
theorem zaE {w w':World} {x b:Bool} (h:x=b) (d:Below w.heap.size w w'):zbE w x (.returned (.bool b)) w':=by
 subst h;exact ⟨rfl,d⟩
theorem zfO (s:ByteArray) (w:World) (X:s.size≤1073741824):
  Calls Tryz.prog 112 #[.string s] w (zbE w (zeK s.data.toList)):=by
 by_cases J:s.size=0
 ·obtain rfl:=zdA s J
  have o:Hid (zeK (ByteArray.mk #[]).data.toList=false):=rfl
  clear J X
  go_enter Tryz.func112,Tryz.ntmps112
  go_wp2
  go_loopw [] (fun wr=>wr.heap[w.heap.size]? =some (.stringIter ⟨#[]⟩ 0)∧Below w.heap.size w wr) (fun _=>0)
  case atStart=>exact ⟨World.iter_heap w ⟨#[]⟩ 0,(ynH _ w).alloc (ynE _) _⟩
  case round=>
   obtain ⟨d,g⟩:=hrel
   have j: ∀m,(Instr.next (.pointer (some ⟨w.heap.size,0,none⟩)) true m).run Tryz.prog wr=_:=fun m=>Lib.run_next_end_at wr w.heap.size ⟨#[]⟩ 0 m d (by decide)
   go_wp2
   go_ret
   exact zaE o.out g
 ·have E:=ynD (z9P (l:=s.data.toList))
  have G:=ynD (z2S J)
  have V:=zdL s J
  clear J
  go_enter Tryz.func112,Tryz.ntmps112
  go_wp2
  go_loopw [] (fun wr=> ∃(k:Nat),k≤s.size∧wr.heap[w.heap.size]? =some (.stringIter s k)∧Below w.heap.size w wr∧w.heap.size+1≤wr.heap.size∧Hid (zbG 10 (s.data.toList.take k)=true)) (fun wr=>s.size - wr.iterPos w.heap.size)
  case atStart=>exact ⟨0,Nat.zero_le _,World.iter_heap w s 0,(ynH _ w).alloc (ynE _) _,by simp [World.iter],rfl⟩
  case round=>
   obtain ⟨k,hk,d,g,N,I⟩:=hrel
   by_cases q:k<s.size
   ·obtain ⟨c,L⟩: ∃c,(s[k]'q).toNat=c:=⟨_,rfl⟩
    have j: ∀m,(Instr.next (.pointer (some ⟨w.heap.size,0,none⟩)) true m).run Tryz.prog wr=_:=fun m=>Lib.run_next_any_at wr w.heap.size s k m d q
    by_cases M:c<128
    ·have i:=decode_ascii s k q (by omega)
     rw [L] at i
     rw [i] at j
     have A:=Lib.iterAt_heap wr w.heap.size s k (k+1) d
     have f:=Lib.below_iterAt g (k:=w.heap.size) (ynE _) s (k+1)
     have H:w.heap.size+1≤(wr.iterAt w.heap.size s (k+1)).heap.size:=by rw [Lib.iterAt_size];exact N
     simp only at j
     generalize wr.iterAt w.heap.size s (k+1)=U at*
     have O:=ynD d
     have T:=ynD L
     clear d L i
     cases D:zaU (c:Int) with
     |false=>
      have o:=ynD (E.out (zeD 10 s k q (by rw [ziV,T.out];exact D)))
      go_wp2_with (go_at_call 97;refine (zbO _ _).mono ?_;rintro e w' ⟨rfl,rfl⟩)
      go_ret
      exact zaE o.out f
     |true=>
      have o:=ynD (zlX 10 s k q I.out (by rw [ziV,T.out];exact D))
      go_wp2_with (go_at_call 97;refine (zbO _ _).mono ?_;rintro e w' ⟨rfl,rfl⟩)
      go_roundw
      case rel=>exact ⟨k+1,by omega,A,f,H,o⟩
      case measure=>
       simp only [World.iterPos,A,O.out]
       omega
    ·have Y:=decode_high s k q (by omega)
     obtain ⟨r,K⟩: ∃r,(Utf8.decode s k).1=r:=⟨_,rfl⟩
     obtain ⟨S,C⟩: ∃r,(Utf8.decode s k).2=r:=⟨_,rfl⟩
     have Q:=decode_le s k
     rw [K,C] at j
     rw [K,C] at Y
     rw [K] at Q
     have f:=Lib.below_iterAt g (k:=w.heap.size) (ynE _) s (k+S)
     generalize wr.iterAt w.heap.size s (k+S)=U at*
     have Z:zaU (r:Int)=false:=zgF _ (by omega)
     have o:=ynD (E.out (zeD 10 s k q (by rw [ziV];exact zgF _ (by omega))))
     clear L K C
     go_wp2_with (go_at_call 97;refine (zbO _ _).mono ?_;rintro e w' ⟨rfl,rfl⟩)
     go_ret
     exact zaE o.out f
   ·have j: ∀m,(Instr.next (.pointer (some ⟨w.heap.size,0,none⟩)) true m).run Tryz.prog wr=_:=fun m=>Lib.run_next_end_at wr w.heap.size s k m d q
    have B:=I.out
    rw [zeF s k q] at B
    have o:=ynD (G.out B)
    clear B
    go_wp2
    go_ret
    exact zaE o.out g
def zjS (ps:List (List UInt8)):List UInt8:=
 if 1<ps.length∧ps.getD (ps.length - 1) []=[] then ps.getD (ps.length - 2) [] else ps.getD (ps.length - 1) []
def zaS (l:List UInt8):List (List UInt8):=zbF (hasB [46]) l
def zoO (x:List UInt8):Bool:=zeK x||(zcK x).2
def zgN (l:List UInt8):Bool:=zoO (zjS (zaS l))
theorem yfX (p:UInt8→Bool) (l:List UInt8): ∀st:List (List UInt8)×List UInt8,(∀x∈(l.foldl (zaP p) st).1,x∈st.1∨x.length≤st.2.length+l.length)∧(l.foldl (zaP p) st).2.length≤st.2.length+l.length:=by
 induction l with
 |nil=>intro st;exact ⟨fun x f=> .inl f,by simp⟩
 |cons c l i=>
  intro st
  simp only [List.foldl_cons,List.length_cons]
  have h:=i (zaP p st c)
  by_cases g:p c=true
  ·have e:zaP p st c=(st.1++[st.2],[]):=by simp [zaP,g]
   rw [e] at h ⊢
   refine ⟨fun x f=> ?_,by have:=h.2;simp at this;omega⟩
   rcases h.1 x f with d|d
   ·simp at d
    rcases d with d|d
    ·exact .inl d
    ·subst d;exact .inr (by omega)
   ·simp at d;exact .inr (by omega)
  ·have e:zaP p st c=(st.1,st.2++[c]):=by simp [zaP,g]
   rw [e] at h ⊢
   refine ⟨fun x f=> ?_,by have:=h.2;simp at this;omega⟩
   rcases h.1 x f with d|d
   ·exact .inl d
   ·simp at d;exact .inr (by omega)
theorem yeN (p:UInt8→Bool) (l x:List UInt8) (h:x∈zbF p l):x.length≤l.length:=by
 have k:=yfX p l ([],[])
 unfold zbF at h
 rcases List.mem_append.1 h with h|h
 ·rcases k.1 x h with h|h
  ·simp at h
  ·simpa using h
 ·simp at h
  subst h
  exact Nat.le_trans k.2 (by simp)
theorem ziD (p:UInt8→Bool) (l:List UInt8) (j:Nat):((zbF p l).getD j []).length≤l.length:=by
 by_cases h:j<(zbF p l).length
 ·refine yeN p l _ ?_
  rw [List.getD,List.getElem?_eq_getElem h]
  exact List.getElem_mem h
 ·rw [List.getD,List.getElem?_eq_none (by omega)]
  simp
theorem zmM (n:Nat) (x:List UInt8) (ps:List (List UInt8)) (h:ps.length=n+1) (g:ps.getD n []=x) (e:n=0∨x≠[]):zjS ps=x:=by
 unfold zjS
 rw [h,Nat.add_sub_cancel,g,if_neg]
 rintro ⟨i,f⟩
 rcases e with d|d
 ·omega
 ·exact d f
theorem zwZ (n:Nat) (y:List UInt8) (ps:List (List UInt8)) (h:ps.length=n+2) (e:ps.getD (n+1) []=[]) (d:ps.getD n []=y):zjS ps=y:=by
 unfold zjS
 rw [h,show n+2 - 1=n+1 from rfl,e,if_pos ⟨by omega,rfl⟩,show n+2 - 2=n from rfl,d]
theorem zeB {x:List UInt8} (h:x≠[]):x.isEmpty=false:=by cases x with|nil=>exact absurd rfl h|cons a l=>rfl
theorem zjG {x:List UInt8} (h:zeK x=true):zoO x=true:=by unfold zoO;rw [h];rfl
theorem ziU {x:List UInt8} {b:Bool} (h:zeK x=false) (d:(zcK x).2=b):zoO x=b:=by unfold zoO;rw [h,d];rfl
theorem yeE (s:ByteArray) (w:World) (Q:s.size≤1073741824) (x:List UInt8) (K:(zaS s.data.toList).length=1) (G:(zaS s.data.toList).getD 0 []=x):
  Calls Tryz.prog 55 #[.string s] w (zbE w (zgN s.data.toList)):=by
 have S:x.length≤s.size:=by rw [←G,←zaN];exact ziD _ _ _
 have E:=ynD (show zgN s.data.toList=zoO x from by unfold zgN;rw [zmM 0 x _ K G (.inl rfl)])
 have I:=ynD K
 have O:=ynD G
 clear K G
 go_enter Tryz.func55,Tryz.ntmps55
 go_wp2_with fail
 refine (zdD s _ _ Q).mono ?_
 rintro e V ⟨v,rfl,M,f⟩
 have C:zaZ w.heap.size V v (zaS s.data.toList):=M
 obtain ⟨g,U,rfl,N,d⟩:=C.form (by rw [I.out];omega)
 rw [I.out]
 rw [I.out] at d
 have q:=d 0 (by omega)
 rw [O.out] at q
 clear d M C
 by_cases m:zeK x=true
 -- digits alone
 ·have H:=ynD (E.out.trans (zjG m))
  have o:=ynD m
  clear m
  go_wp2_with fail
  refine (zfO ⟨x.toArray⟩ _ (by rw [zaF];omega)).mono ?_
  rw [zaM,o.out]
  rintro e J ⟨rfl,i⟩
  have j:Below w.heap.size w J:=f.trans (i.mono f.size)
  clear f i
  go_wp2
  go_ret
  exact zaE H.out j
 ·have A:zeK x=false:=by simpa using m
  have H:=ynD (E.out.trans (ziU A rfl))
  have o:=ynD A
  clear m A
  go_wp2_with fail
  refine (zfO ⟨x.toArray⟩ _ (by rw [zaF];omega)).mono ?_
  rw [zaM,o.out]
  rintro e J ⟨rfl,i⟩
  have j:Below w.heap.size w J:=f.trans (i.mono f.size)
  have B:=(i.cell (p:=⟨g,0,none⟩) N).trans q
  clear f i q
  go_wp2_with fail
  refine (zjI ⟨x.toArray⟩ _ (by rw [zaF];omega)).mono ?_
  rw [zaM]
  rintro e T ⟨rfl,D⟩
  have L:Below w.heap.size w T:=j.trans (D.mono j.size)
  clear j D B
  go_wp2
  go_ret
  exact zaE H.out L
theorem z4E (s:ByteArray) (w:World) (hs:s.size≤1073741824) (n:Nat) (x:List UInt8) (K:(zaS s.data.toList).length=n+2) (I:(zaS s.data.toList).getD (n+1) []=x) (A:x≠[]):
  Calls Tryz.prog 55 #[.string s] w (zbE w (zgN s.data.toList)):=by
 have Q:x.length≤s.size:=by rw [←I,←zaN];exact ziD _ _ _
 have G:=ynD (show zgN s.data.toList=zoO x from by unfold zgN;rw [zmM (n+1) x _ K I (.inr A)])
 have V:x.isEmpty=false:=zeB A
 have H:=ynD K
 have Z:=ynD I
 clear K I A
 have T:n≤1073741824:=by
  have Y:=zcV (hasB [46]) s.data.toList
  rw [zaN] at Y
  have S:=H.out
  unfold zaS at S
  omega
 go_enter Tryz.func55,Tryz.ntmps55
 go_wp2_with fail
 refine (zdD s _ _ hs).mono ?_
 rintro e X ⟨v,rfl,N,f⟩
 have C:zaZ w.heap.size X v (zaS s.data.toList):=N
 obtain ⟨g,U,rfl,O,d⟩:=C.form (by rw [H.out];omega)
 rw [H.out]
 rw [H.out] at d
 have o:=d (n+1) (by omega)
 rw [Z.out] at o
 clear d N C
 by_cases j:zeK x=true
 -- digits alone
 ·have M:=ynD (G.out.trans (zjG j))
  have B:=ynD j
  clear j
  go_wp2_with fail
  refine (zfO ⟨x.toArray⟩ _ (by rw [zaF];omega)).mono ?_
  rw [zaM,B.out]
  rintro e J ⟨rfl,i⟩
  have m:Below w.heap.size w J:=f.trans (i.mono f.size)
  clear f i
  go_wp2
  go_ret
  exact zaE M.out m
 ·have q:zeK x=false:=by simpa using j
  have M:=ynD (G.out.trans (ziU q rfl))
  have B:=ynD q
  clear j q
  go_wp2_with fail
  refine (zfO ⟨x.toArray⟩ _ (by rw [zaF];omega)).mono ?_
  rw [zaM,B.out]
  rintro e J ⟨rfl,i⟩
  have m:Below w.heap.size w J:=f.trans (i.mono f.size)
  have D:=(i.cell (p:=⟨g,(n+1),none⟩) O).trans o
  clear f i o
  go_wp2_with fail
  refine (zjI ⟨x.toArray⟩ _ (by rw [zaF];omega)).mono ?_
  rw [zaM]
  rintro e w3 ⟨rfl,E⟩
  have L:Below w.heap.size w w3:=m.trans (E.mono m.size)
  clear m E D
  go_wp2
  go_ret
  exact zaE M.out L
theorem ztL (s:ByteArray) (w:World) (hs:s.size≤1073741824) (n:Nat) (x:List UInt8) (J:(zaS s.data.toList).length=n+2) (H:(zaS s.data.toList).getD n []=x) (M:(zaS s.data.toList).getD (n+1) []=[]):
  Calls Tryz.prog 55 #[.string s] w (zbE w (zgN s.data.toList)):=by
 have T:x.length≤s.size:=by rw [←H,←zaN];exact ziD _ _ _
 have E:=ynD (show zgN s.data.toList=zoO x from by unfold zgN;rw [zwZ n x _ J M H])
 have G:=ynD J
 have HX:=ynD H
 have S:=ynD M
 clear J H M
 have V:n≤1073741824:=by
  have Z:=zcV (hasB [46]) s.data.toList
  rw [zaN] at Z
  have U:=G.out
  unfold zaS at U
  omega
 go_enter Tryz.func55,Tryz.ntmps55
 go_wp2_with fail
 refine (zdD s _ _ hs).mono ?_
 rintro e Y ⟨v,rfl,O,f⟩
 have B:zaZ w.heap.size Y v (zaS s.data.toList):=O
 obtain ⟨g,X,rfl,Q,d⟩:=B.form (by rw [G.out];omega)
 rw [G.out]
 rw [G.out] at d
 have o:=d n (by omega)
 rw [HX.out] at o
 have N:=d (n+1) (by omega)
 rw [S.out] at N
 clear d O B
 by_cases j:zeK x=true
 -- digits alone
 ·have L:=ynD (E.out.trans (zjG j))
  have A:=ynD j
  clear j
  go_wp2_with fail
  refine (zfO ⟨x.toArray⟩ _ (by rw [zaF];omega)).mono ?_
  rw [zaM,A.out]
  rintro e I ⟨rfl,i⟩
  have m:Below w.heap.size w I:=f.trans (i.mono f.size)
  clear f i
  go_wp2
  go_ret
  exact zaE L.out m
 ·have q:zeK x=false:=by simpa using j
  have L:=ynD (E.out.trans (ziU q rfl))
  have A:=ynD q
  clear j q
  go_wp2_with fail
  refine (zfO ⟨x.toArray⟩ _ (by rw [zaF];omega)).mono ?_
  rw [zaM,A.out]
  rintro e I ⟨rfl,i⟩
  have m:Below w.heap.size w I:=f.trans (i.mono f.size)
  have C:=(i.cell (p:=⟨g,n,none⟩) Q).trans o
  clear f i o
  go_wp2_with fail
  refine (zjI ⟨x.toArray⟩ _ (by rw [zaF];omega)).mono ?_
  rw [zaM]
  rintro e w3 ⟨rfl,D⟩
  have K:Below w.heap.size w w3:=m.trans (D.mono m.size)
  clear m D C
  go_wp2
  go_ret
  exact zaE L.out K
theorem zzP (s:ByteArray) (w:World) (d:s.size≤1073741824):
  Calls Tryz.prog 55 #[.string s] w (zbE w (zgN s.data.toList)):=by
 have i:0<(zaS s.data.toList).length:=zkK _ _
 by_cases g:(zaS s.data.toList).length=1
 ·exact yeE s w d _ g rfl
 ·obtain ⟨n,e⟩: ∃n,(zaS s.data.toList).length=n+2:=⟨(zaS s.data.toList).length - 2,by omega⟩
  by_cases f:(zaS s.data.toList).getD (n+1) []=[]
  ·exact ztL s w d n _ e rfl f
  ·exact z4E s w d n _ e rfl f
theorem zlU (p:UInt8→Bool) (l:List UInt8): ∀(xs:List (List UInt8)) (t:List UInt8),(∀c∈l,p c=false)→l.foldl (zaP p) (xs,t)=(xs,t++l):=by
 induction l with
 |nil=>intro xs t _;simp
 |cons c l f=>
  intro xs t h
  have e:=h c (by simp)
  simp only [List.foldl_cons,zaP,e]
  rw [show (if false=true then (xs++[t],[]) else (xs,t++[c]))=(xs,t++[c]) from rfl,f _ _ (fun d g=>h d (by simp [g]))]
  simp
theorem has46 (c:UInt8):hasB [46] c=decide (c=46):=by
 simp only [hasB,List.any_cons,List.any_nil,Bool.or_false]
 by_cases h:c=46
 ·subst h;rfl
 ·rw [ynF h];exact beq_eq_false_iff_ne.2 (fun e=>h e.symm)
end
end
section
open Go.RowKit
theorem z8S (n:Nat) (h:n<16):valZ ((hexN n).toNat:Int)=n∧(hexN n).toNat≠37∧(hexN n).toNat<128:=by
 have d: ∀n:Fin 16,valZ ((hexN n.val).toNat:Int)=n.val∧(hexN n.val).toNat≠37∧(hexN n.val).toNat<128:=by decide+kernel
 exact d ⟨n,h⟩
theorem yiY (st:Nat) (n:Nat) (e:st<6) (h:n<16):inB st ((hexN n).toNat:Int)=false∧inB st 37=false:=by
 have d: ∀st:Fin 6,∀n:Fin 16,inB (st.val:Int) ((hexN n.val).toNat:Int)=false∧inB (st.val:Int) 37=false:=by decide+kernel
 exact d ⟨st,e⟩ ⟨n,h⟩
theorem zmQ {st r:Int} (f:0≤st) (d:st≤5) (h:inB st r=false):31<r∧r≤126:=by
 by_cases e:r≤31∨126<r
 ·rw [z9G f d e] at h;cases h
 ·omega
theorem zfD {r:Int} (d:0≤r) (e:r<128):Lib.encodeRune r=[r.toNat.toUInt8]:=by
 unfold Lib.encodeRune
 rw [Lib.encodeRuneZ_one d (by omega)]
 rfl
theorem zsD (st:Int) (m:0≤st) (q:st≤5) (l:List Int): ∀b∈encB st l,b.toNat<128∧inB st (b.toNat:Int)=false:=by
 intro b d
 obtain ⟨r,_,d⟩:=List.mem_flatMap.1 d
 cases f:inB st r with
 |true=>
  have e:encP st r=pctL (Lib.encodeRune r):=by unfold encP;rw [f];rfl
  rw [e] at d
  obtain ⟨c,_,d⟩:=List.mem_flatMap.1 d
  have B:=c.toNat_lt
  have i:st=(st.toNat:Int):=(Int.toNat_of_nonneg m).symm
  have g:=yiY st.toNat (c.toNat/16) (by omega) (by omega)
  have j:=yiY st.toNat (c.toNat % 16) (by omega) (by omega)
  rw [←i] at g j
  have A:=z8S (c.toNat/16) (by omega)
  have o:=z8S (c.toNat % 16) (by omega)
  simp only [pctB,List.mem_cons,List.not_mem_nil,or_false] at d
  rcases d with rfl|rfl|rfl
  ·exact ⟨by decide,g.2⟩
  ·exact ⟨A.2.2,g.1⟩
  ·exact ⟨o.2.2,j.1⟩
 |false=>
  have e:encP st r=Lib.encodeRune r:=by unfold encP;rw [f];rfl
  have C:=zmQ m q f
  rw [e,zfD (by omega) (by omega)] at d
  simp only [List.mem_cons,List.not_mem_nil,or_false] at d
  subst d
  rw [z3V r (by omega) (by omega),Int.toNat_of_nonneg (by omega)]
  exact ⟨by omega,f⟩
def zmZ (e:List UInt8):List Int:=e.map fun b=>(b.toNat:Int)
theorem zvZ (e:List UInt8) (h: ∀b∈e,b.toNat<128):zdT (zmZ e)=e:=by
 induction e with
 |nil=>rfl
 |cons b e g=>
  have i:=h b (List.mem_cons_self ..)
  have d:=g (fun x f=>h x (List.mem_cons_of_mem _ f))
  show zdT ((b.toNat:Int)::zmZ e)=b::e
  rw [ziA,d,zfD (by omega) (by omega),zgK]
  rfl
theorem z4C (e:List UInt8) (h: ∀b∈e,b.toNat<128):scal ⟨e.toArray⟩=zmZ e:=by
 have d:=z4P (zmZ e)
 rw [zvZ e h] at d
 rw [d]
 have: ∀x∈zmZ e,fixZ x=x:=by
  intro x g
  obtain ⟨b,i,rfl⟩:=List.mem_map.1 g
  have:=h b i
  have f:isB (b.toNat:Int)=true:=ynG (by omega)
  exact if_pos f
 exact (List.map_congr_left this).trans (List.map_id _)
theorem ygO (st:Int) (e:List UInt8) (h: ∀b∈e,b.toNat<128∧inB st (b.toNat:Int)=false):encB st (zmZ e)=e:=by
 induction e with
 |nil=>rfl
 |cons b e f=>
  have j:=h b (List.mem_cons_self ..)
  have d:=f (fun x g=>h x (List.mem_cons_of_mem _ g))
  show encB st ((b.toNat:Int)::zmZ e)=b::e
  have i:encP st (b.toNat:Int)=[b]:=by
   unfold encP
   rw [j.2,zfD (by omega) (by omega),zgK]
   rfl
  rw [ztY,d,i]
  rfl
end
end Go.Proofs.YtegmcmgndllmaaaGreatDoor
