/-
  What the law AgreeNever leans on, and its walk (11 of 42).
-/
import Derived.Test.YtegmcmgndllmaaaGreatDoorEvB
import Derived.Shelf.Abstract
import Derived.Test.YtegmcmgndllmaaaGreatDoorAgreeNeverPkE
import Derived.Test.YtegmcmgndllmaaaGreatDoorAgreeNeverPkJ
namespace Go.Proofs.YtegmcmgndllmaaaGreatDoor
set_option maxRecDepth 100000
set_option maxHeartbeats 16000000
section
open Go.RowKit
noncomputable def yjJ:Ev.Orc:=Ev.orcWith (Ev.orcWith (Ev.orcWith (Ev.orcWith (Ev.orcWith (Ev.orcWith (Ev.orcWith (Ev.orcWith (Ev.orcWith (Ev.orcNone) 224 Ev.oReplace) 238 Ev.oJoin) 51 Ev.oItoa) 311 Ev.oTz) 284 Ev.oLen) 321 Ev.oCount) 146 Ev.oIndex) 233 Ev.oNoEscape) 265 Ev.oIndexByte
theorem zxZ (w:World) (B:PowTab w) (i:BruTab w) (f:MaxVar w):Ev.OrcSound Tryz.prog 100 w.heap.size (Below w.heap.size w) yjJ:=by
 refine Ev.orcNone_sound|>.with ?o0|>.with ?o1|>.with ?o2|>.with ?o3|>.with ?o4|>.with ?o5|>.with ?o6|>.with ?o7|>.with ?o8
 case o0=>exact Ev.oReplace_ok (enters_of Tryz.func224 (by kernel_rfl) rfl) fun s o n W d A j E=>by obtain ⟨m,D⟩:=zaA f d;exact Tryz.strings_ReplaceAll s o n m W A D j E
 case o1=>exact Ev.oJoin_ok (enters_of Tryz.func238 (by kernel_rfl) rfl) fun H o c xs C w A j E I G=>Tryz.strings_Join H o c xs C w A j E I G
 case o2=>exact Ev.oItoa_ok (enters_of Tryz.func51 (by kernel_rfl) rfl) fun n W d A j=>(Tryz.strconv_Itoa n A j W (zaH B d)).mono (by rintro e w' ⟨rfl,k,os,rfl⟩;exact ⟨rfl,Lib.below_grow _ _ (Nat.le_refl _) _ _⟩)
 case o3=>exact Ev.oTz_ok (enters_of Tryz.func311 (by kernel_rfl) rfl) (fun W d=>(tz64_8 W (zaG i d)).mono fun _ _ h=>⟨h.1,h.2.symm⟩) (fun W d=>(yhW W (zaG i d)).mono fun _ _ h=>⟨h.1,h.2.symm⟩)
 case o4=>exact Ev.oLen_ok (enters_of Tryz.func284 (by kernel_rfl) rfl) fun x W A j=>Tryz.bits_Len64 x W A j
 case o5=>exact Ev.oCount_ok Tryz.func321 (by kernel_rfl) (by kernel_rfl) (by kernel_rfl) (by kernel_rfl)
 case o6=>exact Ev.oIndex_ok (enters_of Tryz.func146 (by kernel_rfl) rfl) fun s t W d h=>by obtain ⟨m,D⟩:=zaA f d;exact Tryz.stringslite_Index s t m W h D
 case o7=>exact Ev.oNoEscape_ok Tryz.func233 (by kernel_rfl) (by kernel_rfl) (by kernel_rfl) (by kernel_rfl)
 case o8=>exact Ev.oIndexByte_ok Tryz.func265 (by kernel_rfl) (by kernel_rfl) (by kernel_rfl) (by kernel_rfl)
theorem yfA:(Tryz.prog.funcs.toList.all fun f=> !(f.name== "runtime.NumGoroutine"))=true:=by kernel_rfl
theorem zxS:Ev.NoNum Tryz.prog:=fun g f h=>by
 have:=List.all_eq_true.1 yfA f (by simpa using Array.mem_of_getElem? h)
 simpa using this
theorem zxH:Tryz.prog.follows .mixedOrders=true:=by kernel_rfl
theorem zxJ (w:World):Ev.Stays w.heap.size (Below w.heap.size w):=fun _ _ h k=>k.trans h
def evL:List Nat:=[8,19,36,51,58,82,146,150,186,218,224,233,238,245,247,265,269,284,289,302,311,318,321,324,326,328,329,330,331,333,334,335,337,342,349,354,356,357,358,359,360,362,363,364,365,366,367,368,369,370]
theorem zbL {d:Ev.Orc} {n:Nat} {f:FuncId} {v:Value} (h:Ev.runG Tryz.prog 100 (Ev.orcIn evL d) n f []=some v) (i:Ev.pf 100 6 v=true) (w:World) (j:Ev.OrcSound Tryz.prog 100 w.heap.size (Below w.heap.size w) d):
  Calls Tryz.prog f #[] w fun e w'=>e= .returned v∧Below w.heap.size w w':=
 Ev.runF_sound (zxJ w) zxS zxH (Ev.orcIn_ok evL j) (Ev.runG_ok h) rfl i w rfl (Below.refl _ _)
def memoT:List (List UInt8×Nat×Nat×Nat):=[([48,46,48,46,48,46,48,47,56],0,281470681743360,104),
 ([49,48,46,48,46,48,46,48,47,56],0,281470849515520,104),
 ([49,48,48,46,54,52,46,48,46,48,47,49,48],0,281472363659264,106),
 ([49,50,55,46,48,46,48,46,48,47,56],0,281472812449792,104),
 ([49,54,57,46,50,53,52,46,48,46,48,47,49,54],0,281473533739008,112),
 ([49,55,50,46,49,54,46,48,46,48,47,49,50],0,281473568473088,108),
 ([49,57,50,46,48,46,48,46,48,47,50,52],0,281473902968832,120),
 ([49,57,50,46,48,46,50,46,48,47,50,52],0,281473902969344,120),
 ([49,57,50,46,56,56,46,57,57,46,48,47,50,52],0,281473908761344,120),
 ([49,57,50,46,49,54,56,46,48,46,48,47,49,54],0,281473913978880,112),
 ([49,57,56,46,49,56,46,48,46,48,47,49,53],0,281474004811776,111),
 ([49,57,56,46,53,49,46,49,48,48,46,48,47,50,52],0,281474007000064,120),
 ([50,48,51,46,48,46,49,49,51,46,48,47,50,52],0,281474087547136,120),
 ([50,50,52,46,48,46,48,46,48,47,52],0,281474439839744,100),
 ([50,52,48,46,48,46,48,46,48,47,52],0,281474708275200,100),
 ([58,58,47,49,50,56],0,0,128),
 ([58,58,49,47,49,50,56],0,1,128),
 ([54,52,58,102,102,57,98,58,49,58,58,47,52,56],28428538856144896,0,48),
 ([49,48,48,58,58,47,54,52],72057594037927936,0,64),
 ([50,48,48,49,58,58,47,50,51],2306124484190404608,0,23),
 ([50,48,48,49,58,100,98,56,58,58,47,51,50],2306139568115548160,0,32),
 ([51,102,102,102,58,58,47,50,48],4611404543450677248,0,20),
 ([53,102,48,48,58,58,47,49,54],6845471433603153920,0,16),
 ([102,99,48,48,58,58,47,55],18158513697557839872,0,7),
 ([102,101,56,48,58,58,47,49,48],18338657682652659712,0,10),
 ([102,101,99,48,58,58,47,49,48],18356672081162141696,0,10),
 ([102,102,48,48,58,58,47,56],18374686479671623680,0,8)]
def ygU (x:List UInt8×Nat×Nat×Nat):Value:= .tuple ⟨[.agg ⟨[.int .u64 (.ofNat x.2.1),.int .u64 (.ofNat x.2.2.1),.int .i64 (.ofNat x.2.2.2)]⟩,.bool true]⟩
def isPf (r:Option Value) (a b c:Nat):Bool:=match r with
 |some (.tuple ⟨[.agg ⟨[.int .u64 (.ofNat x),.int .u64 (.ofNat y),.int .i64 (.ofNat z)]⟩,.bool true]⟩)=>Nat.beq x a&&(Nat.beq y b&&Nat.beq z c)
 |_=>false
theorem yjF {r:Option Value} {x:List UInt8×Nat×Nat×Nat} (h:isPf r x.2.1 x.2.2.1 x.2.2.2=true):r=some (ygU x):=by
 unfold isPf at h
 split at h
 ·rw [Bool.and_eq_true,Bool.and_eq_true] at h
  unfold ygU
  rw [Nat.eq_of_beq_eq_true h.1,Nat.eq_of_beq_eq_true h.2.1,Nat.eq_of_beq_eq_true h.2.2]
 ·cases h
theorem yaS:(memoT.all fun x=>isPf (Ev.runG Tryz.prog 100 (Ev.orcIn evL yjJ) 100000 289 [.string ⟨x.1.toArray⟩]) x.2.1 x.2.2.1 x.2.2.2)=true:=by kernel_rfl
noncomputable def orcM:Ev.Orc:=Ev.orcWith yjJ 289 (Ev.oMemo (memoT.map fun x=>(x.1,ygU x)))
theorem yjA (w:World) (f:PowTab w) (d:BruTab w) (i:MaxVar w):Ev.OrcSound Tryz.prog 100 w.heap.size (Below w.heap.size w) orcM:=by
 refine (zxZ w f d i).with (Ev.oMemo_ok (enters_of Tryz.func289 (by kernel_rfl) rfl) (by kernel_rfl) fun x m W B j=> ?_)
 obtain ⟨y,o,rfl⟩:=List.mem_map.1 m
 have h:=yjF (List.all_eq_true.1 yaS y o)
 have A:=Ev.runF_sound (zxJ W) zxS zxH (Ev.orcIn_ok evL (zxZ W (zaH f j) (zaG d j) (zaA i j))) (Ev.runG_ok h) rfl rfl W rfl (Below.refl _ _)
 simpa using A
def z7G:Ev.OrcH:=fun args _=>match args with
 |[.agg ⟨[.int .u64 (.ofNat hi),.int .u64 (.ofNat lo),.int .i64 (.ofNat n)]⟩]=>(match Nat.blt hi 18446744073709551616&&Nat.blt lo 18446744073709551616 with|true=>some (.bool (zaN (zaL hi lo) (n:Int)))|false=>none)
 |_=>none
theorem z5Z {base:Nat} {T:World→Prop}:Ev.OrcFn Tryz.prog 100 base T 186 z7G:=by
 refine Ev.oFn_ok (enters_of Tryz.func186 (by kernel_rfl) rfl) fun args i v d=> ?_
 unfold z7G at d
 split at d
 ·split at d
  ·rename_i f
   cases d
   simp only [Bool.and_eq_true] at f
   refine ⟨rfl,rfl,fun W _ _=> ?_⟩
   exact zbM _ _ _ W (Ev.blt_ok f.1) (Ev.blt_ok f.2)
  ·cases d
 ·cases d
noncomputable def zrG:Ev.Orc:=Ev.orcWith orcM 186 z7G
theorem zrT (w:World) (i:PowTab w) (f:BruTab w) (d:MaxVar w):Ev.OrcSound Tryz.prog 100 w.heap.size (Below w.heap.size w) zrG:=(yjA w i f d).with z5Z
def zwW:Ev.OrcH:=fun args _=>match args with
 |[.agg ⟨[.int .u64 (.ofNat hi),.int .u64 (.ofNat lo),.int .i64 (.ofNat n)]⟩,.agg ⟨[.int .u64 (.ofNat f),.int .u64 (.ofNat d),.int .i64 (.ofNat m)]⟩]=>(match (Nat.blt hi 18446744073709551616&&Nat.blt lo 18446744073709551616)&&(Nat.blt f 18446744073709551616&&Nat.blt d 18446744073709551616) with|true=>some (.bool (zbJ (zaL hi lo) (n:Int) (zaL f d) (m:Int)))|false=>none)
 |_=>none
theorem z3A {base:Nat} {T:World→Prop}:Ev.OrcFn Tryz.prog 100 base T 245 zwW:=by
 refine Ev.oFn_ok (enters_of Tryz.func245 (by kernel_rfl) rfl) fun args i v d=> ?_
 unfold zwW at d
 split at d
 ·split at d
  ·rename_i f
   cases d
   simp only [Bool.and_eq_true] at f
   refine ⟨rfl,rfl,fun W _ _=> ?_⟩
   exact zhX _ _ _ _ _ _ W (Ev.blt_ok f.1.1) (Ev.blt_ok f.1.2) (Ev.blt_ok f.2.1) (Ev.blt_ok f.2.2)
  ·cases d
 ·cases d
noncomputable def zoJ:Ev.Orc:=Ev.orcWith zrG 245 zwW
theorem zpZ (w:World) (i:PowTab w) (f:BruTab w) (d:MaxVar w):Ev.OrcSound Tryz.prog 100 w.heap.size (Below w.heap.size w) zoJ:=(zrT w i f d).with z3A
def zuX:Ev.OrcH:=fun args _=>match args with
 |[.agg ⟨[.int .u64 (.ofNat hi),.int .u64 (.ofNat lo),.int .i64 (.ofNat n)]⟩,.agg ⟨[.int .u64 (.ofNat d),.int .u64 (.ofNat f),.int .i64 (.ofNat k)]⟩]=>(match ((Nat.blt hi 18446744073709551616&&Nat.blt lo 18446744073709551616)&&(Nat.blt d 18446744073709551616&&Nat.blt f 18446744073709551616))&&(Nat.ble n 128&&Nat.ble k 128) with|true=>some (pfW (ofW (zaL d f) (zbB (zaL hi lo) n (zaL d f) k)) (zbB (zaL hi lo) n (zaL d f) k:Nat))|false=>none)
 |_=>none
theorem z1K {base:Nat} {T:World→Prop}:Ev.OrcFn Tryz.prog 100 base T 247 zuX:=by
 refine Ev.oFn_ok (enters_of Tryz.func247 (by kernel_rfl) rfl) fun args i v f=> ?_
 unfold zuX at f
 split at f
 ·split at f
  ·rename_i d
   cases f
   simp only [Bool.and_eq_true] at d
   refine ⟨rfl,rfl,fun W _ _=> ?_⟩
   exact zoO _ _ _ _ _ _ W (Ev.blt_ok d.1.1.1) (Ev.blt_ok d.1.1.2) (Ev.blt_ok d.1.2.1) (Ev.blt_ok d.1.2.2) (Nat.le_of_ble_eq_true d.2.1) (Nat.le_of_ble_eq_true d.2.2)
  ·cases f
 ·cases f
noncomputable def zfV:Ev.Orc:=Ev.orcWith zoJ 247 zuX
theorem zkF (w:World) (i:PowTab w) (f:BruTab w) (d:MaxVar w):Ev.OrcSound Tryz.prog 100 w.heap.size (Below w.heap.size w) zfV:=(zpZ w i f d).with z1K
theorem z4U:Ev.runG Tryz.prog 100 (Ev.orcIn evL zfV) 100000 370 []=some (.bool true):=by kernel_rfl
theorem aw01 (w:World) (f:PowTab w) (d:BruTab w) (i:MaxVar w):Calls Tryz.prog 370 #[] w fun e w'=>e= .returned (.bool true)∧Below w.heap.size w w':=
 zbL z4U rfl w (zkF w f d i)
noncomputable def z8B:Ev.Orc:=Ev.orcAdd (Ev.orcAdd zfV 370 (.bool true)) 369 (.bool true)
theorem z5V:Ev.runG Tryz.prog 100 (Ev.orcIn evL (Ev.orcAdd zfV 370 (.bool true))) 100000 369 []=some (.bool true):=by kernel_rfl
theorem zrI (w:World) (f:PowTab w) (d:BruTab w) (i:MaxVar w):Ev.OrcSound Tryz.prog 100 w.heap.size (Below w.heap.size w) (Ev.orcAdd zfV 370 (.bool true)):=
 (zkF w f d i).add rfl ((enters_of Tryz.func370 (by kernel_rfl) rfl) #[]) fun W _ j=>aw01 W (zaH f j) (zaG d j) (zaA i j)
theorem Aw01 (w:World) (f:PowTab w) (d:BruTab w) (i:MaxVar w):Calls Tryz.prog 369 #[] w fun e w'=>e= .returned (.bool true)∧Below w.heap.size w w':=
 zbL z5V rfl w (zrI w f d i)
theorem zxY (w:World) (f:PowTab w) (d:BruTab w) (i:MaxVar w):Ev.OrcSound Tryz.prog 100 w.heap.size (Below w.heap.size w) z8B:=
 (zrI w f d i).add rfl ((enters_of Tryz.func369 (by kernel_rfl) rfl) #[]) fun W _ j=>Aw01 W (zaH f j) (zaG d j) (zaA i j)
theorem z4I:Ev.runG Tryz.prog 100 (Ev.orcIn evL z8B) 100000 368 []=some (.bool true):=by kernel_rfl
theorem aw02 (w:World) (f:PowTab w) (d:BruTab w) (i:MaxVar w):Calls Tryz.prog 368 #[] w fun e w'=>e= .returned (.bool true)∧Below w.heap.size w w':=
 zbL z4I rfl w (zxY w f d i)
noncomputable def z7K:Ev.Orc:=Ev.orcAdd (Ev.orcAdd z8B 368 (.bool true)) 367 (.bool true)
theorem yaJ:Ev.runG Tryz.prog 100 (Ev.orcIn evL (Ev.orcAdd z8B 368 (.bool true))) 100000 367 []=some (.bool true):=by kernel_rfl
theorem ztH (w:World) (f:PowTab w) (d:BruTab w) (i:MaxVar w):Ev.OrcSound Tryz.prog 100 w.heap.size (Below w.heap.size w) (Ev.orcAdd z8B 368 (.bool true)):=
 (zxY w f d i).add rfl ((enters_of Tryz.func368 (by kernel_rfl) rfl) #[]) fun W _ j=>aw02 W (zaH f j) (zaG d j) (zaA i j)
theorem Aw02 (w:World) (f:PowTab w) (d:BruTab w) (i:MaxVar w):Calls Tryz.prog 367 #[] w fun e w'=>e= .returned (.bool true)∧Below w.heap.size w w':=
 zbL yaJ rfl w (ztH w f d i)
theorem zxN (w:World) (f:PowTab w) (d:BruTab w) (i:MaxVar w):Ev.OrcSound Tryz.prog 100 w.heap.size (Below w.heap.size w) z7K:=
 (ztH w f d i).add rfl ((enters_of Tryz.func367 (by kernel_rfl) rfl) #[]) fun W _ j=>Aw02 W (zaH f j) (zaG d j) (zaA i j)
theorem z6R:Ev.runG Tryz.prog 100 (Ev.orcIn evL z7K) 100000 366 []=some (.bool true):=by kernel_rfl
theorem aw03 (w:World) (f:PowTab w) (d:BruTab w) (i:MaxVar w):Calls Tryz.prog 366 #[] w fun e w'=>e= .returned (.bool true)∧Below w.heap.size w w':=
 zbL z6R rfl w (zxN w f d i)
noncomputable def z5G:Ev.Orc:=Ev.orcAdd (Ev.orcAdd z7K 366 (.bool true)) 365 (.bool true)
theorem z3I:Ev.runG Tryz.prog 100 (Ev.orcIn evL (Ev.orcAdd z7K 366 (.bool true))) 100000 365 []=some (.bool true):=by kernel_rfl
theorem zsV (w:World) (f:PowTab w) (d:BruTab w) (i:MaxVar w):Ev.OrcSound Tryz.prog 100 w.heap.size (Below w.heap.size w) (Ev.orcAdd z7K 366 (.bool true)):=
 (zxN w f d i).add rfl ((enters_of Tryz.func366 (by kernel_rfl) rfl) #[]) fun W _ j=>aw03 W (zaH f j) (zaG d j) (zaA i j)
theorem Aw03 (w:World) (f:PowTab w) (d:BruTab w) (i:MaxVar w):Calls Tryz.prog 365 #[] w fun e w'=>e= .returned (.bool true)∧Below w.heap.size w w':=
 zbL z3I rfl w (zsV w f d i)
theorem zzO (w:World) (f:PowTab w) (d:BruTab w) (i:MaxVar w):Ev.OrcSound Tryz.prog 100 w.heap.size (Below w.heap.size w) z5G:=
 (zsV w f d i).add rfl ((enters_of Tryz.func365 (by kernel_rfl) rfl) #[]) fun W _ j=>Aw03 W (zaH f j) (zaG d j) (zaA i j)
theorem z6N:Ev.runG Tryz.prog 100 (Ev.orcIn evL z5G) 100000 364 []=some (.bool true):=by kernel_rfl
theorem aw04 (w:World) (f:PowTab w) (d:BruTab w) (i:MaxVar w):Calls Tryz.prog 364 #[] w fun e w'=>e= .returned (.bool true)∧Below w.heap.size w w':=
 zbL z6N rfl w (zzO w f d i)
noncomputable def z3Q:Ev.Orc:=Ev.orcAdd (Ev.orcAdd z5G 364 (.bool true)) 363 (.bool true)
theorem yaR:Ev.runG Tryz.prog 100 (Ev.orcIn evL (Ev.orcAdd z5G 364 (.bool true))) 100000 363 []=some (.bool true):=by kernel_rfl
theorem zrH (w:World) (f:PowTab w) (d:BruTab w) (i:MaxVar w):Ev.OrcSound Tryz.prog 100 w.heap.size (Below w.heap.size w) (Ev.orcAdd z5G 364 (.bool true)):=
 (zzO w f d i).add rfl ((enters_of Tryz.func364 (by kernel_rfl) rfl) #[]) fun W _ j=>aw04 W (zaH f j) (zaG d j) (zaA i j)
theorem Aw04 (w:World) (f:PowTab w) (d:BruTab w) (i:MaxVar w):Calls Tryz.prog 363 #[] w fun e w'=>e= .returned (.bool true)∧Below w.heap.size w w':=
 zbL yaR rfl w (zrH w f d i)
theorem zyQ (w:World) (f:PowTab w) (d:BruTab w) (i:MaxVar w):Ev.OrcSound Tryz.prog 100 w.heap.size (Below w.heap.size w) z3Q:=
 (zrH w f d i).add rfl ((enters_of Tryz.func363 (by kernel_rfl) rfl) #[]) fun W _ j=>Aw04 W (zaH f j) (zaG d j) (zaA i j)
theorem z8N:Ev.runG Tryz.prog 100 (Ev.orcIn evL z3Q) 100000 362 []=some (.bool true):=by kernel_rfl
theorem aw05 (w:World) (f:PowTab w) (d:BruTab w) (i:MaxVar w):Calls Tryz.prog 362 #[] w fun e w'=>e= .returned (.bool true)∧Below w.heap.size w w':=
 zbL z8N rfl w (zyQ w f d i)
noncomputable def z7D:Ev.Orc:=Ev.orcAdd (Ev.orcAdd z3Q 362 (.bool true)) 360 (.bool true)
theorem z3Y:Ev.runG Tryz.prog 100 (Ev.orcIn evL (Ev.orcAdd z3Q 362 (.bool true))) 100000 360 []=some (.bool true):=by kernel_rfl
theorem zrP (w:World) (f:PowTab w) (d:BruTab w) (i:MaxVar w):Ev.OrcSound Tryz.prog 100 w.heap.size (Below w.heap.size w) (Ev.orcAdd z3Q 362 (.bool true)):=
 (zyQ w f d i).add rfl ((enters_of Tryz.func362 (by kernel_rfl) rfl) #[]) fun W _ j=>aw05 W (zaH f j) (zaG d j) (zaA i j)
theorem Aw05 (w:World) (f:PowTab w) (d:BruTab w) (i:MaxVar w):Calls Tryz.prog 360 #[] w fun e w'=>e= .returned (.bool true)∧Below w.heap.size w w':=
 zbL z3Y rfl w (zrP w f d i)
theorem zxE (w:World) (f:PowTab w) (d:BruTab w) (i:MaxVar w):Ev.OrcSound Tryz.prog 100 w.heap.size (Below w.heap.size w) z7D:=
 (zrP w f d i).add rfl ((enters_of Tryz.func360 (by kernel_rfl) rfl) #[]) fun W _ j=>Aw05 W (zaH f j) (zaG d j) (zaA i j)
theorem z5U:Ev.runG Tryz.prog 100 (Ev.orcIn evL z7D) 100000 359 []=some (.bool true):=by kernel_rfl
theorem aw06 (w:World) (f:PowTab w) (d:BruTab w) (i:MaxVar w):Calls Tryz.prog 359 #[] w fun e w'=>e= .returned (.bool true)∧Below w.heap.size w w':=
 zbL z5U rfl w (zxE w f d i)
noncomputable def z7B:Ev.Orc:=Ev.orcAdd (Ev.orcAdd z7D 359 (.bool true)) 358 (.bool true)
theorem z4F:Ev.runG Tryz.prog 100 (Ev.orcIn evL (Ev.orcAdd z7D 359 (.bool true))) 100000 358 []=some (.bool true):=by kernel_rfl
theorem zrM (w:World) (f:PowTab w) (d:BruTab w) (i:MaxVar w):Ev.OrcSound Tryz.prog 100 w.heap.size (Below w.heap.size w) (Ev.orcAdd z7D 359 (.bool true)):=
 (zxE w f d i).add rfl ((enters_of Tryz.func359 (by kernel_rfl) rfl) #[]) fun W _ j=>aw06 W (zaH f j) (zaG d j) (zaA i j)
theorem Aw06 (w:World) (f:PowTab w) (d:BruTab w) (i:MaxVar w):Calls Tryz.prog 358 #[] w fun e w'=>e= .returned (.bool true)∧Below w.heap.size w w':=
 zbL z4F rfl w (zrM w f d i)
theorem zzH (w:World) (f:PowTab w) (d:BruTab w) (i:MaxVar w):Ev.OrcSound Tryz.prog 100 w.heap.size (Below w.heap.size w) z7B:=
 (zrM w f d i).add rfl ((enters_of Tryz.func358 (by kernel_rfl) rfl) #[]) fun W _ j=>Aw06 W (zaH f j) (zaG d j) (zaA i j)
theorem yaX:Ev.runG Tryz.prog 100 (Ev.orcIn evL z7B) 100000 357 []=some (.bool true):=by kernel_rfl
theorem aw07 (w:World) (f:PowTab w) (d:BruTab w) (i:MaxVar w):Calls Tryz.prog 357 #[] w fun e w'=>e= .returned (.bool true)∧Below w.heap.size w w':=
 zbL yaX rfl w (zzH w f d i)
noncomputable def z8E:Ev.Orc:=Ev.orcAdd (Ev.orcAdd z7B 357 (.bool true)) 356 (.bool true)
theorem ybL:Ev.runG Tryz.prog 100 (Ev.orcIn evL (Ev.orcAdd z7B 357 (.bool true))) 100000 356 []=some (.bool true):=by kernel_rfl
theorem ztW (w:World) (f:PowTab w) (d:BruTab w) (i:MaxVar w):Ev.OrcSound Tryz.prog 100 w.heap.size (Below w.heap.size w) (Ev.orcAdd z7B 357 (.bool true)):=
 (zzH w f d i).add rfl ((enters_of Tryz.func357 (by kernel_rfl) rfl) #[]) fun W _ j=>aw07 W (zaH f j) (zaG d j) (zaA i j)
theorem Aw07 (w:World) (f:PowTab w) (d:BruTab w) (i:MaxVar w):Calls Tryz.prog 356 #[] w fun e w'=>e= .returned (.bool true)∧Below w.heap.size w w':=
 zbL ybL rfl w (ztW w f d i)
theorem zzS (w:World) (f:PowTab w) (d:BruTab w) (i:MaxVar w):Ev.OrcSound Tryz.prog 100 w.heap.size (Below w.heap.size w) z8E:=
 (ztW w f d i).add rfl ((enters_of Tryz.func356 (by kernel_rfl) rfl) #[]) fun W _ j=>Aw07 W (zaH f j) (zaG d j) (zaA i j)
theorem z3V:Ev.runG Tryz.prog 100 (Ev.orcIn evL z8E) 100000 354 []=some (.bool true):=by kernel_rfl
theorem aw08 (w:World) (f:PowTab w) (d:BruTab w) (i:MaxVar w):Calls Tryz.prog 354 #[] w fun e w'=>e= .returned (.bool true)∧Below w.heap.size w w':=
 zbL z3V rfl w (zzS w f d i)
noncomputable def z9N:Ev.Orc:=Ev.orcAdd (Ev.orcAdd z8E 354 (.bool true)) 349 (.bool true)
theorem z5H:Ev.runG Tryz.prog 100 (Ev.orcIn evL (Ev.orcAdd z8E 354 (.bool true))) 100000 349 []=some (.bool true):=by kernel_rfl
theorem ztO (w:World) (f:PowTab w) (d:BruTab w) (i:MaxVar w):Ev.OrcSound Tryz.prog 100 w.heap.size (Below w.heap.size w) (Ev.orcAdd z8E 354 (.bool true)):=
 (zzS w f d i).add rfl ((enters_of Tryz.func354 (by kernel_rfl) rfl) #[]) fun W _ j=>aw08 W (zaH f j) (zaG d j) (zaA i j)
theorem Aw08 (w:World) (f:PowTab w) (d:BruTab w) (i:MaxVar w):Calls Tryz.prog 349 #[] w fun e w'=>e= .returned (.bool true)∧Below w.heap.size w w':=
 zbL z5H rfl w (ztO w f d i)
theorem zxI (w:World) (f:PowTab w) (d:BruTab w) (i:MaxVar w):Ev.OrcSound Tryz.prog 100 w.heap.size (Below w.heap.size w) z9N:=
 (ztO w f d i).add rfl ((enters_of Tryz.func349 (by kernel_rfl) rfl) #[]) fun W _ j=>Aw08 W (zaH f j) (zaG d j) (zaA i j)
theorem ybK:Ev.runG Tryz.prog 100 (Ev.orcIn evL z9N) 100000 342 []=some (.bool true):=by kernel_rfl
theorem aw09 (w:World) (f:PowTab w) (d:BruTab w) (i:MaxVar w):Calls Tryz.prog 342 #[] w fun e w'=>e= .returned (.bool true)∧Below w.heap.size w w':=
 zbL ybK rfl w (zxI w f d i)
noncomputable def z9M:Ev.Orc:=Ev.orcAdd (Ev.orcAdd z9N 342 (.bool true)) 337 (.bool true)
theorem yaM:Ev.runG Tryz.prog 100 (Ev.orcIn evL (Ev.orcAdd z9N 342 (.bool true))) 100000 337 []=some (.bool true):=by kernel_rfl
theorem zrX (w:World) (f:PowTab w) (d:BruTab w) (i:MaxVar w):Ev.OrcSound Tryz.prog 100 w.heap.size (Below w.heap.size w) (Ev.orcAdd z9N 342 (.bool true)):=
 (zxI w f d i).add rfl ((enters_of Tryz.func342 (by kernel_rfl) rfl) #[]) fun W _ j=>aw09 W (zaH f j) (zaG d j) (zaA i j)
theorem Aw09 (w:World) (f:PowTab w) (d:BruTab w) (i:MaxVar w):Calls Tryz.prog 337 #[] w fun e w'=>e= .returned (.bool true)∧Below w.heap.size w w':=
 zbL yaM rfl w (zrX w f d i)
theorem zyO (w:World) (f:PowTab w) (d:BruTab w) (i:MaxVar w):Ev.OrcSound Tryz.prog 100 w.heap.size (Below w.heap.size w) z9M:=
 (zrX w f d i).add rfl ((enters_of Tryz.func337 (by kernel_rfl) rfl) #[]) fun W _ j=>Aw09 W (zaH f j) (zaG d j) (zaA i j)
theorem z5W:Ev.runG Tryz.prog 100 (Ev.orcIn evL z9M) 100000 335 []=some (.bool true):=by kernel_rfl
theorem aw10 (w:World) (f:PowTab w) (d:BruTab w) (i:MaxVar w):Calls Tryz.prog 335 #[] w fun e w'=>e= .returned (.bool true)∧Below w.heap.size w w':=
 zbL z5W rfl w (zyO w f d i)
noncomputable def z7J:Ev.Orc:=Ev.orcAdd (Ev.orcAdd z9M 335 (.bool true)) 334 (.bool true)
theorem z9Y:Ev.runG Tryz.prog 100 (Ev.orcIn evL (Ev.orcAdd z9M 335 (.bool true))) 100000 334 []=some (.bool true):=by kernel_rfl
theorem zsC (w:World) (f:PowTab w) (d:BruTab w) (i:MaxVar w):Ev.OrcSound Tryz.prog 100 w.heap.size (Below w.heap.size w) (Ev.orcAdd z9M 335 (.bool true)):=
 (zyO w f d i).add rfl ((enters_of Tryz.func335 (by kernel_rfl) rfl) #[]) fun W _ j=>aw10 W (zaH f j) (zaG d j) (zaA i j)
theorem Aw10 (w:World) (f:PowTab w) (d:BruTab w) (i:MaxVar w):Calls Tryz.prog 334 #[] w fun e w'=>e= .returned (.bool true)∧Below w.heap.size w w':=
 zbL z9Y rfl w (zsC w f d i)
theorem zyM (w:World) (f:PowTab w) (d:BruTab w) (i:MaxVar w):Ev.OrcSound Tryz.prog 100 w.heap.size (Below w.heap.size w) z7J:=
 (zsC w f d i).add rfl ((enters_of Tryz.func334 (by kernel_rfl) rfl) #[]) fun W _ j=>Aw10 W (zaH f j) (zaG d j) (zaA i j)
theorem z9D:Ev.runG Tryz.prog 100 (Ev.orcIn evL z7J) 100000 333 []=some (.bool true):=by kernel_rfl
theorem aw11 (w:World) (f:PowTab w) (d:BruTab w) (i:MaxVar w):Calls Tryz.prog 333 #[] w fun e w'=>e= .returned (.bool true)∧Below w.heap.size w w':=
 zbL z9D rfl w (zyM w f d i)
noncomputable def z4Z:Ev.Orc:=Ev.orcAdd (Ev.orcAdd z7J 333 (.bool true)) 331 (.bool true)
theorem z8G:Ev.runG Tryz.prog 100 (Ev.orcIn evL (Ev.orcAdd z7J 333 (.bool true))) 100000 331 []=some (.bool true):=by kernel_rfl
theorem zrA (w:World) (f:PowTab w) (d:BruTab w) (i:MaxVar w):Ev.OrcSound Tryz.prog 100 w.heap.size (Below w.heap.size w) (Ev.orcAdd z7J 333 (.bool true)):=
 (zyM w f d i).add rfl ((enters_of Tryz.func333 (by kernel_rfl) rfl) #[]) fun W _ j=>aw11 W (zaH f j) (zaG d j) (zaA i j)
theorem Aw11 (w:World) (f:PowTab w) (d:BruTab w) (i:MaxVar w):Calls Tryz.prog 331 #[] w fun e w'=>e= .returned (.bool true)∧Below w.heap.size w w':=
 zbL z8G rfl w (zrA w f d i)
theorem zxD (w:World) (f:PowTab w) (d:BruTab w) (i:MaxVar w):Ev.OrcSound Tryz.prog 100 w.heap.size (Below w.heap.size w) z4Z:=
 (zrA w f d i).add rfl ((enters_of Tryz.func331 (by kernel_rfl) rfl) #[]) fun W _ j=>Aw11 W (zaH f j) (zaG d j) (zaA i j)
theorem z5L:Ev.runG Tryz.prog 100 (Ev.orcIn evL z4Z) 100000 330 []=some (.bool true):=by kernel_rfl
theorem aw12 (w:World) (f:PowTab w) (d:BruTab w) (i:MaxVar w):Calls Tryz.prog 330 #[] w fun e w'=>e= .returned (.bool true)∧Below w.heap.size w w':=
 zbL z5L rfl w (zxD w f d i)
noncomputable def z8H:Ev.Orc:=Ev.orcAdd (Ev.orcAdd z4Z 330 (.bool true)) 329 (.bool true)
theorem z7W:Ev.runG Tryz.prog 100 (Ev.orcIn evL (Ev.orcAdd z4Z 330 (.bool true))) 100000 329 []=some (.bool true):=by kernel_rfl
theorem zuL (w:World) (f:PowTab w) (d:BruTab w) (i:MaxVar w):Ev.OrcSound Tryz.prog 100 w.heap.size (Below w.heap.size w) (Ev.orcAdd z4Z 330 (.bool true)):=
 (zxD w f d i).add rfl ((enters_of Tryz.func330 (by kernel_rfl) rfl) #[]) fun W _ j=>aw12 W (zaH f j) (zaG d j) (zaA i j)
theorem Aw12 (w:World) (f:PowTab w) (d:BruTab w) (i:MaxVar w):Calls Tryz.prog 329 #[] w fun e w'=>e= .returned (.bool true)∧Below w.heap.size w w':=
 zbL z7W rfl w (zuL w f d i)
theorem zxW (w:World) (f:PowTab w) (d:BruTab w) (i:MaxVar w):Ev.OrcSound Tryz.prog 100 w.heap.size (Below w.heap.size w) z8H:=
 (zuL w f d i).add rfl ((enters_of Tryz.func329 (by kernel_rfl) rfl) #[]) fun W _ j=>Aw12 W (zaH f j) (zaG d j) (zaA i j)
theorem z6D:Ev.runG Tryz.prog 100 (Ev.orcIn evL z8H) 100000 328 []=some (.bool true):=by kernel_rfl
theorem aw13 (w:World) (f:PowTab w) (d:BruTab w) (i:MaxVar w):Calls Tryz.prog 328 #[] w fun e w'=>e= .returned (.bool true)∧Below w.heap.size w w':=
 zbL z6D rfl w (zxW w f d i)
noncomputable def z5I:Ev.Orc:=Ev.orcAdd (Ev.orcAdd z8H 328 (.bool true)) 326 (.bool true)
theorem yaE:Ev.runG Tryz.prog 100 (Ev.orcIn evL (Ev.orcAdd z8H 328 (.bool true))) 100000 326 []=some (.bool true):=by kernel_rfl
theorem zuM (w:World) (f:PowTab w) (d:BruTab w) (i:MaxVar w):Ev.OrcSound Tryz.prog 100 w.heap.size (Below w.heap.size w) (Ev.orcAdd z8H 328 (.bool true)):=
 (zxW w f d i).add rfl ((enters_of Tryz.func328 (by kernel_rfl) rfl) #[]) fun W _ j=>aw13 W (zaH f j) (zaG d j) (zaA i j)
theorem Aw13 (w:World) (f:PowTab w) (d:BruTab w) (i:MaxVar w):Calls Tryz.prog 326 #[] w fun e w'=>e= .returned (.bool true)∧Below w.heap.size w w':=
 zbL yaE rfl w (zuM w f d i)
theorem zyZ (w:World) (f:PowTab w) (d:BruTab w) (i:MaxVar w):Ev.OrcSound Tryz.prog 100 w.heap.size (Below w.heap.size w) z5I:=
 (zuM w f d i).add rfl ((enters_of Tryz.func326 (by kernel_rfl) rfl) #[]) fun W _ j=>Aw13 W (zaH f j) (zaG d j) (zaA i j)
theorem yaQ:Ev.runG Tryz.prog 100 (Ev.orcIn evL z5I) 100000 324 []=some (.bool true):=by kernel_rfl
theorem aw14 (w:World) (f:PowTab w) (d:BruTab w) (i:MaxVar w):Calls Tryz.prog 324 #[] w fun e w'=>e= .returned (.bool true)∧Below w.heap.size w w':=
 zbL yaQ rfl w (zyZ w f d i)
noncomputable def z7H:Ev.Orc:=Ev.orcAdd (Ev.orcAdd z5I 324 (.bool true)) 318 (.bool true)
theorem z4V:Ev.runG Tryz.prog 100 (Ev.orcIn evL (Ev.orcAdd z5I 324 (.bool true))) 100000 318 []=some (.bool true):=by kernel_rfl
theorem zuN (w:World) (f:PowTab w) (d:BruTab w) (i:MaxVar w):Ev.OrcSound Tryz.prog 100 w.heap.size (Below w.heap.size w) (Ev.orcAdd z5I 324 (.bool true)):=
 (zyZ w f d i).add rfl ((enters_of Tryz.func324 (by kernel_rfl) rfl) #[]) fun W _ j=>aw14 W (zaH f j) (zaG d j) (zaA i j)
theorem Aw14 (w:World) (f:PowTab w) (d:BruTab w) (i:MaxVar w):Calls Tryz.prog 318 #[] w fun e w'=>e= .returned (.bool true)∧Below w.heap.size w w':=
 zbL z4V rfl w (zuN w f d i)
theorem zzP (w:World) (f:PowTab w) (d:BruTab w) (i:MaxVar w):Ev.OrcSound Tryz.prog 100 w.heap.size (Below w.heap.size w) z7H:=
 (zuN w f d i).add rfl ((enters_of Tryz.func318 (by kernel_rfl) rfl) #[]) fun W _ j=>Aw14 W (zaH f j) (zaG d j) (zaA i j)
theorem z6S:Ev.runG Tryz.prog 100 (Ev.orcIn evL z7H) 100000 302 []=some (.bool true):=by kernel_rfl
theorem aw15 (w:World) (f:PowTab w) (d:BruTab w) (i:MaxVar w):Calls Tryz.prog 302 #[] w fun e w'=>e= .returned (.bool true)∧Below w.heap.size w w':=
 zbL z6S rfl w (zzP w f d i)
noncomputable def z7X:Ev.Orc:=Ev.orcAdd (Ev.orcAdd z7H 302 (.bool true)) 269 (.bool true)
theorem z3G:Ev.runG Tryz.prog 100 (Ev.orcIn evL (Ev.orcAdd z7H 302 (.bool true))) 100000 269 []=some (.bool true):=by kernel_rfl
theorem zuF (w:World) (f:PowTab w) (d:BruTab w) (i:MaxVar w):Ev.OrcSound Tryz.prog 100 w.heap.size (Below w.heap.size w) (Ev.orcAdd z7H 302 (.bool true)):=
 (zzP w f d i).add rfl ((enters_of Tryz.func302 (by kernel_rfl) rfl) #[]) fun W _ j=>aw15 W (zaH f j) (zaG d j) (zaA i j)
theorem Aw15 (w:World) (f:PowTab w) (d:BruTab w) (i:MaxVar w):Calls Tryz.prog 269 #[] w fun e w'=>e= .returned (.bool true)∧Below w.heap.size w w':=
 zbL z3G rfl w (zuF w f d i)
theorem zzC (w:World) (f:PowTab w) (d:BruTab w) (i:MaxVar w):Ev.OrcSound Tryz.prog 100 w.heap.size (Below w.heap.size w) z7X:=
 (zuF w f d i).add rfl ((enters_of Tryz.func269 (by kernel_rfl) rfl) #[]) fun W _ j=>Aw15 W (zaH f j) (zaG d j) (zaA i j)
theorem z6G:Ev.runG Tryz.prog 100 (Ev.orcIn evL z7X) 100000 218 []=some (.bool true):=by kernel_rfl
theorem aw16 (w:World) (f:PowTab w) (d:BruTab w) (i:MaxVar w):Calls Tryz.prog 218 #[] w fun e w'=>e= .returned (.bool true)∧Below w.heap.size w w':=
 zbL z6G rfl w (zzC w f d i)
noncomputable def z6Z:Ev.Orc:=Ev.orcAdd (Ev.orcAdd z7X 218 (.bool true)) 150 (.bool true)
theorem z7A:Ev.runG Tryz.prog 100 (Ev.orcIn evL (Ev.orcAdd z7X 218 (.bool true))) 100000 150 []=some (.bool true):=by kernel_rfl
theorem zsP (w:World) (f:PowTab w) (d:BruTab w) (i:MaxVar w):Ev.OrcSound Tryz.prog 100 w.heap.size (Below w.heap.size w) (Ev.orcAdd z7X 218 (.bool true)):=
 (zzC w f d i).add rfl ((enters_of Tryz.func218 (by kernel_rfl) rfl) #[]) fun W _ j=>aw16 W (zaH f j) (zaG d j) (zaA i j)
theorem Aw16 (w:World) (f:PowTab w) (d:BruTab w) (i:MaxVar w):Calls Tryz.prog 150 #[] w fun e w'=>e= .returned (.bool true)∧Below w.heap.size w w':=
 zbL z7A rfl w (zsP w f d i)
theorem zxP (w:World) (f:PowTab w) (d:BruTab w) (i:MaxVar w):Ev.OrcSound Tryz.prog 100 w.heap.size (Below w.heap.size w) z6Z:=
 (zsP w f d i).add rfl ((enters_of Tryz.func150 (by kernel_rfl) rfl) #[]) fun W _ j=>Aw16 W (zaH f j) (zaG d j) (zaA i j)
theorem z8X:Ev.runG Tryz.prog 100 (Ev.orcIn evL z6Z) 100000 82 []=some (.bool true):=by kernel_rfl
theorem aw17 (w:World) (f:PowTab w) (d:BruTab w) (i:MaxVar w):Calls Tryz.prog 82 #[] w fun e w'=>e= .returned (.bool true)∧Below w.heap.size w w':=
 zbL z8X rfl w (zxP w f d i)
noncomputable def z7S:Ev.Orc:=Ev.orcAdd (Ev.orcAdd z6Z 82 (.bool true)) 36 (.bool true)
theorem z6E:Ev.runG Tryz.prog 100 (Ev.orcIn evL (Ev.orcAdd z6Z 82 (.bool true))) 100000 36 []=some (.bool true):=by kernel_rfl
theorem zuJ (w:World) (f:PowTab w) (d:BruTab w) (i:MaxVar w):Ev.OrcSound Tryz.prog 100 w.heap.size (Below w.heap.size w) (Ev.orcAdd z6Z 82 (.bool true)):=
 (zxP w f d i).add rfl ((enters_of Tryz.func82 (by kernel_rfl) rfl) #[]) fun W _ j=>aw17 W (zaH f j) (zaG d j) (zaA i j)
theorem Aw17 (w:World) (f:PowTab w) (d:BruTab w) (i:MaxVar w):Calls Tryz.prog 36 #[] w fun e w'=>e= .returned (.bool true)∧Below w.heap.size w w':=
 zbL z6E rfl w (zuJ w f d i)
theorem zyH (w:World) (f:PowTab w) (d:BruTab w) (i:MaxVar w):Ev.OrcSound Tryz.prog 100 w.heap.size (Below w.heap.size w) z7S:=
 (zuJ w f d i).add rfl ((enters_of Tryz.func36 (by kernel_rfl) rfl) #[]) fun W _ j=>Aw17 W (zaH f j) (zaG d j) (zaA i j)
theorem yaH:Ev.runG Tryz.prog 100 (Ev.orcIn evL z7S) 100000 8 []=some (.bool true):=by kernel_rfl
theorem aw18 (w:World) (f:PowTab w) (d:BruTab w) (i:MaxVar w):Calls Tryz.prog 8 #[] w fun e w'=>e= .returned (.bool true)∧Below w.heap.size w w':=
 zbL yaH rfl w (zyH w f d i)
noncomputable def orc18:Ev.Orc:=Ev.orcAdd (Ev.orcAdd z7S 8 (.bool true)) 58 (.bool true)
theorem z8V:Ev.runG Tryz.prog 100 (Ev.orcIn evL (Ev.orcAdd z7S 8 (.bool true))) 100000 58 []=some (.bool true):=by kernel_rfl
theorem zrJ (w:World) (f:PowTab w) (d:BruTab w) (i:MaxVar w):Ev.OrcSound Tryz.prog 100 w.heap.size (Below w.heap.size w) (Ev.orcAdd z7S 8 (.bool true)):=
 (zyH w f d i).add rfl ((enters_of Tryz.func8 (by kernel_rfl) rfl) #[]) fun W _ j=>aw18 W (zaH f j) (zaG d j) (zaA i j)
theorem Aw18 (w:World) (f:PowTab w) (d:BruTab w) (i:MaxVar w):Calls Tryz.prog 58 #[] w fun e w'=>e= .returned (.bool true)∧Below w.heap.size w w':=
 zbL z8V rfl w (zrJ w f d i)
theorem ydJ (w:World) (f:PowTab w) (d:BruTab w) (i:MaxVar w):Ev.OrcSound Tryz.prog 100 w.heap.size (Below w.heap.size w) orc18:=
 (zrJ w f d i).add rfl ((enters_of Tryz.func58 (by kernel_rfl) rfl) #[]) fun W _ j=>Aw18 W (zaH f j) (zaG d j) (zaA i j)
theorem z3F:Ev.runG Tryz.prog 100 (Ev.orcIn evL orc18) 100000 19 []=some (.bool true):=by kernel_rfl
theorem aw19 (w:World) (f:PowTab w) (d:BruTab w) (i:MaxVar w):Calls Tryz.prog 19 #[] w fun e w'=>e= .returned (.bool true)∧Below w.heap.size w w':=
 zbL z3F rfl w (ydJ w f d i)
end
end Go.Proofs.YtegmcmgndllmaaaGreatDoor
