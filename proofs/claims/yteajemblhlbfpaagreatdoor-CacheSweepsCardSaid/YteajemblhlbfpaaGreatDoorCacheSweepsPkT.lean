/-
  What the law CacheSweeps leans on, and its walk (19 of 21).
-/
import Derived.Test.YteajemblhlbfpaaGreatDoorEvB
import Derived.Shelf.Abstract
import Derived.Test.YteajemblhlbfpaaGreatDoorCacheSweepsPkI
import Derived.Test.YteajemblhlbfpaaGreatDoorCacheSweepsPkR
namespace Go.Proofs.YteajemblhlbfpaaGreatDoor
set_option maxRecDepth 100000
set_option maxHeartbeats 16000000
section
open Go.RowKit
noncomputable def zmT:Ev.Orc:=Ev.orcWith (Ev.orcWith (Ev.orcWith (Ev.orcWith (Ev.orcWith (Ev.orcWith (Ev.orcWith (Ev.orcWith (Ev.orcWith (Ev.orcNone) 196 Ev.oReplace) 183 Ev.oJoin) 93 Ev.oItoa) 258 Ev.oTz) 74 Ev.oLen) 261 Ev.oCount) 197 Ev.oIndex) 236 Ev.oNoEscape) 246 Ev.oIndexByte
theorem zfM (w:World) (p:PowTab w) (g:BruTab w) (f:MaxVar w):Ev.OrcSound Tryz.prog 100 w.heap.size (Below w.heap.size w) zmT:=by
 refine Ev.orcNone_sound|>.with ?o0|>.with ?o1|>.with ?o2|>.with ?o3|>.with ?o4|>.with ?o5|>.with ?o6|>.with ?o7|>.with ?o8
 case o0=>exact Ev.oReplace_ok (enters_of Tryz.func196 (by kernel_rfl) rfl) fun s o n W a i j y=>by obtain ⟨m,q⟩:=zaB f a;exact Tryz.strings_ReplaceAll s o n m W i q j y
 case o1=>exact Ev.oJoin_ok (enters_of Tryz.func183 (by kernel_rfl) rfl) fun B o c C z w i j y D A=>Tryz.strings_Join B o c C z w i j y D A
 case o2=>exact Ev.oItoa_ok (enters_of Tryz.func93 (by kernel_rfl) rfl) fun n W a i j=>(Tryz.strconv_Itoa n i j W (zaC p a)).mono (by rintro e w' ⟨rfl,k,os,rfl⟩;exact ⟨rfl,Lib.below_grow _ _ (Nat.le_refl _) _ _⟩)
 case o3=>exact Ev.oTz_ok (enters_of Tryz.func258 (by kernel_rfl) rfl) (fun W a=>(tz64_8 W (zaA g a)).mono fun _ _ h=>⟨h.1,h.2.symm⟩) (fun W a=>(zmK W (zaA g a)).mono fun _ _ h=>⟨h.1,h.2.symm⟩)
 case o4=>exact Ev.oLen_ok (enters_of Tryz.func74 (by kernel_rfl) rfl) fun x W i j=>Tryz.bits_Len64 x W i j
 case o5=>exact Ev.oCount_ok Tryz.func261 (by kernel_rfl) (by kernel_rfl) (by kernel_rfl) (by kernel_rfl)
 case o6=>exact Ev.oIndex_ok (enters_of Tryz.func197 (by kernel_rfl) rfl) fun s t W a h=>by obtain ⟨m,q⟩:=zaB f a;exact Tryz.stringslite_Index s t m W h q
 case o7=>exact Ev.oNoEscape_ok Tryz.func236 (by kernel_rfl) (by kernel_rfl) (by kernel_rfl) (by kernel_rfl)
 case o8=>exact Ev.oIndexByte_ok Tryz.func246 (by kernel_rfl) (by kernel_rfl) (by kernel_rfl) (by kernel_rfl)
theorem zkV:(Tryz.prog.funcs.toList.all fun f=> !(f.name== "runtime.NumGoroutine"))=true:=by kernel_rfl
theorem zfF:Ev.NoNum Tryz.prog:=fun g f h=>by
 have:=List.all_eq_true.1 zkV f (by simpa using Array.mem_of_getElem? h)
 simpa using this
theorem zfG:Tryz.prog.follows .mixedOrders=true:=by kernel_rfl
theorem zfN (w:World):Ev.Stays w.heap.size (Below w.heap.size w):=fun _ _ h k=>k.trans h
def evL:List Nat:=[7,21,34,44,61,74,75,90,93,102,104,134,141,181,183,196,197,215,236,239,246,253,258,261,262,263,265,267,269,274,280,287,288,289,291,296,303,308,310,311,312,313,314,316,317,318,319,320,321,322,323,324]
theorem zaF {a:Ev.Orc} {n:Nat} {f:FuncId} {v:Value} (h:Ev.runG Tryz.prog 100 (Ev.orcIn evL a) n f []=some v) (g:Ev.pf 100 6 v=true) (w:World) (i:Ev.OrcSound Tryz.prog 100 w.heap.size (Below w.heap.size w) a):
  Calls Tryz.prog f #[] w fun e w'=>e= .returned v∧Below w.heap.size w w':=
 Ev.runF_sound (zfN w) zfF zfG (Ev.orcIn_ok evL i) (Ev.runG_ok h) rfl g w rfl (Below.refl _ _)
def memoT:List (List UInt8×Nat×Nat×Nat):=[([48,46,48,46,48,46,48,47,56],0,281470681743360,104),
 ([49,48,46,48,46,48,46,48,47,56],0,281470849515520,104),
 ([49,48,48,46,54,52,46,48,46,48,47,49,48],0,281472363659264,106),
 ([49,50,55,46,48,46,48,46,48,47,56],0,281472812449792,104),
 ([49,54,57,46,50,53,52,46,48,46,48,47,49,54],0,281473533739008,112),
 ([49,55,50,46,49,54,46,48,46,48,47,49,50],0,281473568473088,108),
 ([49,57,50,46,48,46,48,46,48,47,50,52],0,281473902968832,120),
 ([49,57,50,46,48,46,50,46,48,47,50,52],0,281473902969344,120),
 ([49,57,50,46,56,56,46,57,57,46,48,47,50,52],0,281473908761344,120),
 ([49,57,50,46,49,54,56,46,48,46,48,47,49,54],0,281473913978880,112),
 ([49,57,56,46,49,56,46,48,46,48,47,49,53],0,281474004811776,111),
 ([49,57,56,46,53,49,46,49,48,48,46,48,47,50,52],0,281474007000064,120),
 ([50,48,51,46,48,46,49,49,51,46,48,47,50,52],0,281474087547136,120),
 ([50,50,52,46,48,46,48,46,48,47,52],0,281474439839744,100),
 ([50,52,48,46,48,46,48,46,48,47,52],0,281474708275200,100),
 ([58,58,47,49,50,56],0,0,128),
 ([58,58,49,47,49,50,56],0,1,128),
 ([54,52,58,102,102,57,98,58,49,58,58,47,52,56],28428538856144896,0,48),
 ([49,48,48,58,58,47,54,52],72057594037927936,0,64),
 ([50,48,48,49,58,58,47,50,51],2306124484190404608,0,23),
 ([50,48,48,49,58,100,98,56,58,58,47,51,50],2306139568115548160,0,32),
 ([51,102,102,102,58,58,47,50,48],4611404543450677248,0,20),
 ([53,102,48,48,58,58,47,49,54],6845471433603153920,0,16),
 ([102,99,48,48,58,58,47,55],18158513697557839872,0,7),
 ([102,101,56,48,58,58,47,49,48],18338657682652659712,0,10),
 ([102,101,99,48,58,58,47,49,48],18356672081162141696,0,10),
 ([102,102,48,48,58,58,47,56],18374686479671623680,0,8)]
def zmM (x:List UInt8×Nat×Nat×Nat):Value:= .tuple ⟨[.agg ⟨[.int .u64 (.ofNat x.2.1),.int .u64 (.ofNat x.2.2.1),.int .i64 (.ofNat x.2.2.2)]⟩,.bool true]⟩
def isPf (r:Option Value) (a b c:Nat):Bool:=match r with
 |some (.tuple ⟨[.agg ⟨[.int .u64 (.ofNat x),.int .u64 (.ofNat y),.int .i64 (.ofNat z)]⟩,.bool true]⟩)=>Nat.beq x a&&(Nat.beq y b&&Nat.beq z c)
 |_=>false
theorem zmV {r:Option Value} {x:List UInt8×Nat×Nat×Nat} (h:isPf r x.2.1 x.2.2.1 x.2.2.2=true):r=some (zmM x):=by
 unfold isPf at h
 split at h
 ·rw [Bool.and_eq_true,Bool.and_eq_true] at h
  unfold zmM
  rw [Nat.eq_of_beq_eq_true h.1,Nat.eq_of_beq_eq_true h.2.1,Nat.eq_of_beq_eq_true h.2.2]
 ·cases h
theorem zkQ:(memoT.all fun x=>isPf (Ev.runG Tryz.prog 100 (Ev.orcIn evL zmT) 100000 141 [.string ⟨x.1.toArray⟩]) x.2.1 x.2.2.1 x.2.2.2)=true:=by kernel_rfl
noncomputable def orcM:Ev.Orc:=Ev.orcWith zmT 141 (Ev.oMemo (memoT.map fun x=>(x.1,zmM x)))
theorem zmY (w:World) (f:PowTab w) (a:BruTab w) (g:MaxVar w):Ev.OrcSound Tryz.prog 100 w.heap.size (Below w.heap.size w) orcM:=by
 refine (zfM w f a g).with (Ev.oMemo_ok (enters_of Tryz.func141 (by kernel_rfl) rfl) (by kernel_rfl) fun x o W q i=> ?_)
 obtain ⟨y,j,rfl⟩:=List.mem_map.1 o
 have h:=zmV (List.all_eq_true.1 zkQ y j)
 have p:=Ev.runF_sound (zfN W) zfF zfG (Ev.orcIn_ok evL (zfM W (zaC f i) (zaA a i) (zaB g i))) (Ev.runG_ok h) rfl rfl W rfl (Below.refl _ _)
 simpa using p
def zhV:Ev.OrcH:=fun a _=>match a with
 |[.agg ⟨[.int .u64 (.ofNat hi),.int .u64 (.ofNat lo),.int .i64 (.ofNat n)]⟩]=>(match Nat.blt hi 18446744073709551616&&Nat.blt lo 18446744073709551616 with|true=>some (.bool (zaI (zaE hi lo) (n:Int)))|false=>none)
 |_=>none
theorem zhK {base:Nat} {T:World→Prop}:Ev.OrcFn Tryz.prog 100 base T 75 zhV:=by
 refine Ev.oFn_ok (enters_of Tryz.func75 (by kernel_rfl) rfl) fun g i v a=> ?_
 unfold zhV at a
 split at a
 ·split at a
  ·rename_i f
   cases a
   simp only [Bool.and_eq_true] at f
   refine ⟨rfl,rfl,fun W _ _=> ?_⟩
   exact zaN _ _ _ W (Ev.blt_ok f.1) (Ev.blt_ok f.2)
  ·cases a
 ·cases a
noncomputable def zdP:Ev.Orc:=Ev.orcWith orcM 75 zhV
theorem zeN (w:World) (a:PowTab w) (g:BruTab w) (f:MaxVar w):Ev.OrcSound Tryz.prog 100 w.heap.size (Below w.heap.size w) zdP:=(zmY w a g f).with zhK
def zeY:Ev.OrcH:=fun a _=>match a with
 |[.agg ⟨[.int .u64 (.ofNat hi),.int .u64 (.ofNat lo),.int .i64 (.ofNat n)]⟩,.agg ⟨[.int .u64 (.ofNat f),.int .u64 (.ofNat g),.int .i64 (.ofNat m)]⟩]=>(match (Nat.blt hi 18446744073709551616&&Nat.blt lo 18446744073709551616)&&(Nat.blt f 18446744073709551616&&Nat.blt g 18446744073709551616) with|true=>some (.bool (zaQ (zaE hi lo) (n:Int) (zaE f g) (m:Int)))|false=>none)
 |_=>none
theorem zhE {base:Nat} {T:World→Prop}:Ev.OrcFn Tryz.prog 100 base T 102 zeY:=by
 refine Ev.oFn_ok (enters_of Tryz.func102 (by kernel_rfl) rfl) fun g i v a=> ?_
 unfold zeY at a
 split at a
 ·split at a
  ·rename_i f
   cases a
   simp only [Bool.and_eq_true] at f
   refine ⟨rfl,rfl,fun W _ _=> ?_⟩
   exact zhC _ _ _ _ _ _ W (Ev.blt_ok f.1.1) (Ev.blt_ok f.1.2) (Ev.blt_ok f.2.1) (Ev.blt_ok f.2.2)
  ·cases a
 ·cases a
noncomputable def zcQ:Ev.Orc:=Ev.orcWith zdP 102 zeY
theorem zcX (w:World) (a:PowTab w) (g:BruTab w) (f:MaxVar w):Ev.OrcSound Tryz.prog 100 w.heap.size (Below w.heap.size w) zcQ:=(zeN w a g f).with zhE
def zeZ:Ev.OrcH:=fun a _=>match a with
 |[.agg ⟨[.int .u64 (.ofNat hi),.int .u64 (.ofNat lo),.int .i64 (.ofNat n)]⟩,.agg ⟨[.int .u64 (.ofNat f),.int .u64 (.ofNat g),.int .i64 (.ofNat k)]⟩]=>(match ((Nat.blt hi 18446744073709551616&&Nat.blt lo 18446744073709551616)&&(Nat.blt f 18446744073709551616&&Nat.blt g 18446744073709551616))&&(Nat.ble n 128&&Nat.ble k 128) with|true=>some (pfW (ofW (zaE f g) (zbT (zaE hi lo) n (zaE f g) k)) (zbT (zaE hi lo) n (zaE f g) k:Nat))|false=>none)
 |_=>none
theorem zgW {base:Nat} {T:World→Prop}:Ev.OrcFn Tryz.prog 100 base T 104 zeZ:=by
 refine Ev.oFn_ok (enters_of Tryz.func104 (by kernel_rfl) rfl) fun g i v f=> ?_
 unfold zeZ at f
 split at f
 ·split at f
  ·rename_i a
   cases f
   simp only [Bool.and_eq_true] at a
   refine ⟨rfl,rfl,fun W _ _=> ?_⟩
   exact zgS _ _ _ _ _ _ W (Ev.blt_ok a.1.1.1) (Ev.blt_ok a.1.1.2) (Ev.blt_ok a.1.2.1) (Ev.blt_ok a.1.2.2) (Nat.le_of_ble_eq_true a.2.1) (Nat.le_of_ble_eq_true a.2.2)
  ·cases f
 ·cases f
noncomputable def zaW:Ev.Orc:=Ev.orcWith zcQ 104 zeZ
theorem zbQ (w:World) (a:PowTab w) (g:BruTab w) (f:MaxVar w):Ev.OrcSound Tryz.prog 100 w.heap.size (Below w.heap.size w) zaW:=(zcX w a g f).with zgW
theorem ziO:Ev.runG Tryz.prog 100 (Ev.orcIn evL zaW) 100000 324 []=some (.bool true):=by kernel_rfl
theorem aw01 (w:World) (f:PowTab w) (a:BruTab w) (g:MaxVar w):Calls Tryz.prog 324 #[] w fun e w'=>e= .returned (.bool true)∧Below w.heap.size w w':=
 zaF ziO rfl w (zbQ w f a g)
noncomputable def ziI:Ev.Orc:=Ev.orcAdd (Ev.orcAdd zaW 324 (.bool true)) 323 (.bool true)
theorem zkL:Ev.runG Tryz.prog 100 (Ev.orcIn evL (Ev.orcAdd zaW 324 (.bool true))) 100000 323 []=some (.bool true):=by kernel_rfl
theorem zdN (w:World) (f:PowTab w) (a:BruTab w) (g:MaxVar w):Ev.OrcSound Tryz.prog 100 w.heap.size (Below w.heap.size w) (Ev.orcAdd zaW 324 (.bool true)):=
 (zbQ w f a g).add rfl ((enters_of Tryz.func324 (by kernel_rfl) rfl) #[]) fun W _ i=>aw01 W (zaC f i) (zaA a i) (zaB g i)
theorem Aw01 (w:World) (f:PowTab w) (a:BruTab w) (g:MaxVar w):Calls Tryz.prog 323 #[] w fun e w'=>e= .returned (.bool true)∧Below w.heap.size w w':=
 zaF zkL rfl w (zdN w f a g)
theorem zfS (w:World) (f:PowTab w) (a:BruTab w) (g:MaxVar w):Ev.OrcSound Tryz.prog 100 w.heap.size (Below w.heap.size w) ziI:=
 (zdN w f a g).add rfl ((enters_of Tryz.func323 (by kernel_rfl) rfl) #[]) fun W _ i=>Aw01 W (zaC f i) (zaA a i) (zaB g i)
theorem ziE:Ev.runG Tryz.prog 100 (Ev.orcIn evL ziI) 100000 322 []=some (.bool true):=by kernel_rfl
theorem aw02 (w:World) (f:PowTab w) (a:BruTab w) (g:MaxVar w):Calls Tryz.prog 322 #[] w fun e w'=>e= .returned (.bool true)∧Below w.heap.size w w':=
 zaF ziE rfl w (zfS w f a g)
noncomputable def zjH:Ev.Orc:=Ev.orcAdd (Ev.orcAdd ziI 322 (.bool true)) 321 (.bool true)
theorem zkE:Ev.runG Tryz.prog 100 (Ev.orcIn evL (Ev.orcAdd ziI 322 (.bool true))) 100000 321 []=some (.bool true):=by kernel_rfl
theorem zeO (w:World) (f:PowTab w) (a:BruTab w) (g:MaxVar w):Ev.OrcSound Tryz.prog 100 w.heap.size (Below w.heap.size w) (Ev.orcAdd ziI 322 (.bool true)):=
 (zfS w f a g).add rfl ((enters_of Tryz.func322 (by kernel_rfl) rfl) #[]) fun W _ i=>aw02 W (zaC f i) (zaA a i) (zaB g i)
theorem Aw02 (w:World) (f:PowTab w) (a:BruTab w) (g:MaxVar w):Calls Tryz.prog 321 #[] w fun e w'=>e= .returned (.bool true)∧Below w.heap.size w w':=
 zaF zkE rfl w (zeO w f a g)
theorem zfT (w:World) (f:PowTab w) (a:BruTab w) (g:MaxVar w):Ev.OrcSound Tryz.prog 100 w.heap.size (Below w.heap.size w) zjH:=
 (zeO w f a g).add rfl ((enters_of Tryz.func321 (by kernel_rfl) rfl) #[]) fun W _ i=>Aw02 W (zaC f i) (zaA a i) (zaB g i)
theorem zjC:Ev.runG Tryz.prog 100 (Ev.orcIn evL zjH) 100000 320 []=some (.bool true):=by kernel_rfl
theorem aw03 (w:World) (f:PowTab w) (a:BruTab w) (g:MaxVar w):Calls Tryz.prog 320 #[] w fun e w'=>e= .returned (.bool true)∧Below w.heap.size w w':=
 zaF zjC rfl w (zfT w f a g)
noncomputable def ziN:Ev.Orc:=Ev.orcAdd (Ev.orcAdd zjH 320 (.bool true)) 319 (.bool true)
theorem ziP:Ev.runG Tryz.prog 100 (Ev.orcIn evL (Ev.orcAdd zjH 320 (.bool true))) 100000 319 []=some (.bool true):=by kernel_rfl
theorem zdT (w:World) (f:PowTab w) (a:BruTab w) (g:MaxVar w):Ev.OrcSound Tryz.prog 100 w.heap.size (Below w.heap.size w) (Ev.orcAdd zjH 320 (.bool true)):=
 (zfT w f a g).add rfl ((enters_of Tryz.func320 (by kernel_rfl) rfl) #[]) fun W _ i=>aw03 W (zaC f i) (zaA a i) (zaB g i)
theorem Aw03 (w:World) (f:PowTab w) (a:BruTab w) (g:MaxVar w):Calls Tryz.prog 319 #[] w fun e w'=>e= .returned (.bool true)∧Below w.heap.size w w':=
 zaF ziP rfl w (zdT w f a g)
theorem zfQ (w:World) (f:PowTab w) (a:BruTab w) (g:MaxVar w):Ev.OrcSound Tryz.prog 100 w.heap.size (Below w.heap.size w) ziN:=
 (zdT w f a g).add rfl ((enters_of Tryz.func319 (by kernel_rfl) rfl) #[]) fun W _ i=>Aw03 W (zaC f i) (zaA a i) (zaB g i)
theorem zhT:Ev.runG Tryz.prog 100 (Ev.orcIn evL ziN) 100000 318 []=some (.bool true):=by kernel_rfl
theorem aw04 (w:World) (f:PowTab w) (a:BruTab w) (g:MaxVar w):Calls Tryz.prog 318 #[] w fun e w'=>e= .returned (.bool true)∧Below w.heap.size w w':=
 zaF zhT rfl w (zfQ w f a g)
noncomputable def zhS:Ev.Orc:=Ev.orcAdd (Ev.orcAdd ziN 318 (.bool true)) 317 (.bool true)
theorem zjI:Ev.runG Tryz.prog 100 (Ev.orcIn evL (Ev.orcAdd ziN 318 (.bool true))) 100000 317 []=some (.bool true):=by kernel_rfl
theorem zdM (w:World) (f:PowTab w) (a:BruTab w) (g:MaxVar w):Ev.OrcSound Tryz.prog 100 w.heap.size (Below w.heap.size w) (Ev.orcAdd ziN 318 (.bool true)):=
 (zfQ w f a g).add rfl ((enters_of Tryz.func318 (by kernel_rfl) rfl) #[]) fun W _ i=>aw04 W (zaC f i) (zaA a i) (zaB g i)
theorem Aw04 (w:World) (f:PowTab w) (a:BruTab w) (g:MaxVar w):Calls Tryz.prog 317 #[] w fun e w'=>e= .returned (.bool true)∧Below w.heap.size w w':=
 zaF zjI rfl w (zdM w f a g)
theorem zfL (w:World) (f:PowTab w) (a:BruTab w) (g:MaxVar w):Ev.OrcSound Tryz.prog 100 w.heap.size (Below w.heap.size w) zhS:=
 (zdM w f a g).add rfl ((enters_of Tryz.func317 (by kernel_rfl) rfl) #[]) fun W _ i=>Aw04 W (zaC f i) (zaA a i) (zaB g i)
theorem zhZ:Ev.runG Tryz.prog 100 (Ev.orcIn evL zhS) 100000 316 []=some (.bool true):=by kernel_rfl
theorem aw05 (w:World) (f:PowTab w) (a:BruTab w) (g:MaxVar w):Calls Tryz.prog 316 #[] w fun e w'=>e= .returned (.bool true)∧Below w.heap.size w w':=
 zaF zhZ rfl w (zfL w f a g)
noncomputable def zkD:Ev.Orc:=Ev.orcAdd (Ev.orcAdd zhS 316 (.bool true)) 314 (.bool true)
theorem zhM:Ev.runG Tryz.prog 100 (Ev.orcIn evL (Ev.orcAdd zhS 316 (.bool true))) 100000 314 []=some (.bool true):=by kernel_rfl
theorem zdW (w:World) (f:PowTab w) (a:BruTab w) (g:MaxVar w):Ev.OrcSound Tryz.prog 100 w.heap.size (Below w.heap.size w) (Ev.orcAdd zhS 316 (.bool true)):=
 (zfL w f a g).add rfl ((enters_of Tryz.func316 (by kernel_rfl) rfl) #[]) fun W _ i=>aw05 W (zaC f i) (zaA a i) (zaB g i)
theorem Aw05 (w:World) (f:PowTab w) (a:BruTab w) (g:MaxVar w):Calls Tryz.prog 314 #[] w fun e w'=>e= .returned (.bool true)∧Below w.heap.size w w':=
 zaF zhM rfl w (zdW w f a g)
theorem zfR (w:World) (f:PowTab w) (a:BruTab w) (g:MaxVar w):Ev.OrcSound Tryz.prog 100 w.heap.size (Below w.heap.size w) zkD:=
 (zdW w f a g).add rfl ((enters_of Tryz.func314 (by kernel_rfl) rfl) #[]) fun W _ i=>Aw05 W (zaC f i) (zaA a i) (zaB g i)
theorem zkP:Ev.runG Tryz.prog 100 (Ev.orcIn evL zkD) 100000 313 []=some (.bool true):=by kernel_rfl
theorem aw06 (w:World) (f:PowTab w) (a:BruTab w) (g:MaxVar w):Calls Tryz.prog 313 #[] w fun e w'=>e= .returned (.bool true)∧Below w.heap.size w w':=
 zaF zkP rfl w (zfR w f a g)
noncomputable def zjO:Ev.Orc:=Ev.orcAdd (Ev.orcAdd zkD 313 (.bool true)) 312 (.bool true)
theorem zkN:Ev.runG Tryz.prog 100 (Ev.orcIn evL (Ev.orcAdd zkD 313 (.bool true))) 100000 312 []=some (.bool true):=by kernel_rfl
theorem zeF (w:World) (f:PowTab w) (a:BruTab w) (g:MaxVar w):Ev.OrcSound Tryz.prog 100 w.heap.size (Below w.heap.size w) (Ev.orcAdd zkD 313 (.bool true)):=
 (zfR w f a g).add rfl ((enters_of Tryz.func313 (by kernel_rfl) rfl) #[]) fun W _ i=>aw06 W (zaC f i) (zaA a i) (zaB g i)
theorem Aw06 (w:World) (f:PowTab w) (a:BruTab w) (g:MaxVar w):Calls Tryz.prog 312 #[] w fun e w'=>e= .returned (.bool true)∧Below w.heap.size w w':=
 zaF zkN rfl w (zeF w f a g)
theorem zgM (w:World) (f:PowTab w) (a:BruTab w) (g:MaxVar w):Ev.OrcSound Tryz.prog 100 w.heap.size (Below w.heap.size w) zjO:=
 (zeF w f a g).add rfl ((enters_of Tryz.func312 (by kernel_rfl) rfl) #[]) fun W _ i=>Aw06 W (zaC f i) (zaA a i) (zaB g i)
theorem ziC:Ev.runG Tryz.prog 100 (Ev.orcIn evL zjO) 100000 311 []=some (.bool true):=by kernel_rfl
theorem aw07 (w:World) (f:PowTab w) (a:BruTab w) (g:MaxVar w):Calls Tryz.prog 311 #[] w fun e w'=>e= .returned (.bool true)∧Below w.heap.size w w':=
 zaF ziC rfl w (zgM w f a g)
noncomputable def ziX:Ev.Orc:=Ev.orcAdd (Ev.orcAdd zjO 311 (.bool true)) 310 (.bool true)
theorem zhN:Ev.runG Tryz.prog 100 (Ev.orcIn evL (Ev.orcAdd zjO 311 (.bool true))) 100000 310 []=some (.bool true):=by kernel_rfl
theorem zdQ (w:World) (f:PowTab w) (a:BruTab w) (g:MaxVar w):Ev.OrcSound Tryz.prog 100 w.heap.size (Below w.heap.size w) (Ev.orcAdd zjO 311 (.bool true)):=
 (zgM w f a g).add rfl ((enters_of Tryz.func311 (by kernel_rfl) rfl) #[]) fun W _ i=>aw07 W (zaC f i) (zaA a i) (zaB g i)
theorem Aw07 (w:World) (f:PowTab w) (a:BruTab w) (g:MaxVar w):Calls Tryz.prog 310 #[] w fun e w'=>e= .returned (.bool true)∧Below w.heap.size w w':=
 zaF zhN rfl w (zdQ w f a g)
theorem zgC (w:World) (f:PowTab w) (a:BruTab w) (g:MaxVar w):Ev.OrcSound Tryz.prog 100 w.heap.size (Below w.heap.size w) ziX:=
 (zdQ w f a g).add rfl ((enters_of Tryz.func310 (by kernel_rfl) rfl) #[]) fun W _ i=>Aw07 W (zaC f i) (zaA a i) (zaB g i)
theorem ziM:Ev.runG Tryz.prog 100 (Ev.orcIn evL ziX) 100000 308 []=some (.bool true):=by kernel_rfl
theorem aw08 (w:World) (f:PowTab w) (a:BruTab w) (g:MaxVar w):Calls Tryz.prog 308 #[] w fun e w'=>e= .returned (.bool true)∧Below w.heap.size w w':=
 zaF ziM rfl w (zgC w f a g)
noncomputable def ziA:Ev.Orc:=Ev.orcAdd (Ev.orcAdd ziX 308 (.bool true)) 303 (.bool true)
theorem zjE:Ev.runG Tryz.prog 100 (Ev.orcIn evL (Ev.orcAdd ziX 308 (.bool true))) 100000 303 []=some (.bool true):=by kernel_rfl
theorem zeQ (w:World) (f:PowTab w) (a:BruTab w) (g:MaxVar w):Ev.OrcSound Tryz.prog 100 w.heap.size (Below w.heap.size w) (Ev.orcAdd ziX 308 (.bool true)):=
 (zgC w f a g).add rfl ((enters_of Tryz.func308 (by kernel_rfl) rfl) #[]) fun W _ i=>aw08 W (zaC f i) (zaA a i) (zaB g i)
theorem Aw08 (w:World) (f:PowTab w) (a:BruTab w) (g:MaxVar w):Calls Tryz.prog 303 #[] w fun e w'=>e= .returned (.bool true)∧Below w.heap.size w w':=
 zaF zjE rfl w (zeQ w f a g)
theorem zfW (w:World) (f:PowTab w) (a:BruTab w) (g:MaxVar w):Ev.OrcSound Tryz.prog 100 w.heap.size (Below w.heap.size w) ziA:=
 (zeQ w f a g).add rfl ((enters_of Tryz.func303 (by kernel_rfl) rfl) #[]) fun W _ i=>Aw08 W (zaC f i) (zaA a i) (zaB g i)
theorem zkG:Ev.runG Tryz.prog 100 (Ev.orcIn evL ziA) 100000 296 []=some (.bool true):=by kernel_rfl
theorem aw09 (w:World) (f:PowTab w) (a:BruTab w) (g:MaxVar w):Calls Tryz.prog 296 #[] w fun e w'=>e= .returned (.bool true)∧Below w.heap.size w w':=
 zaF zkG rfl w (zfW w f a g)
noncomputable def ziV:Ev.Orc:=Ev.orcAdd (Ev.orcAdd ziA 296 (.bool true)) 291 (.bool true)
theorem ziH:Ev.runG Tryz.prog 100 (Ev.orcIn evL (Ev.orcAdd ziA 296 (.bool true))) 100000 291 []=some (.bool true):=by kernel_rfl
theorem zeS (w:World) (f:PowTab w) (a:BruTab w) (g:MaxVar w):Ev.OrcSound Tryz.prog 100 w.heap.size (Below w.heap.size w) (Ev.orcAdd ziA 296 (.bool true)):=
 (zfW w f a g).add rfl ((enters_of Tryz.func296 (by kernel_rfl) rfl) #[]) fun W _ i=>aw09 W (zaC f i) (zaA a i) (zaB g i)
theorem Aw09 (w:World) (f:PowTab w) (a:BruTab w) (g:MaxVar w):Calls Tryz.prog 291 #[] w fun e w'=>e= .returned (.bool true)∧Below w.heap.size w w':=
 zaF ziH rfl w (zeS w f a g)
theorem zgI (w:World) (f:PowTab w) (a:BruTab w) (g:MaxVar w):Ev.OrcSound Tryz.prog 100 w.heap.size (Below w.heap.size w) ziV:=
 (zeS w f a g).add rfl ((enters_of Tryz.func291 (by kernel_rfl) rfl) #[]) fun W _ i=>Aw09 W (zaC f i) (zaA a i) (zaB g i)
theorem zjA:Ev.runG Tryz.prog 100 (Ev.orcIn evL ziV) 100000 289 []=some (.bool true):=by kernel_rfl
theorem aw10 (w:World) (f:PowTab w) (a:BruTab w) (g:MaxVar w):Calls Tryz.prog 289 #[] w fun e w'=>e= .returned (.bool true)∧Below w.heap.size w w':=
 zaF zjA rfl w (zgI w f a g)
noncomputable def zkH:Ev.Orc:=Ev.orcAdd (Ev.orcAdd ziV 289 (.bool true)) 288 (.bool true)
theorem zkJ:Ev.runG Tryz.prog 100 (Ev.orcIn evL (Ev.orcAdd ziV 289 (.bool true))) 100000 288 []=some (.bool true):=by kernel_rfl
theorem zdS (w:World) (f:PowTab w) (a:BruTab w) (g:MaxVar w):Ev.OrcSound Tryz.prog 100 w.heap.size (Below w.heap.size w) (Ev.orcAdd ziV 289 (.bool true)):=
 (zgI w f a g).add rfl ((enters_of Tryz.func289 (by kernel_rfl) rfl) #[]) fun W _ i=>aw10 W (zaC f i) (zaA a i) (zaB g i)
theorem Aw10 (w:World) (f:PowTab w) (a:BruTab w) (g:MaxVar w):Calls Tryz.prog 288 #[] w fun e w'=>e= .returned (.bool true)∧Below w.heap.size w w':=
 zaF zkJ rfl w (zdS w f a g)
theorem zgF (w:World) (f:PowTab w) (a:BruTab w) (g:MaxVar w):Ev.OrcSound Tryz.prog 100 w.heap.size (Below w.heap.size w) zkH:=
 (zdS w f a g).add rfl ((enters_of Tryz.func288 (by kernel_rfl) rfl) #[]) fun W _ i=>Aw10 W (zaC f i) (zaA a i) (zaB g i)
theorem ziG:Ev.runG Tryz.prog 100 (Ev.orcIn evL zkH) 100000 287 []=some (.bool true):=by kernel_rfl
theorem aw11 (w:World) (f:PowTab w) (a:BruTab w) (g:MaxVar w):Calls Tryz.prog 287 #[] w fun e w'=>e= .returned (.bool true)∧Below w.heap.size w w':=
 zaF ziG rfl w (zgF w f a g)
noncomputable def zjB:Ev.Orc:=Ev.orcAdd (Ev.orcAdd zkH 287 (.bool true)) 280 (.bool true)
theorem ziK:Ev.runG Tryz.prog 100 (Ev.orcIn evL (Ev.orcAdd zkH 287 (.bool true))) 100000 280 []=some (.bool true):=by kernel_rfl
theorem zeJ (w:World) (f:PowTab w) (a:BruTab w) (g:MaxVar w):Ev.OrcSound Tryz.prog 100 w.heap.size (Below w.heap.size w) (Ev.orcAdd zkH 287 (.bool true)):=
 (zgF w f a g).add rfl ((enters_of Tryz.func287 (by kernel_rfl) rfl) #[]) fun W _ i=>aw11 W (zaC f i) (zaA a i) (zaB g i)
theorem Aw11 (w:World) (f:PowTab w) (a:BruTab w) (g:MaxVar w):Calls Tryz.prog 280 #[] w fun e w'=>e= .returned (.bool true)∧Below w.heap.size w w':=
 zaF ziK rfl w (zeJ w f a g)
theorem zfI (w:World) (f:PowTab w) (a:BruTab w) (g:MaxVar w):Ev.OrcSound Tryz.prog 100 w.heap.size (Below w.heap.size w) zjB:=
 (zeJ w f a g).add rfl ((enters_of Tryz.func280 (by kernel_rfl) rfl) #[]) fun W _ i=>Aw11 W (zaC f i) (zaA a i) (zaB g i)
theorem zkR:Ev.runG Tryz.prog 100 (Ev.orcIn evL zjB) 100000 274 []=some (.bool true):=by kernel_rfl
theorem aw12 (w:World) (f:PowTab w) (a:BruTab w) (g:MaxVar w):Calls Tryz.prog 274 #[] w fun e w'=>e= .returned (.bool true)∧Below w.heap.size w w':=
 zaF zkR rfl w (zfI w f a g)
noncomputable def ziW:Ev.Orc:=Ev.orcAdd (Ev.orcAdd zjB 274 (.bool true)) 269 (.bool true)
theorem ziZ:Ev.runG Tryz.prog 100 (Ev.orcIn evL (Ev.orcAdd zjB 274 (.bool true))) 100000 269 []=some (.bool true):=by kernel_rfl
theorem zeE (w:World) (f:PowTab w) (a:BruTab w) (g:MaxVar w):Ev.OrcSound Tryz.prog 100 w.heap.size (Below w.heap.size w) (Ev.orcAdd zjB 274 (.bool true)):=
 (zfI w f a g).add rfl ((enters_of Tryz.func274 (by kernel_rfl) rfl) #[]) fun W _ i=>aw12 W (zaC f i) (zaA a i) (zaB g i)
theorem Aw12 (w:World) (f:PowTab w) (a:BruTab w) (g:MaxVar w):Calls Tryz.prog 269 #[] w fun e w'=>e= .returned (.bool true)∧Below w.heap.size w w':=
 zaF ziZ rfl w (zeE w f a g)
theorem zgB (w:World) (f:PowTab w) (a:BruTab w) (g:MaxVar w):Ev.OrcSound Tryz.prog 100 w.heap.size (Below w.heap.size w) ziW:=
 (zeE w f a g).add rfl ((enters_of Tryz.func269 (by kernel_rfl) rfl) #[]) fun W _ i=>Aw12 W (zaC f i) (zaA a i) (zaB g i)
theorem zkA:Ev.runG Tryz.prog 100 (Ev.orcIn evL ziW) 100000 267 []=some (.bool true):=by kernel_rfl
theorem aw13 (w:World) (f:PowTab w) (a:BruTab w) (g:MaxVar w):Calls Tryz.prog 267 #[] w fun e w'=>e= .returned (.bool true)∧Below w.heap.size w w':=
 zaF zkA rfl w (zgB w f a g)
noncomputable def zhQ:Ev.Orc:=Ev.orcAdd (Ev.orcAdd ziW 267 (.bool true)) 265 (.bool true)
theorem zjU:Ev.runG Tryz.prog 100 (Ev.orcIn evL (Ev.orcAdd ziW 267 (.bool true))) 100000 265 []=some (.bool true):=by kernel_rfl
theorem zdI (w:World) (f:PowTab w) (a:BruTab w) (g:MaxVar w):Ev.OrcSound Tryz.prog 100 w.heap.size (Below w.heap.size w) (Ev.orcAdd ziW 267 (.bool true)):=
 (zgB w f a g).add rfl ((enters_of Tryz.func267 (by kernel_rfl) rfl) #[]) fun W _ i=>aw13 W (zaC f i) (zaA a i) (zaB g i)
theorem Aw13 (w:World) (f:PowTab w) (a:BruTab w) (g:MaxVar w):Calls Tryz.prog 265 #[] w fun e w'=>e= .returned (.bool true)∧Below w.heap.size w w':=
 zaF zjU rfl w (zdI w f a g)
theorem zfK (w:World) (f:PowTab w) (a:BruTab w) (g:MaxVar w):Ev.OrcSound Tryz.prog 100 w.heap.size (Below w.heap.size w) zhQ:=
 (zdI w f a g).add rfl ((enters_of Tryz.func265 (by kernel_rfl) rfl) #[]) fun W _ i=>Aw13 W (zaC f i) (zaA a i) (zaB g i)
theorem zjD:Ev.runG Tryz.prog 100 (Ev.orcIn evL zhQ) 100000 263 []=some (.bool true):=by kernel_rfl
theorem aw14 (w:World) (f:PowTab w) (a:BruTab w) (g:MaxVar w):Calls Tryz.prog 263 #[] w fun e w'=>e= .returned (.bool true)∧Below w.heap.size w w':=
 zaF zjD rfl w (zfK w f a g)
noncomputable def zjW:Ev.Orc:=Ev.orcAdd (Ev.orcAdd zhQ 263 (.bool true)) 262 (.bool true)
theorem zhJ:Ev.runG Tryz.prog 100 (Ev.orcIn evL (Ev.orcAdd zhQ 263 (.bool true))) 100000 262 []=some (.bool true):=by kernel_rfl
theorem zdJ (w:World) (f:PowTab w) (a:BruTab w) (g:MaxVar w):Ev.OrcSound Tryz.prog 100 w.heap.size (Below w.heap.size w) (Ev.orcAdd zhQ 263 (.bool true)):=
 (zfK w f a g).add rfl ((enters_of Tryz.func263 (by kernel_rfl) rfl) #[]) fun W _ i=>aw14 W (zaC f i) (zaA a i) (zaB g i)
theorem Aw14 (w:World) (f:PowTab w) (a:BruTab w) (g:MaxVar w):Calls Tryz.prog 262 #[] w fun e w'=>e= .returned (.bool true)∧Below w.heap.size w w':=
 zaF zhJ rfl w (zdJ w f a g)
theorem zfH (w:World) (f:PowTab w) (a:BruTab w) (g:MaxVar w):Ev.OrcSound Tryz.prog 100 w.heap.size (Below w.heap.size w) zjW:=
 (zdJ w f a g).add rfl ((enters_of Tryz.func262 (by kernel_rfl) rfl) #[]) fun W _ i=>Aw14 W (zaC f i) (zaA a i) (zaB g i)
theorem ziR:Ev.runG Tryz.prog 100 (Ev.orcIn evL zjW) 100000 253 []=some (.bool true):=by kernel_rfl
theorem aw15 (w:World) (f:PowTab w) (a:BruTab w) (g:MaxVar w):Calls Tryz.prog 253 #[] w fun e w'=>e= .returned (.bool true)∧Below w.heap.size w w':=
 zaF ziR rfl w (zfH w f a g)
noncomputable def zjL:Ev.Orc:=Ev.orcAdd (Ev.orcAdd zjW 253 (.bool true)) 239 (.bool true)
theorem zhG:Ev.runG Tryz.prog 100 (Ev.orcIn evL (Ev.orcAdd zjW 253 (.bool true))) 100000 239 []=some (.bool true):=by kernel_rfl
theorem zeI (w:World) (f:PowTab w) (a:BruTab w) (g:MaxVar w):Ev.OrcSound Tryz.prog 100 w.heap.size (Below w.heap.size w) (Ev.orcAdd zjW 253 (.bool true)):=
 (zfH w f a g).add rfl ((enters_of Tryz.func253 (by kernel_rfl) rfl) #[]) fun W _ i=>aw15 W (zaC f i) (zaA a i) (zaB g i)
theorem Aw15 (w:World) (f:PowTab w) (a:BruTab w) (g:MaxVar w):Calls Tryz.prog 239 #[] w fun e w'=>e= .returned (.bool true)∧Below w.heap.size w w':=
 zaF zhG rfl w (zeI w f a g)
theorem zfU (w:World) (f:PowTab w) (a:BruTab w) (g:MaxVar w):Ev.OrcSound Tryz.prog 100 w.heap.size (Below w.heap.size w) zjL:=
 (zeI w f a g).add rfl ((enters_of Tryz.func239 (by kernel_rfl) rfl) #[]) fun W _ i=>Aw15 W (zaC f i) (zaA a i) (zaB g i)
theorem zjG:Ev.runG Tryz.prog 100 (Ev.orcIn evL zjL) 100000 215 []=some (.bool true):=by kernel_rfl
theorem aw16 (w:World) (f:PowTab w) (a:BruTab w) (g:MaxVar w):Calls Tryz.prog 215 #[] w fun e w'=>e= .returned (.bool true)∧Below w.heap.size w w':=
 zaF zjG rfl w (zfU w f a g)
noncomputable def zkB:Ev.Orc:=Ev.orcAdd (Ev.orcAdd zjL 215 (.bool true)) 181 (.bool true)
theorem zkK:Ev.runG Tryz.prog 100 (Ev.orcIn evL (Ev.orcAdd zjL 215 (.bool true))) 100000 181 []=some (.bool true):=by kernel_rfl
theorem zdL (w:World) (f:PowTab w) (a:BruTab w) (g:MaxVar w):Ev.OrcSound Tryz.prog 100 w.heap.size (Below w.heap.size w) (Ev.orcAdd zjL 215 (.bool true)):=
 (zfU w f a g).add rfl ((enters_of Tryz.func215 (by kernel_rfl) rfl) #[]) fun W _ i=>aw16 W (zaC f i) (zaA a i) (zaB g i)
theorem Aw16 (w:World) (f:PowTab w) (a:BruTab w) (g:MaxVar w):Calls Tryz.prog 181 #[] w fun e w'=>e= .returned (.bool true)∧Below w.heap.size w w':=
 zaF zkK rfl w (zdL w f a g)
theorem zfJ (w:World) (f:PowTab w) (a:BruTab w) (g:MaxVar w):Ev.OrcSound Tryz.prog 100 w.heap.size (Below w.heap.size w) zkB:=
 (zdL w f a g).add rfl ((enters_of Tryz.func181 (by kernel_rfl) rfl) #[]) fun W _ i=>Aw16 W (zaC f i) (zaA a i) (zaB g i)
theorem zjR:Ev.runG Tryz.prog 100 (Ev.orcIn evL zkB) 100000 134 []=some (.bool true):=by kernel_rfl
theorem aw17 (w:World) (f:PowTab w) (a:BruTab w) (g:MaxVar w):Calls Tryz.prog 134 #[] w fun e w'=>e= .returned (.bool true)∧Below w.heap.size w w':=
 zaF zjR rfl w (zfJ w f a g)
noncomputable def zjF:Ev.Orc:=Ev.orcAdd (Ev.orcAdd zkB 134 (.bool true)) 90 (.bool true)
theorem zkM:Ev.runG Tryz.prog 100 (Ev.orcIn evL (Ev.orcAdd zkB 134 (.bool true))) 100000 90 []=some (.bool true):=by kernel_rfl
theorem zeL (w:World) (f:PowTab w) (a:BruTab w) (g:MaxVar w):Ev.OrcSound Tryz.prog 100 w.heap.size (Below w.heap.size w) (Ev.orcAdd zkB 134 (.bool true)):=
 (zfJ w f a g).add rfl ((enters_of Tryz.func134 (by kernel_rfl) rfl) #[]) fun W _ i=>aw17 W (zaC f i) (zaA a i) (zaB g i)
theorem Aw17 (w:World) (f:PowTab w) (a:BruTab w) (g:MaxVar w):Calls Tryz.prog 90 #[] w fun e w'=>e= .returned (.bool true)∧Below w.heap.size w w':=
 zaF zkM rfl w (zeL w f a g)
theorem zfY (w:World) (f:PowTab w) (a:BruTab w) (g:MaxVar w):Ev.OrcSound Tryz.prog 100 w.heap.size (Below w.heap.size w) zjF:=
 (zeL w f a g).add rfl ((enters_of Tryz.func90 (by kernel_rfl) rfl) #[]) fun W _ i=>Aw17 W (zaC f i) (zaA a i) (zaB g i)
theorem zjY:Ev.runG Tryz.prog 100 (Ev.orcIn evL zjF) 100000 61 []=some (.bool true):=by kernel_rfl
theorem aw18 (w:World) (f:PowTab w) (a:BruTab w) (g:MaxVar w):Calls Tryz.prog 61 #[] w fun e w'=>e= .returned (.bool true)∧Below w.heap.size w w':=
 zaF zjY rfl w (zfY w f a g)
noncomputable def zkC:Ev.Orc:=Ev.orcAdd (Ev.orcAdd zjF 61 (.bool true)) 44 (.bool true)
theorem zjQ:Ev.runG Tryz.prog 100 (Ev.orcIn evL (Ev.orcAdd zjF 61 (.bool true))) 100000 44 []=some (.bool true):=by kernel_rfl
theorem zeG (w:World) (f:PowTab w) (a:BruTab w) (g:MaxVar w):Ev.OrcSound Tryz.prog 100 w.heap.size (Below w.heap.size w) (Ev.orcAdd zjF 61 (.bool true)):=
 (zfY w f a g).add rfl ((enters_of Tryz.func61 (by kernel_rfl) rfl) #[]) fun W _ i=>aw18 W (zaC f i) (zaA a i) (zaB g i)
theorem Aw18 (w:World) (f:PowTab w) (a:BruTab w) (g:MaxVar w):Calls Tryz.prog 44 #[] w fun e w'=>e= .returned (.bool true)∧Below w.heap.size w w':=
 zaF zjQ rfl w (zeG w f a g)
theorem zfV (w:World) (f:PowTab w) (a:BruTab w) (g:MaxVar w):Ev.OrcSound Tryz.prog 100 w.heap.size (Below w.heap.size w) zkC:=
 (zeG w f a g).add rfl ((enters_of Tryz.func44 (by kernel_rfl) rfl) #[]) fun W _ i=>Aw18 W (zaC f i) (zaA a i) (zaB g i)
theorem zhI:Ev.runG Tryz.prog 100 (Ev.orcIn evL zkC) 100000 34 []=some (.bool true):=by kernel_rfl
theorem aw19 (w:World) (f:PowTab w) (a:BruTab w) (g:MaxVar w):Calls Tryz.prog 34 #[] w fun e w'=>e= .returned (.bool true)∧Below w.heap.size w w':=
 zaF zhI rfl w (zfV w f a g)
noncomputable def orc19:Ev.Orc:=Ev.orcAdd (Ev.orcAdd zkC 34 (.bool true)) 21 (.bool true)
theorem zhF:Ev.runG Tryz.prog 100 (Ev.orcIn evL (Ev.orcAdd zkC 34 (.bool true))) 100000 21 []=some (.bool true):=by kernel_rfl
theorem zdZ (w:World) (f:PowTab w) (a:BruTab w) (g:MaxVar w):Ev.OrcSound Tryz.prog 100 w.heap.size (Below w.heap.size w) (Ev.orcAdd zkC 34 (.bool true)):=
 (zfV w f a g).add rfl ((enters_of Tryz.func34 (by kernel_rfl) rfl) #[]) fun W _ i=>aw19 W (zaC f i) (zaA a i) (zaB g i)
theorem Aw19 (w:World) (f:PowTab w) (a:BruTab w) (g:MaxVar w):Calls Tryz.prog 21 #[] w fun e w'=>e= .returned (.bool true)∧Below w.heap.size w w':=
 zaF zhF rfl w (zdZ w f a g)
theorem zlA (w:World) (f:PowTab w) (a:BruTab w) (g:MaxVar w):Ev.OrcSound Tryz.prog 100 w.heap.size (Below w.heap.size w) orc19:=
 (zdZ w f a g).add rfl ((enters_of Tryz.func21 (by kernel_rfl) rfl) #[]) fun W _ i=>Aw19 W (zaC f i) (zaA a i) (zaB g i)
theorem ziL:Ev.runG Tryz.prog 100 (Ev.orcIn evL orc19) 100000 7 []=some (.bool true):=by kernel_rfl
theorem aw20 (w:World) (f:PowTab w) (a:BruTab w) (g:MaxVar w):Calls Tryz.prog 7 #[] w fun e w'=>e= .returned (.bool true)∧Below w.heap.size w w':=
 zaF ziL rfl w (zlA w f a g)
end
end Go.Proofs.YteajemblhlbfpaaGreatDoor
