/-
  What the law CachePlays leans on, and its walk (19 of 21).
-/
import Derived.Test.YteajemblhlbfpaaGreatDoorEvB
import Derived.Shelf.Abstract
import Derived.Test.YteajemblhlbfpaaGreatDoorCachePlaysPkI
import Derived.Test.YteajemblhlbfpaaGreatDoorCachePlaysPkR
namespace Go.Proofs.YteajemblhlbfpaaGreatDoor
set_option maxRecDepth 100000
set_option maxHeartbeats 16000000
section
open Go.RowKit
noncomputable def zoJ:Ev.Orc:=Ev.orcWith (Ev.orcWith (Ev.orcWith (Ev.orcWith (Ev.orcWith (Ev.orcWith (Ev.orcWith (Ev.orcWith (Ev.orcWith (Ev.orcNone) 196 Ev.oReplace) 183 Ev.oJoin) 93 Ev.oItoa) 258 Ev.oTz) 74 Ev.oLen) 261 Ev.oCount) 197 Ev.oIndex) 236 Ev.oNoEscape) 246 Ev.oIndexByte
theorem zgK (w:World) (y:PowTab w) (g:BruTab w) (i:MaxVar w):Ev.OrcSound Tryz.prog 100 w.heap.size (Below w.heap.size w) zoJ:=by
 refine Ev.orcNone_sound|>.with ?o0|>.with ?o1|>.with ?o2|>.with ?o3|>.with ?o4|>.with ?o5|>.with ?o6|>.with ?o7|>.with ?o8
 case o0=>exact Ev.oReplace_ok (enters_of Tryz.func196 (by kernel_rfl) rfl) fun s o n W f p j C=>by obtain ⟨m,A⟩:=zaB i f;exact Tryz.strings_ReplaceAll s o n m W p A j C
 case o1=>exact Ev.oJoin_ok (enters_of Tryz.func183 (by kernel_rfl) rfl) fun H o c D B w p j C G E=>Tryz.strings_Join H o c D B w p j C G E
 case o2=>exact Ev.oItoa_ok (enters_of Tryz.func93 (by kernel_rfl) rfl) fun n W f p j=>(Tryz.strconv_Itoa n p j W (zaC y f)).mono (by rintro e w' ⟨rfl,k,os,rfl⟩;exact ⟨rfl,Lib.below_grow _ _ (Nat.le_refl _) _ _⟩)
 case o3=>exact Ev.oTz_ok (enters_of Tryz.func258 (by kernel_rfl) rfl) (fun W f=>(tz64_8 W (zaA g f)).mono fun _ _ h=>⟨h.1,h.2.symm⟩) (fun W f=>(zoG W (zaA g f)).mono fun _ _ h=>⟨h.1,h.2.symm⟩)
 case o4=>exact Ev.oLen_ok (enters_of Tryz.func74 (by kernel_rfl) rfl) fun x W p j=>Tryz.bits_Len64 x W p j
 case o5=>exact Ev.oCount_ok Tryz.func261 (by kernel_rfl) (by kernel_rfl) (by kernel_rfl) (by kernel_rfl)
 case o6=>exact Ev.oIndex_ok (enters_of Tryz.func197 (by kernel_rfl) rfl) fun s t W f h=>by obtain ⟨m,A⟩:=zaB i f;exact Tryz.stringslite_Index s t m W h A
 case o7=>exact Ev.oNoEscape_ok Tryz.func236 (by kernel_rfl) (by kernel_rfl) (by kernel_rfl) (by kernel_rfl)
 case o8=>exact Ev.oIndexByte_ok Tryz.func246 (by kernel_rfl) (by kernel_rfl) (by kernel_rfl) (by kernel_rfl)
theorem zmE:(Tryz.prog.funcs.toList.all fun f=> !(f.name== "runtime.NumGoroutine"))=true:=by kernel_rfl
theorem zhD:Ev.NoNum Tryz.prog:=fun g f h=>by
 have:=List.all_eq_true.1 zmE f (by simpa using Array.mem_of_getElem? h)
 simpa using this
theorem zhL:Tryz.prog.follows .mixedOrders=true:=by kernel_rfl
theorem zgF (w:World):Ev.Stays w.heap.size (Below w.heap.size w):=fun _ _ h k=>k.trans h
def evL:List Nat:=[7,21,34,44,61,74,75,90,93,102,104,134,141,181,183,196,197,215,236,239,246,253,258,261,262,263,265,267,269,274,280,287,288,289,291,296,303,308,310,311,312,313,314,316,317,318,319,320,321,322,323,324]
theorem zaG {g:Ev.Orc} {n:Nat} {f:FuncId} {v:Value} (h:Ev.runG Tryz.prog 100 (Ev.orcIn evL g) n f []=some v) (i:Ev.pf 100 6 v=true) (w:World) (j:Ev.OrcSound Tryz.prog 100 w.heap.size (Below w.heap.size w) g):
  Calls Tryz.prog f #[] w fun e w'=>e= .returned v∧Below w.heap.size w w':=
 Ev.runF_sound (zgF w) zhD zhL (Ev.orcIn_ok evL j) (Ev.runG_ok h) rfl i w rfl (Below.refl _ _)
def memoT:List (List UInt8×Nat×Nat×Nat):=[([48,46,48,46,48,46,48,47,56],0,281470681743360,104),
 ([49,48,46,48,46,48,46,48,47,56],0,281470849515520,104),
 ([49,48,48,46,54,52,46,48,46,48,47,49,48],0,281472363659264,106),
 ([49,50,55,46,48,46,48,46,48,47,56],0,281472812449792,104),
 ([49,54,57,46,50,53,52,46,48,46,48,47,49,54],0,281473533739008,112),
 ([49,55,50,46,49,54,46,48,46,48,47,49,50],0,281473568473088,108),
 ([49,57,50,46,48,46,48,46,48,47,50,52],0,281473902968832,120),
 ([49,57,50,46,48,46,50,46,48,47,50,52],0,281473902969344,120),
 ([49,57,50,46,56,56,46,57,57,46,48,47,50,52],0,281473908761344,120),
 ([49,57,50,46,49,54,56,46,48,46,48,47,49,54],0,281473913978880,112),
 ([49,57,56,46,49,56,46,48,46,48,47,49,53],0,281474004811776,111),
 ([49,57,56,46,53,49,46,49,48,48,46,48,47,50,52],0,281474007000064,120),
 ([50,48,51,46,48,46,49,49,51,46,48,47,50,52],0,281474087547136,120),
 ([50,50,52,46,48,46,48,46,48,47,52],0,281474439839744,100),
 ([50,52,48,46,48,46,48,46,48,47,52],0,281474708275200,100),
 ([58,58,47,49,50,56],0,0,128),
 ([58,58,49,47,49,50,56],0,1,128),
 ([54,52,58,102,102,57,98,58,49,58,58,47,52,56],28428538856144896,0,48),
 ([49,48,48,58,58,47,54,52],72057594037927936,0,64),
 ([50,48,48,49,58,58,47,50,51],2306124484190404608,0,23),
 ([50,48,48,49,58,100,98,56,58,58,47,51,50],2306139568115548160,0,32),
 ([51,102,102,102,58,58,47,50,48],4611404543450677248,0,20),
 ([53,102,48,48,58,58,47,49,54],6845471433603153920,0,16),
 ([102,99,48,48,58,58,47,55],18158513697557839872,0,7),
 ([102,101,56,48,58,58,47,49,48],18338657682652659712,0,10),
 ([102,101,99,48,58,58,47,49,48],18356672081162141696,0,10),
 ([102,102,48,48,58,58,47,56],18374686479671623680,0,8)]
def zoI (x:List UInt8×Nat×Nat×Nat):Value:= .tuple ⟨[.agg ⟨[.int .u64 (.ofNat x.2.1),.int .u64 (.ofNat x.2.2.1),.int .i64 (.ofNat x.2.2.2)]⟩,.bool true]⟩
def isPf (r:Option Value) (a b c:Nat):Bool:=match r with
 |some (.tuple ⟨[.agg ⟨[.int .u64 (.ofNat x),.int .u64 (.ofNat y),.int .i64 (.ofNat z)]⟩,.bool true]⟩)=>Nat.beq x a&&(Nat.beq y b&&Nat.beq z c)
 |_=>false
theorem znZ {r:Option Value} {x:List UInt8×Nat×Nat×Nat} (h:isPf r x.2.1 x.2.2.1 x.2.2.2=true):r=some (zoI x):=by
 unfold isPf at h
 split at h
 ·rw [Bool.and_eq_true,Bool.and_eq_true] at h
  unfold zoI
  rw [Nat.eq_of_beq_eq_true h.1,Nat.eq_of_beq_eq_true h.2.1,Nat.eq_of_beq_eq_true h.2.2]
 ·cases h
theorem zlV:(memoT.all fun x=>isPf (Ev.runG Tryz.prog 100 (Ev.orcIn evL zoJ) 100000 141 [.string ⟨x.1.toArray⟩]) x.2.1 x.2.2.1 x.2.2.2)=true:=by kernel_rfl
noncomputable def orcM:Ev.Orc:=Ev.orcWith zoJ 141 (Ev.oMemo (memoT.map fun x=>(x.1,zoI x)))
theorem zoA (w:World) (i:PowTab w) (g:BruTab w) (f:MaxVar w):Ev.OrcSound Tryz.prog 100 w.heap.size (Below w.heap.size w) orcM:=by
 refine (zgK w i g f).with (Ev.oMemo_ok (enters_of Tryz.func141 (by kernel_rfl) rfl) (by kernel_rfl) fun x p W B j=> ?_)
 obtain ⟨y,A,rfl⟩:=List.mem_map.1 p
 have h:=znZ (List.all_eq_true.1 zlV y A)
 have o:=Ev.runF_sound (zgF W) zhD zhL (Ev.orcIn_ok evL (zgK W (zaC i j) (zaA g j) (zaB f j))) (Ev.runG_ok h) rfl rfl W rfl (Below.refl _ _)
 simpa using o
def zjY:Ev.OrcH:=fun f _=>match f with
 |[.agg ⟨[.int .u64 (.ofNat hi),.int .u64 (.ofNat lo),.int .i64 (.ofNat n)]⟩]=>(match Nat.blt hi 18446744073709551616&&Nat.blt lo 18446744073709551616 with|true=>some (.bool (zaK (zaE hi lo) (n:Int)))|false=>none)
 |_=>none
theorem zlK {base:Nat} {T:World→Prop}:Ev.OrcFn Tryz.prog 100 base T 75 zjY:=by
 refine Ev.oFn_ok (enters_of Tryz.func75 (by kernel_rfl) rfl) fun i j v f=> ?_
 unfold zjY at f
 split at f
 ·split at f
  ·rename_i g
   cases f
   simp only [Bool.and_eq_true] at g
   refine ⟨rfl,rfl,fun W _ _=> ?_⟩
   exact zaU _ _ _ W (Ev.blt_ok g.1) (Ev.blt_ok g.2)
  ·cases f
 ·cases f
noncomputable def zfK:Ev.Orc:=Ev.orcWith orcM 75 zjY
theorem zfE (w:World) (g:PowTab w) (f:BruTab w) (i:MaxVar w):Ev.OrcSound Tryz.prog 100 w.heap.size (Below w.heap.size w) zfK:=(zoA w g f i).with zlK
def zgB:Ev.OrcH:=fun f _=>match f with
 |[.agg ⟨[.int .u64 (.ofNat hi),.int .u64 (.ofNat lo),.int .i64 (.ofNat n)]⟩,.agg ⟨[.int .u64 (.ofNat i),.int .u64 (.ofNat g),.int .i64 (.ofNat m)]⟩]=>(match (Nat.blt hi 18446744073709551616&&Nat.blt lo 18446744073709551616)&&(Nat.blt i 18446744073709551616&&Nat.blt g 18446744073709551616) with|true=>some (.bool (zaW (zaE hi lo) (n:Int) (zaE i g) (m:Int)))|false=>none)
 |_=>none
theorem zhU {base:Nat} {T:World→Prop}:Ev.OrcFn Tryz.prog 100 base T 102 zgB:=by
 refine Ev.oFn_ok (enters_of Tryz.func102 (by kernel_rfl) rfl) fun i j v f=> ?_
 unfold zgB at f
 split at f
 ·split at f
  ·rename_i g
   cases f
   simp only [Bool.and_eq_true] at g
   refine ⟨rfl,rfl,fun W _ _=> ?_⟩
   exact ziA _ _ _ _ _ _ W (Ev.blt_ok g.1.1) (Ev.blt_ok g.1.2) (Ev.blt_ok g.2.1) (Ev.blt_ok g.2.2)
  ·cases f
 ·cases f
noncomputable def zdJ:Ev.Orc:=Ev.orcWith zfK 102 zgB
theorem zdX (w:World) (g:PowTab w) (f:BruTab w) (i:MaxVar w):Ev.OrcSound Tryz.prog 100 w.heap.size (Below w.heap.size w) zdJ:=(zfE w g f i).with zhU
def zgA:Ev.OrcH:=fun f _=>match f with
 |[.agg ⟨[.int .u64 (.ofNat hi),.int .u64 (.ofNat lo),.int .i64 (.ofNat n)]⟩,.agg ⟨[.int .u64 (.ofNat g),.int .u64 (.ofNat i),.int .i64 (.ofNat k)]⟩]=>(match ((Nat.blt hi 18446744073709551616&&Nat.blt lo 18446744073709551616)&&(Nat.blt g 18446744073709551616&&Nat.blt i 18446744073709551616))&&(Nat.ble n 128&&Nat.ble k 128) with|true=>some (pfW (ofW (zaE g i) (zcI (zaE hi lo) n (zaE g i) k)) (zcI (zaE hi lo) n (zaE g i) k:Nat))|false=>none)
 |_=>none
theorem zhX {base:Nat} {T:World→Prop}:Ev.OrcFn Tryz.prog 100 base T 104 zgA:=by
 refine Ev.oFn_ok (enters_of Tryz.func104 (by kernel_rfl) rfl) fun i j v g=> ?_
 unfold zgA at g
 split at g
 ·split at g
  ·rename_i f
   cases g
   simp only [Bool.and_eq_true] at f
   refine ⟨rfl,rfl,fun W _ _=> ?_⟩
   exact zhR _ _ _ _ _ _ W (Ev.blt_ok f.1.1.1) (Ev.blt_ok f.1.1.2) (Ev.blt_ok f.1.2.1) (Ev.blt_ok f.1.2.2) (Nat.le_of_ble_eq_true f.2.1) (Nat.le_of_ble_eq_true f.2.2)
  ·cases g
 ·cases g
noncomputable def zbE:Ev.Orc:=Ev.orcWith zdJ 104 zgA
theorem zcJ (w:World) (g:PowTab w) (f:BruTab w) (i:MaxVar w):Ev.OrcSound Tryz.prog 100 w.heap.size (Below w.heap.size w) zbE:=(zdX w g f i).with zhX
theorem zjO:Ev.runG Tryz.prog 100 (Ev.orcIn evL zbE) 100000 324 []=some (.bool true):=by kernel_rfl
theorem aw01 (w:World) (i:PowTab w) (g:BruTab w) (f:MaxVar w):Calls Tryz.prog 324 #[] w fun e w'=>e= .returned (.bool true)∧Below w.heap.size w w':=
 zaG zjO rfl w (zcJ w i g f)
noncomputable def zlJ:Ev.Orc:=Ev.orcAdd (Ev.orcAdd zbE 324 (.bool true)) 323 (.bool true)
theorem zlY:Ev.runG Tryz.prog 100 (Ev.orcIn evL (Ev.orcAdd zbE 324 (.bool true))) 100000 323 []=some (.bool true):=by kernel_rfl
theorem zeR (w:World) (i:PowTab w) (g:BruTab w) (f:MaxVar w):Ev.OrcSound Tryz.prog 100 w.heap.size (Below w.heap.size w) (Ev.orcAdd zbE 324 (.bool true)):=
 (zcJ w i g f).add rfl ((enters_of Tryz.func324 (by kernel_rfl) rfl) #[]) fun W _ j=>aw01 W (zaC i j) (zaA g j) (zaB f j)
theorem Aw01 (w:World) (i:PowTab w) (g:BruTab w) (f:MaxVar w):Calls Tryz.prog 323 #[] w fun e w'=>e= .returned (.bool true)∧Below w.heap.size w w':=
 zaG zlY rfl w (zeR w i g f)
theorem zhE (w:World) (i:PowTab w) (g:BruTab w) (f:MaxVar w):Ev.OrcSound Tryz.prog 100 w.heap.size (Below w.heap.size w) zlJ:=
 (zeR w i g f).add rfl ((enters_of Tryz.func323 (by kernel_rfl) rfl) #[]) fun W _ j=>Aw01 W (zaC i j) (zaA g j) (zaB f j)
theorem zjA:Ev.runG Tryz.prog 100 (Ev.orcIn evL zlJ) 100000 322 []=some (.bool true):=by kernel_rfl
theorem aw02 (w:World) (i:PowTab w) (g:BruTab w) (f:MaxVar w):Calls Tryz.prog 322 #[] w fun e w'=>e= .returned (.bool true)∧Below w.heap.size w w':=
 zaG zjA rfl w (zhE w i g f)
noncomputable def zlF:Ev.Orc:=Ev.orcAdd (Ev.orcAdd zlJ 322 (.bool true)) 321 (.bool true)
theorem zlO:Ev.runG Tryz.prog 100 (Ev.orcIn evL (Ev.orcAdd zlJ 322 (.bool true))) 100000 321 []=some (.bool true):=by kernel_rfl
theorem zeY (w:World) (i:PowTab w) (g:BruTab w) (f:MaxVar w):Ev.OrcSound Tryz.prog 100 w.heap.size (Below w.heap.size w) (Ev.orcAdd zlJ 322 (.bool true)):=
 (zhE w i g f).add rfl ((enters_of Tryz.func322 (by kernel_rfl) rfl) #[]) fun W _ j=>aw02 W (zaC i j) (zaA g j) (zaB f j)
theorem Aw02 (w:World) (i:PowTab w) (g:BruTab w) (f:MaxVar w):Calls Tryz.prog 321 #[] w fun e w'=>e= .returned (.bool true)∧Below w.heap.size w w':=
 zaG zlO rfl w (zeY w i g f)
theorem zgS (w:World) (i:PowTab w) (g:BruTab w) (f:MaxVar w):Ev.OrcSound Tryz.prog 100 w.heap.size (Below w.heap.size w) zlF:=
 (zeY w i g f).add rfl ((enters_of Tryz.func321 (by kernel_rfl) rfl) #[]) fun W _ j=>Aw02 W (zaC i j) (zaA g j) (zaB f j)
theorem zlM:Ev.runG Tryz.prog 100 (Ev.orcIn evL zlF) 100000 320 []=some (.bool true):=by kernel_rfl
theorem aw03 (w:World) (i:PowTab w) (g:BruTab w) (f:MaxVar w):Calls Tryz.prog 320 #[] w fun e w'=>e= .returned (.bool true)∧Below w.heap.size w w':=
 zaG zlM rfl w (zgS w i g f)
noncomputable def zkM:Ev.Orc:=Ev.orcAdd (Ev.orcAdd zlF 320 (.bool true)) 319 (.bool true)
theorem zlT:Ev.runG Tryz.prog 100 (Ev.orcIn evL (Ev.orcAdd zlF 320 (.bool true))) 100000 319 []=some (.bool true):=by kernel_rfl
theorem zeH (w:World) (i:PowTab w) (g:BruTab w) (f:MaxVar w):Ev.OrcSound Tryz.prog 100 w.heap.size (Below w.heap.size w) (Ev.orcAdd zlF 320 (.bool true)):=
 (zgS w i g f).add rfl ((enters_of Tryz.func320 (by kernel_rfl) rfl) #[]) fun W _ j=>aw03 W (zaC i j) (zaA g j) (zaB f j)
theorem Aw03 (w:World) (i:PowTab w) (g:BruTab w) (f:MaxVar w):Calls Tryz.prog 319 #[] w fun e w'=>e= .returned (.bool true)∧Below w.heap.size w w':=
 zaG zlT rfl w (zeH w i g f)
theorem zgI (w:World) (i:PowTab w) (g:BruTab w) (f:MaxVar w):Ev.OrcSound Tryz.prog 100 w.heap.size (Below w.heap.size w) zkM:=
 (zeH w i g f).add rfl ((enters_of Tryz.func319 (by kernel_rfl) rfl) #[]) fun W _ j=>Aw03 W (zaC i j) (zaA g j) (zaB f j)
theorem zkV:Ev.runG Tryz.prog 100 (Ev.orcIn evL zkM) 100000 318 []=some (.bool true):=by kernel_rfl
theorem aw04 (w:World) (i:PowTab w) (g:BruTab w) (f:MaxVar w):Calls Tryz.prog 318 #[] w fun e w'=>e= .returned (.bool true)∧Below w.heap.size w w':=
 zaG zkV rfl w (zgI w i g f)
noncomputable def ziZ:Ev.Orc:=Ev.orcAdd (Ev.orcAdd zkM 318 (.bool true)) 317 (.bool true)
theorem zlQ:Ev.runG Tryz.prog 100 (Ev.orcIn evL (Ev.orcAdd zkM 318 (.bool true))) 100000 317 []=some (.bool true):=by kernel_rfl
theorem zfC (w:World) (i:PowTab w) (g:BruTab w) (f:MaxVar w):Ev.OrcSound Tryz.prog 100 w.heap.size (Below w.heap.size w) (Ev.orcAdd zkM 318 (.bool true)):=
 (zgI w i g f).add rfl ((enters_of Tryz.func318 (by kernel_rfl) rfl) #[]) fun W _ j=>aw04 W (zaC i j) (zaA g j) (zaB f j)
theorem Aw04 (w:World) (i:PowTab w) (g:BruTab w) (f:MaxVar w):Calls Tryz.prog 317 #[] w fun e w'=>e= .returned (.bool true)∧Below w.heap.size w w':=
 zaG zlQ rfl w (zfC w i g f)
theorem zgV (w:World) (i:PowTab w) (g:BruTab w) (f:MaxVar w):Ev.OrcSound Tryz.prog 100 w.heap.size (Below w.heap.size w) ziZ:=
 (zfC w i g f).add rfl ((enters_of Tryz.func317 (by kernel_rfl) rfl) #[]) fun W _ j=>Aw04 W (zaC i j) (zaA g j) (zaB f j)
theorem zjX:Ev.runG Tryz.prog 100 (Ev.orcIn evL ziZ) 100000 316 []=some (.bool true):=by kernel_rfl
theorem aw05 (w:World) (i:PowTab w) (g:BruTab w) (f:MaxVar w):Calls Tryz.prog 316 #[] w fun e w'=>e= .returned (.bool true)∧Below w.heap.size w w':=
 zaG zjX rfl w (zgV w i g f)
noncomputable def zlA:Ev.Orc:=Ev.orcAdd (Ev.orcAdd ziZ 316 (.bool true)) 314 (.bool true)
theorem zjR:Ev.runG Tryz.prog 100 (Ev.orcIn evL (Ev.orcAdd ziZ 316 (.bool true))) 100000 314 []=some (.bool true):=by kernel_rfl
theorem zeS (w:World) (i:PowTab w) (g:BruTab w) (f:MaxVar w):Ev.OrcSound Tryz.prog 100 w.heap.size (Below w.heap.size w) (Ev.orcAdd ziZ 316 (.bool true)):=
 (zgV w i g f).add rfl ((enters_of Tryz.func316 (by kernel_rfl) rfl) #[]) fun W _ j=>aw05 W (zaC i j) (zaA g j) (zaB f j)
theorem Aw05 (w:World) (i:PowTab w) (g:BruTab w) (f:MaxVar w):Calls Tryz.prog 314 #[] w fun e w'=>e= .returned (.bool true)∧Below w.heap.size w w':=
 zaG zjR rfl w (zeS w i g f)
theorem zhO (w:World) (i:PowTab w) (g:BruTab w) (f:MaxVar w):Ev.OrcSound Tryz.prog 100 w.heap.size (Below w.heap.size w) zlA:=
 (zeS w i g f).add rfl ((enters_of Tryz.func314 (by kernel_rfl) rfl) #[]) fun W _ j=>Aw05 W (zaC i j) (zaA g j) (zaB f j)
theorem ziI:Ev.runG Tryz.prog 100 (Ev.orcIn evL zlA) 100000 313 []=some (.bool true):=by kernel_rfl
theorem aw06 (w:World) (i:PowTab w) (g:BruTab w) (f:MaxVar w):Calls Tryz.prog 313 #[] w fun e w'=>e= .returned (.bool true)∧Below w.heap.size w w':=
 zaG ziI rfl w (zhO w i g f)
noncomputable def ziX:Ev.Orc:=Ev.orcAdd (Ev.orcAdd zlA 313 (.bool true)) 312 (.bool true)
theorem zjP:Ev.runG Tryz.prog 100 (Ev.orcIn evL (Ev.orcAdd zlA 313 (.bool true))) 100000 312 []=some (.bool true):=by kernel_rfl
theorem zfL (w:World) (i:PowTab w) (g:BruTab w) (f:MaxVar w):Ev.OrcSound Tryz.prog 100 w.heap.size (Below w.heap.size w) (Ev.orcAdd zlA 313 (.bool true)):=
 (zhO w i g f).add rfl ((enters_of Tryz.func313 (by kernel_rfl) rfl) #[]) fun W _ j=>aw06 W (zaC i j) (zaA g j) (zaB f j)
theorem Aw06 (w:World) (i:PowTab w) (g:BruTab w) (f:MaxVar w):Calls Tryz.prog 312 #[] w fun e w'=>e= .returned (.bool true)∧Below w.heap.size w w':=
 zaG zjP rfl w (zfL w i g f)
theorem zgX (w:World) (i:PowTab w) (g:BruTab w) (f:MaxVar w):Ev.OrcSound Tryz.prog 100 w.heap.size (Below w.heap.size w) ziX:=
 (zfL w i g f).add rfl ((enters_of Tryz.func312 (by kernel_rfl) rfl) #[]) fun W _ j=>Aw06 W (zaC i j) (zaA g j) (zaB f j)
theorem zkW:Ev.runG Tryz.prog 100 (Ev.orcIn evL ziX) 100000 311 []=some (.bool true):=by kernel_rfl
theorem aw07 (w:World) (i:PowTab w) (g:BruTab w) (f:MaxVar w):Calls Tryz.prog 311 #[] w fun e w'=>e= .returned (.bool true)∧Below w.heap.size w w':=
 zaG zkW rfl w (zgX w i g f)
noncomputable def zjK:Ev.Orc:=Ev.orcAdd (Ev.orcAdd ziX 311 (.bool true)) 310 (.bool true)
theorem zlN:Ev.runG Tryz.prog 100 (Ev.orcIn evL (Ev.orcAdd ziX 311 (.bool true))) 100000 310 []=some (.bool true):=by kernel_rfl
theorem zeQ (w:World) (i:PowTab w) (g:BruTab w) (f:MaxVar w):Ev.OrcSound Tryz.prog 100 w.heap.size (Below w.heap.size w) (Ev.orcAdd ziX 311 (.bool true)):=
 (zgX w i g f).add rfl ((enters_of Tryz.func311 (by kernel_rfl) rfl) #[]) fun W _ j=>aw07 W (zaC i j) (zaA g j) (zaB f j)
theorem Aw07 (w:World) (i:PowTab w) (g:BruTab w) (f:MaxVar w):Calls Tryz.prog 310 #[] w fun e w'=>e= .returned (.bool true)∧Below w.heap.size w w':=
 zaG zlN rfl w (zeQ w i g f)
theorem zhF (w:World) (i:PowTab w) (g:BruTab w) (f:MaxVar w):Ev.OrcSound Tryz.prog 100 w.heap.size (Below w.heap.size w) zjK:=
 (zeQ w i g f).add rfl ((enters_of Tryz.func310 (by kernel_rfl) rfl) #[]) fun W _ j=>Aw07 W (zaC i j) (zaA g j) (zaB f j)
theorem ziV:Ev.runG Tryz.prog 100 (Ev.orcIn evL zjK) 100000 308 []=some (.bool true):=by kernel_rfl
theorem aw08 (w:World) (i:PowTab w) (g:BruTab w) (f:MaxVar w):Calls Tryz.prog 308 #[] w fun e w'=>e= .returned (.bool true)∧Below w.heap.size w w':=
 zaG ziV rfl w (zhF w i g f)
noncomputable def zjC:Ev.Orc:=Ev.orcAdd (Ev.orcAdd zjK 308 (.bool true)) 303 (.bool true)
theorem zkE:Ev.runG Tryz.prog 100 (Ev.orcIn evL (Ev.orcAdd zjK 308 (.bool true))) 100000 303 []=some (.bool true):=by kernel_rfl
theorem zfH (w:World) (i:PowTab w) (g:BruTab w) (f:MaxVar w):Ev.OrcSound Tryz.prog 100 w.heap.size (Below w.heap.size w) (Ev.orcAdd zjK 308 (.bool true)):=
 (zhF w i g f).add rfl ((enters_of Tryz.func308 (by kernel_rfl) rfl) #[]) fun W _ j=>aw08 W (zaC i j) (zaA g j) (zaB f j)
theorem Aw08 (w:World) (i:PowTab w) (g:BruTab w) (f:MaxVar w):Calls Tryz.prog 303 #[] w fun e w'=>e= .returned (.bool true)∧Below w.heap.size w w':=
 zaG zkE rfl w (zfH w i g f)
theorem zgR (w:World) (i:PowTab w) (g:BruTab w) (f:MaxVar w):Ev.OrcSound Tryz.prog 100 w.heap.size (Below w.heap.size w) zjC:=
 (zfH w i g f).add rfl ((enters_of Tryz.func303 (by kernel_rfl) rfl) #[]) fun W _ j=>Aw08 W (zaC i j) (zaA g j) (zaB f j)
theorem zkI:Ev.runG Tryz.prog 100 (Ev.orcIn evL zjC) 100000 296 []=some (.bool true):=by kernel_rfl
theorem aw09 (w:World) (i:PowTab w) (g:BruTab w) (f:MaxVar w):Calls Tryz.prog 296 #[] w fun e w'=>e= .returned (.bool true)∧Below w.heap.size w w':=
 zaG zkI rfl w (zgR w i g f)
noncomputable def zlE:Ev.Orc:=Ev.orcAdd (Ev.orcAdd zjC 296 (.bool true)) 291 (.bool true)
theorem zkF:Ev.runG Tryz.prog 100 (Ev.orcIn evL (Ev.orcAdd zjC 296 (.bool true))) 100000 291 []=some (.bool true):=by kernel_rfl
theorem zeF (w:World) (i:PowTab w) (g:BruTab w) (f:MaxVar w):Ev.OrcSound Tryz.prog 100 w.heap.size (Below w.heap.size w) (Ev.orcAdd zjC 296 (.bool true)):=
 (zgR w i g f).add rfl ((enters_of Tryz.func296 (by kernel_rfl) rfl) #[]) fun W _ j=>aw09 W (zaC i j) (zaA g j) (zaB f j)
theorem Aw09 (w:World) (i:PowTab w) (g:BruTab w) (f:MaxVar w):Calls Tryz.prog 291 #[] w fun e w'=>e= .returned (.bool true)∧Below w.heap.size w w':=
 zaG zkF rfl w (zeF w i g f)
theorem zgW (w:World) (i:PowTab w) (g:BruTab w) (f:MaxVar w):Ev.OrcSound Tryz.prog 100 w.heap.size (Below w.heap.size w) zlE:=
 (zeF w i g f).add rfl ((enters_of Tryz.func291 (by kernel_rfl) rfl) #[]) fun W _ j=>Aw09 W (zaC i j) (zaA g j) (zaB f j)
theorem ziQ:Ev.runG Tryz.prog 100 (Ev.orcIn evL zlE) 100000 289 []=some (.bool true):=by kernel_rfl
theorem aw10 (w:World) (i:PowTab w) (g:BruTab w) (f:MaxVar w):Calls Tryz.prog 289 #[] w fun e w'=>e= .returned (.bool true)∧Below w.heap.size w w':=
 zaG ziQ rfl w (zgW w i g f)
noncomputable def zjS:Ev.Orc:=Ev.orcAdd (Ev.orcAdd zlE 289 (.bool true)) 288 (.bool true)
theorem zkO:Ev.runG Tryz.prog 100 (Ev.orcIn evL (Ev.orcAdd zlE 289 (.bool true))) 100000 288 []=some (.bool true):=by kernel_rfl
theorem zeC (w:World) (i:PowTab w) (g:BruTab w) (f:MaxVar w):Ev.OrcSound Tryz.prog 100 w.heap.size (Below w.heap.size w) (Ev.orcAdd zlE 289 (.bool true)):=
 (zgW w i g f).add rfl ((enters_of Tryz.func289 (by kernel_rfl) rfl) #[]) fun W _ j=>aw10 W (zaC i j) (zaA g j) (zaB f j)
theorem Aw10 (w:World) (i:PowTab w) (g:BruTab w) (f:MaxVar w):Calls Tryz.prog 288 #[] w fun e w'=>e= .returned (.bool true)∧Below w.heap.size w w':=
 zaG zkO rfl w (zeC w i g f)
theorem zgT (w:World) (i:PowTab w) (g:BruTab w) (f:MaxVar w):Ev.OrcSound Tryz.prog 100 w.heap.size (Below w.heap.size w) zjS:=
 (zeC w i g f).add rfl ((enters_of Tryz.func288 (by kernel_rfl) rfl) #[]) fun W _ j=>Aw10 W (zaC i j) (zaA g j) (zaB f j)
theorem zjG:Ev.runG Tryz.prog 100 (Ev.orcIn evL zjS) 100000 287 []=some (.bool true):=by kernel_rfl
theorem aw11 (w:World) (i:PowTab w) (g:BruTab w) (f:MaxVar w):Calls Tryz.prog 287 #[] w fun e w'=>e= .returned (.bool true)∧Below w.heap.size w w':=
 zaG zjG rfl w (zgT w i g f)
noncomputable def zkU:Ev.Orc:=Ev.orcAdd (Ev.orcAdd zjS 287 (.bool true)) 280 (.bool true)
theorem ziH:Ev.runG Tryz.prog 100 (Ev.orcIn evL (Ev.orcAdd zjS 287 (.bool true))) 100000 280 []=some (.bool true):=by kernel_rfl
theorem zeM (w:World) (i:PowTab w) (g:BruTab w) (f:MaxVar w):Ev.OrcSound Tryz.prog 100 w.heap.size (Below w.heap.size w) (Ev.orcAdd zjS 287 (.bool true)):=
 (zgT w i g f).add rfl ((enters_of Tryz.func287 (by kernel_rfl) rfl) #[]) fun W _ j=>aw11 W (zaC i j) (zaA g j) (zaB f j)
theorem Aw11 (w:World) (i:PowTab w) (g:BruTab w) (f:MaxVar w):Calls Tryz.prog 280 #[] w fun e w'=>e= .returned (.bool true)∧Below w.heap.size w w':=
 zaG ziH rfl w (zeM w i g f)
theorem zhI (w:World) (i:PowTab w) (g:BruTab w) (f:MaxVar w):Ev.OrcSound Tryz.prog 100 w.heap.size (Below w.heap.size w) zkU:=
 (zeM w i g f).add rfl ((enters_of Tryz.func280 (by kernel_rfl) rfl) #[]) fun W _ j=>Aw11 W (zaC i j) (zaA g j) (zaB f j)
theorem zlS:Ev.runG Tryz.prog 100 (Ev.orcIn evL zkU) 100000 274 []=some (.bool true):=by kernel_rfl
theorem aw12 (w:World) (i:PowTab w) (g:BruTab w) (f:MaxVar w):Calls Tryz.prog 274 #[] w fun e w'=>e= .returned (.bool true)∧Below w.heap.size w w':=
 zaG zlS rfl w (zhI w i g f)
noncomputable def zjF:Ev.Orc:=Ev.orcAdd (Ev.orcAdd zkU 274 (.bool true)) 269 (.bool true)
theorem zkX:Ev.runG Tryz.prog 100 (Ev.orcIn evL (Ev.orcAdd zkU 274 (.bool true))) 100000 269 []=some (.bool true):=by kernel_rfl
theorem zeE (w:World) (i:PowTab w) (g:BruTab w) (f:MaxVar w):Ev.OrcSound Tryz.prog 100 w.heap.size (Below w.heap.size w) (Ev.orcAdd zkU 274 (.bool true)):=
 (zhI w i g f).add rfl ((enters_of Tryz.func274 (by kernel_rfl) rfl) #[]) fun W _ j=>aw12 W (zaC i j) (zaA g j) (zaB f j)
theorem Aw12 (w:World) (i:PowTab w) (g:BruTab w) (f:MaxVar w):Calls Tryz.prog 269 #[] w fun e w'=>e= .returned (.bool true)∧Below w.heap.size w w':=
 zaG zkX rfl w (zeE w i g f)
theorem zgO (w:World) (i:PowTab w) (g:BruTab w) (f:MaxVar w):Ev.OrcSound Tryz.prog 100 w.heap.size (Below w.heap.size w) zjF:=
 (zeE w i g f).add rfl ((enters_of Tryz.func269 (by kernel_rfl) rfl) #[]) fun W _ j=>Aw12 W (zaC i j) (zaA g j) (zaB f j)
theorem ziK:Ev.runG Tryz.prog 100 (Ev.orcIn evL zjF) 100000 267 []=some (.bool true):=by kernel_rfl
theorem aw13 (w:World) (i:PowTab w) (g:BruTab w) (f:MaxVar w):Calls Tryz.prog 267 #[] w fun e w'=>e= .returned (.bool true)∧Below w.heap.size w w':=
 zaG ziK rfl w (zgO w i g f)
noncomputable def zkS:Ev.Orc:=Ev.orcAdd (Ev.orcAdd zjF 267 (.bool true)) 265 (.bool true)
theorem zjH:Ev.runG Tryz.prog 100 (Ev.orcIn evL (Ev.orcAdd zjF 267 (.bool true))) 100000 265 []=some (.bool true):=by kernel_rfl
theorem zeI (w:World) (i:PowTab w) (g:BruTab w) (f:MaxVar w):Ev.OrcSound Tryz.prog 100 w.heap.size (Below w.heap.size w) (Ev.orcAdd zjF 267 (.bool true)):=
 (zgO w i g f).add rfl ((enters_of Tryz.func267 (by kernel_rfl) rfl) #[]) fun W _ j=>aw13 W (zaC i j) (zaA g j) (zaB f j)
theorem Aw13 (w:World) (i:PowTab w) (g:BruTab w) (f:MaxVar w):Calls Tryz.prog 265 #[] w fun e w'=>e= .returned (.bool true)∧Below w.heap.size w w':=
 zaG zjH rfl w (zeI w i g f)
theorem zgU (w:World) (i:PowTab w) (g:BruTab w) (f:MaxVar w):Ev.OrcSound Tryz.prog 100 w.heap.size (Below w.heap.size w) zkS:=
 (zeI w i g f).add rfl ((enters_of Tryz.func265 (by kernel_rfl) rfl) #[]) fun W _ j=>Aw13 W (zaC i j) (zaA g j) (zaB f j)
theorem zkA:Ev.runG Tryz.prog 100 (Ev.orcIn evL zkS) 100000 263 []=some (.bool true):=by kernel_rfl
theorem aw14 (w:World) (i:PowTab w) (g:BruTab w) (f:MaxVar w):Calls Tryz.prog 263 #[] w fun e w'=>e= .returned (.bool true)∧Below w.heap.size w w':=
 zaG zkA rfl w (zgU w i g f)
noncomputable def zlI:Ev.Orc:=Ev.orcAdd (Ev.orcAdd zkS 263 (.bool true)) 262 (.bool true)
theorem ziL:Ev.runG Tryz.prog 100 (Ev.orcIn evL (Ev.orcAdd zkS 263 (.bool true))) 100000 262 []=some (.bool true):=by kernel_rfl
theorem zfG (w:World) (i:PowTab w) (g:BruTab w) (f:MaxVar w):Ev.OrcSound Tryz.prog 100 w.heap.size (Below w.heap.size w) (Ev.orcAdd zkS 263 (.bool true)):=
 (zgU w i g f).add rfl ((enters_of Tryz.func263 (by kernel_rfl) rfl) #[]) fun W _ j=>aw14 W (zaC i j) (zaA g j) (zaB f j)
theorem Aw14 (w:World) (i:PowTab w) (g:BruTab w) (f:MaxVar w):Calls Tryz.prog 262 #[] w fun e w'=>e= .returned (.bool true)∧Below w.heap.size w w':=
 zaG ziL rfl w (zfG w i g f)
theorem zhH (w:World) (i:PowTab w) (g:BruTab w) (f:MaxVar w):Ev.OrcSound Tryz.prog 100 w.heap.size (Below w.heap.size w) zlI:=
 (zfG w i g f).add rfl ((enters_of Tryz.func262 (by kernel_rfl) rfl) #[]) fun W _ j=>Aw14 W (zaC i j) (zaA g j) (zaB f j)
theorem ziR:Ev.runG Tryz.prog 100 (Ev.orcIn evL zlI) 100000 253 []=some (.bool true):=by kernel_rfl
theorem aw15 (w:World) (i:PowTab w) (g:BruTab w) (f:MaxVar w):Calls Tryz.prog 253 #[] w fun e w'=>e= .returned (.bool true)∧Below w.heap.size w w':=
 zaG ziR rfl w (zhH w i g f)
noncomputable def zlB:Ev.Orc:=Ev.orcAdd (Ev.orcAdd zlI 253 (.bool true)) 239 (.bool true)
theorem ziJ:Ev.runG Tryz.prog 100 (Ev.orcIn evL (Ev.orcAdd zlI 253 (.bool true))) 100000 239 []=some (.bool true):=by kernel_rfl
theorem zeL (w:World) (i:PowTab w) (g:BruTab w) (f:MaxVar w):Ev.OrcSound Tryz.prog 100 w.heap.size (Below w.heap.size w) (Ev.orcAdd zlI 253 (.bool true)):=
 (zhH w i g f).add rfl ((enters_of Tryz.func253 (by kernel_rfl) rfl) #[]) fun W _ j=>aw15 W (zaC i j) (zaA g j) (zaB f j)
theorem Aw15 (w:World) (i:PowTab w) (g:BruTab w) (f:MaxVar w):Calls Tryz.prog 239 #[] w fun e w'=>e= .returned (.bool true)∧Below w.heap.size w w':=
 zaG ziJ rfl w (zeL w i g f)
theorem zhB (w:World) (i:PowTab w) (g:BruTab w) (f:MaxVar w):Ev.OrcSound Tryz.prog 100 w.heap.size (Below w.heap.size w) zlB:=
 (zeL w i g f).add rfl ((enters_of Tryz.func239 (by kernel_rfl) rfl) #[]) fun W _ j=>Aw15 W (zaC i j) (zaA g j) (zaB f j)
theorem zkG:Ev.runG Tryz.prog 100 (Ev.orcIn evL zlB) 100000 215 []=some (.bool true):=by kernel_rfl
theorem aw16 (w:World) (i:PowTab w) (g:BruTab w) (f:MaxVar w):Calls Tryz.prog 215 #[] w fun e w'=>e= .returned (.bool true)∧Below w.heap.size w w':=
 zaG zkG rfl w (zhB w i g f)
noncomputable def zkC:Ev.Orc:=Ev.orcAdd (Ev.orcAdd zlB 215 (.bool true)) 181 (.bool true)
theorem zjM:Ev.runG Tryz.prog 100 (Ev.orcIn evL (Ev.orcAdd zlB 215 (.bool true))) 100000 181 []=some (.bool true):=by kernel_rfl
theorem zfM (w:World) (i:PowTab w) (g:BruTab w) (f:MaxVar w):Ev.OrcSound Tryz.prog 100 w.heap.size (Below w.heap.size w) (Ev.orcAdd zlB 215 (.bool true)):=
 (zhB w i g f).add rfl ((enters_of Tryz.func215 (by kernel_rfl) rfl) #[]) fun W _ j=>aw16 W (zaC i j) (zaA g j) (zaB f j)
theorem Aw16 (w:World) (i:PowTab w) (g:BruTab w) (f:MaxVar w):Calls Tryz.prog 181 #[] w fun e w'=>e= .returned (.bool true)∧Below w.heap.size w w':=
 zaG zjM rfl w (zfM w i g f)
theorem zgQ (w:World) (i:PowTab w) (g:BruTab w) (f:MaxVar w):Ev.OrcSound Tryz.prog 100 w.heap.size (Below w.heap.size w) zkC:=
 (zfM w i g f).add rfl ((enters_of Tryz.func181 (by kernel_rfl) rfl) #[]) fun W _ j=>Aw16 W (zaC i j) (zaA g j) (zaB f j)
theorem zlG:Ev.runG Tryz.prog 100 (Ev.orcIn evL zkC) 100000 134 []=some (.bool true):=by kernel_rfl
theorem aw17 (w:World) (i:PowTab w) (g:BruTab w) (f:MaxVar w):Calls Tryz.prog 134 #[] w fun e w'=>e= .returned (.bool true)∧Below w.heap.size w w':=
 zaG zlG rfl w (zgQ w i g f)
noncomputable def ziY:Ev.Orc:=Ev.orcAdd (Ev.orcAdd zkC 134 (.bool true)) 90 (.bool true)
theorem ziN:Ev.runG Tryz.prog 100 (Ev.orcIn evL (Ev.orcAdd zkC 134 (.bool true))) 100000 90 []=some (.bool true):=by kernel_rfl
theorem zfJ (w:World) (i:PowTab w) (g:BruTab w) (f:MaxVar w):Ev.OrcSound Tryz.prog 100 w.heap.size (Below w.heap.size w) (Ev.orcAdd zkC 134 (.bool true)):=
 (zgQ w i g f).add rfl ((enters_of Tryz.func134 (by kernel_rfl) rfl) #[]) fun W _ j=>aw17 W (zaC i j) (zaA g j) (zaB f j)
theorem Aw17 (w:World) (i:PowTab w) (g:BruTab w) (f:MaxVar w):Calls Tryz.prog 90 #[] w fun e w'=>e= .returned (.bool true)∧Below w.heap.size w w':=
 zaG ziN rfl w (zfJ w i g f)
theorem zgY (w:World) (i:PowTab w) (g:BruTab w) (f:MaxVar w):Ev.OrcSound Tryz.prog 100 w.heap.size (Below w.heap.size w) ziY:=
 (zfJ w i g f).add rfl ((enters_of Tryz.func90 (by kernel_rfl) rfl) #[]) fun W _ j=>Aw17 W (zaC i j) (zaA g j) (zaB f j)
theorem zkQ:Ev.runG Tryz.prog 100 (Ev.orcIn evL ziY) 100000 61 []=some (.bool true):=by kernel_rfl
theorem aw18 (w:World) (i:PowTab w) (g:BruTab w) (f:MaxVar w):Calls Tryz.prog 61 #[] w fun e w'=>e= .returned (.bool true)∧Below w.heap.size w w':=
 zaG zkQ rfl w (zgY w i g f)
noncomputable def zlH:Ev.Orc:=Ev.orcAdd (Ev.orcAdd ziY 61 (.bool true)) 44 (.bool true)
theorem zlL:Ev.runG Tryz.prog 100 (Ev.orcIn evL (Ev.orcAdd ziY 61 (.bool true))) 100000 44 []=some (.bool true):=by kernel_rfl
theorem zeN (w:World) (i:PowTab w) (g:BruTab w) (f:MaxVar w):Ev.OrcSound Tryz.prog 100 w.heap.size (Below w.heap.size w) (Ev.orcAdd ziY 61 (.bool true)):=
 (zgY w i g f).add rfl ((enters_of Tryz.func61 (by kernel_rfl) rfl) #[]) fun W _ j=>aw18 W (zaC i j) (zaA g j) (zaB f j)
theorem Aw18 (w:World) (i:PowTab w) (g:BruTab w) (f:MaxVar w):Calls Tryz.prog 44 #[] w fun e w'=>e= .returned (.bool true)∧Below w.heap.size w w':=
 zaG zlL rfl w (zeN w i g f)
theorem zhN (w:World) (i:PowTab w) (g:BruTab w) (f:MaxVar w):Ev.OrcSound Tryz.prog 100 w.heap.size (Below w.heap.size w) zlH:=
 (zeN w i g f).add rfl ((enters_of Tryz.func44 (by kernel_rfl) rfl) #[]) fun W _ j=>Aw18 W (zaC i j) (zaA g j) (zaB f j)
theorem zjD:Ev.runG Tryz.prog 100 (Ev.orcIn evL zlH) 100000 34 []=some (.bool true):=by kernel_rfl
theorem aw19 (w:World) (i:PowTab w) (g:BruTab w) (f:MaxVar w):Calls Tryz.prog 34 #[] w fun e w'=>e= .returned (.bool true)∧Below w.heap.size w w':=
 zaG zjD rfl w (zhN w i g f)
noncomputable def orc19:Ev.Orc:=Ev.orcAdd (Ev.orcAdd zlH 34 (.bool true)) 21 (.bool true)
theorem zjB:Ev.runG Tryz.prog 100 (Ev.orcIn evL (Ev.orcAdd zlH 34 (.bool true))) 100000 21 []=some (.bool true):=by kernel_rfl
theorem zeV (w:World) (i:PowTab w) (g:BruTab w) (f:MaxVar w):Ev.OrcSound Tryz.prog 100 w.heap.size (Below w.heap.size w) (Ev.orcAdd zlH 34 (.bool true)):=
 (zhN w i g f).add rfl ((enters_of Tryz.func34 (by kernel_rfl) rfl) #[]) fun W _ j=>aw19 W (zaC i j) (zaA g j) (zaB f j)
theorem Aw19 (w:World) (i:PowTab w) (g:BruTab w) (f:MaxVar w):Calls Tryz.prog 21 #[] w fun e w'=>e= .returned (.bool true)∧Below w.heap.size w w':=
 zaG zjB rfl w (zeV w i g f)
theorem zmL (w:World) (i:PowTab w) (g:BruTab w) (f:MaxVar w):Ev.OrcSound Tryz.prog 100 w.heap.size (Below w.heap.size w) orc19:=
 (zeV w i g f).add rfl ((enters_of Tryz.func21 (by kernel_rfl) rfl) #[]) fun W _ j=>Aw19 W (zaC i j) (zaA g j) (zaB f j)
theorem zkN:Ev.runG Tryz.prog 100 (Ev.orcIn evL orc19) 100000 7 []=some (.bool true):=by kernel_rfl
theorem aw20 (w:World) (i:PowTab w) (g:BruTab w) (f:MaxVar w):Calls Tryz.prog 7 #[] w fun e w'=>e= .returned (.bool true)∧Below w.heap.size w w':=
 zaG zkN rfl w (zmL w i g f)
end
end Go.Proofs.YteajemblhlbfpaaGreatDoor
