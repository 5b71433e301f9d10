/-
  What the law CacheLast leans on, and its walk (19 of 21).
-/
import Derived.Test.YtkiehdigpchebaaGreatDoorEvB
import Derived.Shelf.Abstract
import Derived.Test.YtkiehdigpchebaaGreatDoorCacheLastPkI
import Derived.Test.YtkiehdigpchebaaGreatDoorCacheLastPkR
namespace Go.Proofs.YtkiehdigpchebaaGreatDoor
set_option maxRecDepth 100000
set_option maxHeartbeats 16000000
section
open Go.RowKit
noncomputable def znA:Ev.Orc:=Ev.orcWith (Ev.orcWith (Ev.orcWith (Ev.orcWith (Ev.orcWith (Ev.orcWith (Ev.orcWith (Ev.orcWith (Ev.orcWith (Ev.orcNone) 204 Ev.oReplace) 191 Ev.oJoin) 101 Ev.oItoa) 266 Ev.oTz) 82 Ev.oLen) 269 Ev.oCount) 205 Ev.oIndex) 244 Ev.oNoEscape) 254 Ev.oIndexByte
theorem zgG (w:World) (p:PowTab w) (g:BruTab w) (f:MaxVar w):Ev.OrcSound Tryz.prog 100 w.heap.size (Below w.heap.size w) znA:=by
 refine Ev.orcNone_sound|>.with ?o0|>.with ?o1|>.with ?o2|>.with ?o3|>.with ?o4|>.with ?o5|>.with ?o6|>.with ?o7|>.with ?o8
 case o0=>exact Ev.oReplace_ok (enters_of Tryz.func204 (by kernel_rfl) rfl) fun s o n W a j i y=>by obtain ⟨m,q⟩:=zaA f a;exact Tryz.strings_ReplaceAll s o n m W j q i y
 case o1=>exact Ev.oJoin_ok (enters_of Tryz.func191 (by kernel_rfl) rfl) fun E o c C z w j i y D G=>Tryz.strings_Join E o c C z w j i y D G
 case o2=>exact Ev.oItoa_ok (enters_of Tryz.func101 (by kernel_rfl) rfl) fun n W a j i=>(Tryz.strconv_Itoa n j i W (zaC p a)).mono (by rintro e w' ⟨rfl,k,os,rfl⟩;exact ⟨rfl,Lib.below_grow _ _ (Nat.le_refl _) _ _⟩)
 case o3=>exact Ev.oTz_ok (enters_of Tryz.func266 (by kernel_rfl) rfl) (fun W a=>(tz64_8 W (zaB g a)).mono fun _ _ h=>⟨h.1,h.2.symm⟩) (fun W a=>(zmP W (zaB g a)).mono fun _ _ h=>⟨h.1,h.2.symm⟩)
 case o4=>exact Ev.oLen_ok (enters_of Tryz.func82 (by kernel_rfl) rfl) fun x W j i=>Tryz.bits_Len64 x W j i
 case o5=>exact Ev.oCount_ok Tryz.func269 (by kernel_rfl) (by kernel_rfl) (by kernel_rfl) (by kernel_rfl)
 case o6=>exact Ev.oIndex_ok (enters_of Tryz.func205 (by kernel_rfl) rfl) fun s t W a h=>by obtain ⟨m,q⟩:=zaA f a;exact Tryz.stringslite_Index s t m W h q
 case o7=>exact Ev.oNoEscape_ok Tryz.func244 (by kernel_rfl) (by kernel_rfl) (by kernel_rfl) (by kernel_rfl)
 case o8=>exact Ev.oIndexByte_ok Tryz.func254 (by kernel_rfl) (by kernel_rfl) (by kernel_rfl) (by kernel_rfl)
theorem zlH:(Tryz.prog.funcs.toList.all fun f=> !(f.name== "runtime.NumGoroutine"))=true:=by kernel_rfl
theorem zgK:Ev.NoNum Tryz.prog:=fun g f h=>by
 have:=List.all_eq_true.1 zlH f (by simpa using Array.mem_of_getElem? h)
 simpa using this
theorem zgS:Tryz.prog.follows .mixedOrders=true:=by kernel_rfl
theorem zgP (w:World):Ev.Stays w.heap.size (Below w.heap.size w):=fun _ _ h k=>k.trans h
def evL:List Nat:=[6,13,26,31,40,52,69,82,83,98,101,110,112,142,149,189,191,204,205,223,244,247,254,261,266,269,270,271,273,275,277,282,288,295,296,297,299,304,311,316,318,319,320,321,322,324,325,326,327,328,329,330,331,332]
theorem zaF {a:Ev.Orc} {n:Nat} {f:FuncId} {v:Value} (h:Ev.runG Tryz.prog 100 (Ev.orcIn evL a) n f []=some v) (i:Ev.pf 100 6 v=true) (w:World) (g:Ev.OrcSound Tryz.prog 100 w.heap.size (Below w.heap.size w) a):
  Calls Tryz.prog f #[] w fun e w'=>e= .returned v∧Below w.heap.size w w':=
 Ev.runF_sound (zgP w) zgK zgS (Ev.orcIn_ok evL g) (Ev.runG_ok h) rfl i w rfl (Below.refl _ _)
def memoT:List (List UInt8×Nat×Nat×Nat):=[([48,46,48,46,48,46,48,47,56],0,281470681743360,104),
 ([49,48,46,48,46,48,46,48,47,56],0,281470849515520,104),
 ([49,48,48,46,54,52,46,48,46,48,47,49,48],0,281472363659264,106),
 ([49,50,55,46,48,46,48,46,48,47,56],0,281472812449792,104),
 ([49,54,57,46,50,53,52,46,48,46,48,47,49,54],0,281473533739008,112),
 ([49,55,50,46,49,54,46,48,46,48,47,49,50],0,281473568473088,108),
 ([49,57,50,46,48,46,48,46,48,47,50,52],0,281473902968832,120),
 ([49,57,50,46,48,46,50,46,48,47,50,52],0,281473902969344,120),
 ([49,57,50,46,56,56,46,57,57,46,48,47,50,52],0,281473908761344,120),
 ([49,57,50,46,49,54,56,46,48,46,48,47,49,54],0,281473913978880,112),
 ([49,57,56,46,49,56,46,48,46,48,47,49,53],0,281474004811776,111),
 ([49,57,56,46,53,49,46,49,48,48,46,48,47,50,52],0,281474007000064,120),
 ([50,48,51,46,48,46,49,49,51,46,48,47,50,52],0,281474087547136,120),
 ([50,50,52,46,48,46,48,46,48,47,52],0,281474439839744,100),
 ([50,52,48,46,48,46,48,46,48,47,52],0,281474708275200,100),
 ([58,58,47,49,50,56],0,0,128),
 ([58,58,49,47,49,50,56],0,1,128),
 ([54,52,58,102,102,57,98,58,49,58,58,47,52,56],28428538856144896,0,48),
 ([49,48,48,58,58,47,54,52],72057594037927936,0,64),
 ([50,48,48,49,58,58,47,50,51],2306124484190404608,0,23),
 ([50,48,48,49,58,100,98,56,58,58,47,51,50],2306139568115548160,0,32),
 ([51,102,102,102,58,58,47,50,48],4611404543450677248,0,20),
 ([53,102,48,48,58,58,47,49,54],6845471433603153920,0,16),
 ([102,99,48,48,58,58,47,55],18158513697557839872,0,7),
 ([102,101,56,48,58,58,47,49,48],18338657682652659712,0,10),
 ([102,101,99,48,58,58,47,49,48],18356672081162141696,0,10),
 ([102,102,48,48,58,58,47,56],18374686479671623680,0,8)]
def zmV (x:List UInt8×Nat×Nat×Nat):Value:= .tuple ⟨[.agg ⟨[.int .u64 (.ofNat x.2.1),.int .u64 (.ofNat x.2.2.1),.int .i64 (.ofNat x.2.2.2)]⟩,.bool true]⟩
def isPf (r:Option Value) (a b c:Nat):Bool:=match r with
 |some (.tuple ⟨[.agg ⟨[.int .u64 (.ofNat x),.int .u64 (.ofNat y),.int .i64 (.ofNat z)]⟩,.bool true]⟩)=>Nat.beq x a&&(Nat.beq y b&&Nat.beq z c)
 |_=>false
theorem zmY {r:Option Value} {x:List UInt8×Nat×Nat×Nat} (h:isPf r x.2.1 x.2.2.1 x.2.2.2=true):r=some (zmV x):=by
 unfold isPf at h
 split at h
 ·rw [Bool.and_eq_true,Bool.and_eq_true] at h
  unfold zmV
  rw [Nat.eq_of_beq_eq_true h.1,Nat.eq_of_beq_eq_true h.2.1,Nat.eq_of_beq_eq_true h.2.2]
 ·cases h
theorem ziP:(memoT.all fun x=>isPf (Ev.runG Tryz.prog 100 (Ev.orcIn evL znA) 100000 149 [.string ⟨x.1.toArray⟩]) x.2.1 x.2.2.1 x.2.2.2)=true:=by kernel_rfl
noncomputable def orcM:Ev.Orc:=Ev.orcWith znA 149 (Ev.oMemo (memoT.map fun x=>(x.1,zmV x)))
theorem zmQ (w:World) (f:PowTab w) (g:BruTab w) (a:MaxVar w):Ev.OrcSound Tryz.prog 100 w.heap.size (Below w.heap.size w) orcM:=by
 refine (zgG w f g a).with (Ev.oMemo_ok (enters_of Tryz.func149 (by kernel_rfl) rfl) (by kernel_rfl) fun x j W q i=> ?_)
 obtain ⟨y,p,rfl⟩:=List.mem_map.1 j
 have h:=zmY (List.all_eq_true.1 ziP y p)
 have o:=Ev.runF_sound (zgP W) zgK zgS (Ev.orcIn_ok evL (zgG W (zaC f i) (zaB g i) (zaA a i))) (Ev.runG_ok h) rfl rfl W rfl (Below.refl _ _)
 simpa using o
def zkG:Ev.OrcH:=fun a _=>match a with
 |[.agg ⟨[.int .u64 (.ofNat hi),.int .u64 (.ofNat lo),.int .i64 (.ofNat n)]⟩]=>(match Nat.blt hi 18446744073709551616&&Nat.blt lo 18446744073709551616 with|true=>some (.bool (zaI (zaD hi lo) (n:Int)))|false=>none)
 |_=>none
theorem ziI {base:Nat} {T:World→Prop}:Ev.OrcFn Tryz.prog 100 base T 83 zkG:=by
 refine Ev.oFn_ok (enters_of Tryz.func83 (by kernel_rfl) rfl) fun g i v a=> ?_
 unfold zkG at a
 split at a
 ·split at a
  ·rename_i f
   cases a
   simp only [Bool.and_eq_true] at f
   refine ⟨rfl,rfl,fun W _ _=> ?_⟩
   exact zaR _ _ _ W (Ev.blt_ok f.1) (Ev.blt_ok f.2)
  ·cases a
 ·cases a
noncomputable def zeN:Ev.Orc:=Ev.orcWith orcM 83 zkG
theorem zdP (w:World) (a:PowTab w) (f:BruTab w) (g:MaxVar w):Ev.OrcSound Tryz.prog 100 w.heap.size (Below w.heap.size w) zeN:=(zmQ w a f g).with ziI
def zeZ:Ev.OrcH:=fun f _=>match f with
 |[.agg ⟨[.int .u64 (.ofNat hi),.int .u64 (.ofNat lo),.int .i64 (.ofNat n)]⟩,.agg ⟨[.int .u64 (.ofNat g),.int .u64 (.ofNat a),.int .i64 (.ofNat m)]⟩]=>(match (Nat.blt hi 18446744073709551616&&Nat.blt lo 18446744073709551616)&&(Nat.blt g 18446744073709551616&&Nat.blt a 18446744073709551616) with|true=>some (.bool (zaT (zaD hi lo) (n:Int) (zaD g a) (m:Int)))|false=>none)
 |_=>none
theorem zhF {base:Nat} {T:World→Prop}:Ev.OrcFn Tryz.prog 100 base T 110 zeZ:=by
 refine Ev.oFn_ok (enters_of Tryz.func110 (by kernel_rfl) rfl) fun g i v a=> ?_
 unfold zeZ at a
 split at a
 ·split at a
  ·rename_i f
   cases a
   simp only [Bool.and_eq_true] at f
   refine ⟨rfl,rfl,fun W _ _=> ?_⟩
   exact zhD _ _ _ _ _ _ W (Ev.blt_ok f.1.1) (Ev.blt_ok f.1.2) (Ev.blt_ok f.2.1) (Ev.blt_ok f.2.2)
  ·cases a
 ·cases a
noncomputable def zcY:Ev.Orc:=Ev.orcWith zeN 110 zeZ
theorem zdJ (w:World) (a:PowTab w) (f:BruTab w) (g:MaxVar w):Ev.OrcSound Tryz.prog 100 w.heap.size (Below w.heap.size w) zcY:=(zdP w a f g).with zhF
def zfK:Ev.OrcH:=fun a _=>match a with
 |[.agg ⟨[.int .u64 (.ofNat hi),.int .u64 (.ofNat lo),.int .i64 (.ofNat n)]⟩,.agg ⟨[.int .u64 (.ofNat g),.int .u64 (.ofNat f),.int .i64 (.ofNat k)]⟩]=>(match ((Nat.blt hi 18446744073709551616&&Nat.blt lo 18446744073709551616)&&(Nat.blt g 18446744073709551616&&Nat.blt f 18446744073709551616))&&(Nat.ble n 128&&Nat.ble k 128) with|true=>some (pfW (ofW (zaD g f) (zbZ (zaD hi lo) n (zaD g f) k)) (zbZ (zaD hi lo) n (zaD g f) k:Nat))|false=>none)
 |_=>none
theorem zgY {base:Nat} {T:World→Prop}:Ev.OrcFn Tryz.prog 100 base T 112 zfK:=by
 refine Ev.oFn_ok (enters_of Tryz.func112 (by kernel_rfl) rfl) fun g i v f=> ?_
 unfold zfK at f
 split at f
 ·split at f
  ·rename_i a
   cases f
   simp only [Bool.and_eq_true] at a
   refine ⟨rfl,rfl,fun W _ _=> ?_⟩
   exact zhB _ _ _ _ _ _ W (Ev.blt_ok a.1.1.1) (Ev.blt_ok a.1.1.2) (Ev.blt_ok a.1.2.1) (Ev.blt_ok a.1.2.2) (Nat.le_of_ble_eq_true a.2.1) (Nat.le_of_ble_eq_true a.2.2)
  ·cases f
 ·cases f
noncomputable def zbB:Ev.Orc:=Ev.orcWith zcY 112 zfK
theorem zbY (w:World) (a:PowTab w) (f:BruTab w) (g:MaxVar w):Ev.OrcSound Tryz.prog 100 w.heap.size (Below w.heap.size w) zbB:=(zdJ w a f g).with zgY
theorem zhV:Ev.runG Tryz.prog 100 (Ev.orcIn evL zbB) 100000 332 []=some (.bool true):=by kernel_rfl
theorem aw01 (w:World) (f:PowTab w) (g:BruTab w) (a:MaxVar w):Calls Tryz.prog 332 #[] w fun e w'=>e= .returned (.bool true)∧Below w.heap.size w w':=
 zaF zhV rfl w (zbY w f g a)
noncomputable def zjQ:Ev.Orc:=Ev.orcAdd (Ev.orcAdd zbB 332 (.bool true)) 331 (.bool true)
theorem zkI:Ev.runG Tryz.prog 100 (Ev.orcIn evL (Ev.orcAdd zbB 332 (.bool true))) 100000 331 []=some (.bool true):=by kernel_rfl
theorem zeB (w:World) (f:PowTab w) (g:BruTab w) (a:MaxVar w):Ev.OrcSound Tryz.prog 100 w.heap.size (Below w.heap.size w) (Ev.orcAdd zbB 332 (.bool true)):=
 (zbY w f g a).add rfl ((enters_of Tryz.func332 (by kernel_rfl) rfl) #[]) fun W _ i=>aw01 W (zaC f i) (zaB g i) (zaA a i)
theorem Aw01 (w:World) (f:PowTab w) (g:BruTab w) (a:MaxVar w):Calls Tryz.prog 331 #[] w fun e w'=>e= .returned (.bool true)∧Below w.heap.size w w':=
 zaF zkI rfl w (zeB w f g a)
theorem zfQ (w:World) (f:PowTab w) (g:BruTab w) (a:MaxVar w):Ev.OrcSound Tryz.prog 100 w.heap.size (Below w.heap.size w) zjQ:=
 (zeB w f g a).add rfl ((enters_of Tryz.func331 (by kernel_rfl) rfl) #[]) fun W _ i=>Aw01 W (zaC f i) (zaB g i) (zaA a i)
theorem zkB:Ev.runG Tryz.prog 100 (Ev.orcIn evL zjQ) 100000 330 []=some (.bool true):=by kernel_rfl
theorem aw02 (w:World) (f:PowTab w) (g:BruTab w) (a:MaxVar w):Calls Tryz.prog 330 #[] w fun e w'=>e= .returned (.bool true)∧Below w.heap.size w w':=
 zaF zkB rfl w (zfQ w f g a)
noncomputable def zjR:Ev.Orc:=Ev.orcAdd (Ev.orcAdd zjQ 330 (.bool true)) 329 (.bool true)
theorem zjU:Ev.runG Tryz.prog 100 (Ev.orcIn evL (Ev.orcAdd zjQ 330 (.bool true))) 100000 329 []=some (.bool true):=by kernel_rfl
theorem zdO (w:World) (f:PowTab w) (g:BruTab w) (a:MaxVar w):Ev.OrcSound Tryz.prog 100 w.heap.size (Below w.heap.size w) (Ev.orcAdd zjQ 330 (.bool true)):=
 (zfQ w f g a).add rfl ((enters_of Tryz.func330 (by kernel_rfl) rfl) #[]) fun W _ i=>aw02 W (zaC f i) (zaB g i) (zaA a i)
theorem Aw02 (w:World) (f:PowTab w) (g:BruTab w) (a:MaxVar w):Calls Tryz.prog 329 #[] w fun e w'=>e= .returned (.bool true)∧Below w.heap.size w w':=
 zaF zjU rfl w (zdO w f g a)
theorem zgJ (w:World) (f:PowTab w) (g:BruTab w) (a:MaxVar w):Ev.OrcSound Tryz.prog 100 w.heap.size (Below w.heap.size w) zjR:=
 (zdO w f g a).add rfl ((enters_of Tryz.func329 (by kernel_rfl) rfl) #[]) fun W _ i=>Aw02 W (zaC f i) (zaB g i) (zaA a i)
theorem zkL:Ev.runG Tryz.prog 100 (Ev.orcIn evL zjR) 100000 328 []=some (.bool true):=by kernel_rfl
theorem aw03 (w:World) (f:PowTab w) (g:BruTab w) (a:MaxVar w):Calls Tryz.prog 328 #[] w fun e w'=>e= .returned (.bool true)∧Below w.heap.size w w':=
 zaF zkL rfl w (zgJ w f g a)
noncomputable def ziJ:Ev.Orc:=Ev.orcAdd (Ev.orcAdd zjR 328 (.bool true)) 327 (.bool true)
theorem zjL:Ev.runG Tryz.prog 100 (Ev.orcIn evL (Ev.orcAdd zjR 328 (.bool true))) 100000 327 []=some (.bool true):=by kernel_rfl
theorem zeQ (w:World) (f:PowTab w) (g:BruTab w) (a:MaxVar w):Ev.OrcSound Tryz.prog 100 w.heap.size (Below w.heap.size w) (Ev.orcAdd zjR 328 (.bool true)):=
 (zgJ w f g a).add rfl ((enters_of Tryz.func328 (by kernel_rfl) rfl) #[]) fun W _ i=>aw03 W (zaC f i) (zaB g i) (zaA a i)
theorem Aw03 (w:World) (f:PowTab w) (g:BruTab w) (a:MaxVar w):Calls Tryz.prog 327 #[] w fun e w'=>e= .returned (.bool true)∧Below w.heap.size w w':=
 zaF zjL rfl w (zeQ w f g a)
theorem zgQ (w:World) (f:PowTab w) (g:BruTab w) (a:MaxVar w):Ev.OrcSound Tryz.prog 100 w.heap.size (Below w.heap.size w) ziJ:=
 (zeQ w f g a).add rfl ((enters_of Tryz.func327 (by kernel_rfl) rfl) #[]) fun W _ i=>Aw03 W (zaC f i) (zaB g i) (zaA a i)
theorem ziB:Ev.runG Tryz.prog 100 (Ev.orcIn evL ziJ) 100000 326 []=some (.bool true):=by kernel_rfl
theorem aw04 (w:World) (f:PowTab w) (g:BruTab w) (a:MaxVar w):Calls Tryz.prog 326 #[] w fun e w'=>e= .returned (.bool true)∧Below w.heap.size w w':=
 zaF ziB rfl w (zgQ w f g a)
noncomputable def zjB:Ev.Orc:=Ev.orcAdd (Ev.orcAdd ziJ 326 (.bool true)) 325 (.bool true)
theorem zjW:Ev.runG Tryz.prog 100 (Ev.orcIn evL (Ev.orcAdd ziJ 326 (.bool true))) 100000 325 []=some (.bool true):=by kernel_rfl
theorem zdW (w:World) (f:PowTab w) (g:BruTab w) (a:MaxVar w):Ev.OrcSound Tryz.prog 100 w.heap.size (Below w.heap.size w) (Ev.orcAdd ziJ 326 (.bool true)):=
 (zgQ w f g a).add rfl ((enters_of Tryz.func326 (by kernel_rfl) rfl) #[]) fun W _ i=>aw04 W (zaC f i) (zaB g i) (zaA a i)
theorem Aw04 (w:World) (f:PowTab w) (g:BruTab w) (a:MaxVar w):Calls Tryz.prog 325 #[] w fun e w'=>e= .returned (.bool true)∧Below w.heap.size w w':=
 zaF zjW rfl w (zdW w f g a)
theorem zfT (w:World) (f:PowTab w) (g:BruTab w) (a:MaxVar w):Ev.OrcSound Tryz.prog 100 w.heap.size (Below w.heap.size w) zjB:=
 (zdW w f g a).add rfl ((enters_of Tryz.func325 (by kernel_rfl) rfl) #[]) fun W _ i=>Aw04 W (zaC f i) (zaB g i) (zaA a i)
theorem zkA:Ev.runG Tryz.prog 100 (Ev.orcIn evL zjB) 100000 324 []=some (.bool true):=by kernel_rfl
theorem aw05 (w:World) (f:PowTab w) (g:BruTab w) (a:MaxVar w):Calls Tryz.prog 324 #[] w fun e w'=>e= .returned (.bool true)∧Below w.heap.size w w':=
 zaF zkA rfl w (zfT w f g a)
noncomputable def zkE:Ev.Orc:=Ev.orcAdd (Ev.orcAdd zjB 324 (.bool true)) 322 (.bool true)
theorem zkS:Ev.runG Tryz.prog 100 (Ev.orcIn evL (Ev.orcAdd zjB 324 (.bool true))) 100000 322 []=some (.bool true):=by kernel_rfl
theorem zeG (w:World) (f:PowTab w) (g:BruTab w) (a:MaxVar w):Ev.OrcSound Tryz.prog 100 w.heap.size (Below w.heap.size w) (Ev.orcAdd zjB 324 (.bool true)):=
 (zfT w f g a).add rfl ((enters_of Tryz.func324 (by kernel_rfl) rfl) #[]) fun W _ i=>aw05 W (zaC f i) (zaB g i) (zaA a i)
theorem Aw05 (w:World) (f:PowTab w) (g:BruTab w) (a:MaxVar w):Calls Tryz.prog 322 #[] w fun e w'=>e= .returned (.bool true)∧Below w.heap.size w w':=
 zaF zkS rfl w (zeG w f g a)
theorem zfM (w:World) (f:PowTab w) (g:BruTab w) (a:MaxVar w):Ev.OrcSound Tryz.prog 100 w.heap.size (Below w.heap.size w) zkE:=
 (zeG w f g a).add rfl ((enters_of Tryz.func322 (by kernel_rfl) rfl) #[]) fun W _ i=>Aw05 W (zaC f i) (zaB g i) (zaA a i)
theorem zkF:Ev.runG Tryz.prog 100 (Ev.orcIn evL zkE) 100000 321 []=some (.bool true):=by kernel_rfl
theorem aw06 (w:World) (f:PowTab w) (g:BruTab w) (a:MaxVar w):Calls Tryz.prog 321 #[] w fun e w'=>e= .returned (.bool true)∧Below w.heap.size w w':=
 zaF zkF rfl w (zfM w f g a)
noncomputable def zjF:Ev.Orc:=Ev.orcAdd (Ev.orcAdd zkE 321 (.bool true)) 320 (.bool true)
theorem ziQ:Ev.runG Tryz.prog 100 (Ev.orcIn evL (Ev.orcAdd zkE 321 (.bool true))) 100000 320 []=some (.bool true):=by kernel_rfl
theorem zdR (w:World) (f:PowTab w) (g:BruTab w) (a:MaxVar w):Ev.OrcSound Tryz.prog 100 w.heap.size (Below w.heap.size w) (Ev.orcAdd zkE 321 (.bool true)):=
 (zfM w f g a).add rfl ((enters_of Tryz.func321 (by kernel_rfl) rfl) #[]) fun W _ i=>aw06 W (zaC f i) (zaB g i) (zaA a i)
theorem Aw06 (w:World) (f:PowTab w) (g:BruTab w) (a:MaxVar w):Calls Tryz.prog 320 #[] w fun e w'=>e= .returned (.bool true)∧Below w.heap.size w w':=
 zaF ziQ rfl w (zdR w f g a)
theorem zgO (w:World) (f:PowTab w) (g:BruTab w) (a:MaxVar w):Ev.OrcSound Tryz.prog 100 w.heap.size (Below w.heap.size w) zjF:=
 (zdR w f g a).add rfl ((enters_of Tryz.func320 (by kernel_rfl) rfl) #[]) fun W _ i=>Aw06 W (zaC f i) (zaB g i) (zaA a i)
theorem ziE:Ev.runG Tryz.prog 100 (Ev.orcIn evL zjF) 100000 319 []=some (.bool true):=by kernel_rfl
theorem aw07 (w:World) (f:PowTab w) (g:BruTab w) (a:MaxVar w):Calls Tryz.prog 319 #[] w fun e w'=>e= .returned (.bool true)∧Below w.heap.size w w':=
 zaF ziE rfl w (zgO w f g a)
noncomputable def ziL:Ev.Orc:=Ev.orcAdd (Ev.orcAdd zjF 319 (.bool true)) 318 (.bool true)
theorem zjH:Ev.runG Tryz.prog 100 (Ev.orcIn evL (Ev.orcAdd zjF 319 (.bool true))) 100000 318 []=some (.bool true):=by kernel_rfl
theorem zeJ (w:World) (f:PowTab w) (g:BruTab w) (a:MaxVar w):Ev.OrcSound Tryz.prog 100 w.heap.size (Below w.heap.size w) (Ev.orcAdd zjF 319 (.bool true)):=
 (zgO w f g a).add rfl ((enters_of Tryz.func319 (by kernel_rfl) rfl) #[]) fun W _ i=>aw07 W (zaC f i) (zaB g i) (zaA a i)
theorem Aw07 (w:World) (f:PowTab w) (g:BruTab w) (a:MaxVar w):Calls Tryz.prog 318 #[] w fun e w'=>e= .returned (.bool true)∧Below w.heap.size w w':=
 zaF zjH rfl w (zeJ w f g a)
theorem zgB (w:World) (f:PowTab w) (g:BruTab w) (a:MaxVar w):Ev.OrcSound Tryz.prog 100 w.heap.size (Below w.heap.size w) ziL:=
 (zeJ w f g a).add rfl ((enters_of Tryz.func318 (by kernel_rfl) rfl) #[]) fun W _ i=>Aw07 W (zaC f i) (zaB g i) (zaA a i)
theorem zkJ:Ev.runG Tryz.prog 100 (Ev.orcIn evL ziL) 100000 316 []=some (.bool true):=by kernel_rfl
theorem aw08 (w:World) (f:PowTab w) (g:BruTab w) (a:MaxVar w):Calls Tryz.prog 316 #[] w fun e w'=>e= .returned (.bool true)∧Below w.heap.size w w':=
 zaF zkJ rfl w (zgB w f g a)
noncomputable def ziU:Ev.Orc:=Ev.orcAdd (Ev.orcAdd ziL 316 (.bool true)) 311 (.bool true)
theorem ziS:Ev.runG Tryz.prog 100 (Ev.orcIn evL (Ev.orcAdd ziL 316 (.bool true))) 100000 311 []=some (.bool true):=by kernel_rfl
theorem zeL (w:World) (f:PowTab w) (g:BruTab w) (a:MaxVar w):Ev.OrcSound Tryz.prog 100 w.heap.size (Below w.heap.size w) (Ev.orcAdd ziL 316 (.bool true)):=
 (zgB w f g a).add rfl ((enters_of Tryz.func316 (by kernel_rfl) rfl) #[]) fun W _ i=>aw08 W (zaC f i) (zaB g i) (zaA a i)
theorem Aw08 (w:World) (f:PowTab w) (g:BruTab w) (a:MaxVar w):Calls Tryz.prog 311 #[] w fun e w'=>e= .returned (.bool true)∧Below w.heap.size w w':=
 zaF ziS rfl w (zeL w f g a)
theorem zfV (w:World) (f:PowTab w) (g:BruTab w) (a:MaxVar w):Ev.OrcSound Tryz.prog 100 w.heap.size (Below w.heap.size w) ziU:=
 (zeL w f g a).add rfl ((enters_of Tryz.func311 (by kernel_rfl) rfl) #[]) fun W _ i=>Aw08 W (zaC f i) (zaB g i) (zaA a i)
theorem zjN:Ev.runG Tryz.prog 100 (Ev.orcIn evL ziU) 100000 304 []=some (.bool true):=by kernel_rfl
theorem aw09 (w:World) (f:PowTab w) (g:BruTab w) (a:MaxVar w):Calls Tryz.prog 304 #[] w fun e w'=>e= .returned (.bool true)∧Below w.heap.size w w':=
 zaF zjN rfl w (zfV w f g a)
noncomputable def zjK:Ev.Orc:=Ev.orcAdd (Ev.orcAdd ziU 304 (.bool true)) 299 (.bool true)
theorem ziO:Ev.runG Tryz.prog 100 (Ev.orcIn evL (Ev.orcAdd ziU 304 (.bool true))) 100000 299 []=some (.bool true):=by kernel_rfl
theorem zeK (w:World) (f:PowTab w) (g:BruTab w) (a:MaxVar w):Ev.OrcSound Tryz.prog 100 w.heap.size (Below w.heap.size w) (Ev.orcAdd ziU 304 (.bool true)):=
 (zfV w f g a).add rfl ((enters_of Tryz.func304 (by kernel_rfl) rfl) #[]) fun W _ i=>aw09 W (zaC f i) (zaB g i) (zaA a i)
theorem Aw09 (w:World) (f:PowTab w) (g:BruTab w) (a:MaxVar w):Calls Tryz.prog 299 #[] w fun e w'=>e= .returned (.bool true)∧Below w.heap.size w w':=
 zaF ziO rfl w (zeK w f g a)
theorem zfO (w:World) (f:PowTab w) (g:BruTab w) (a:MaxVar w):Ev.OrcSound Tryz.prog 100 w.heap.size (Below w.heap.size w) zjK:=
 (zeK w f g a).add rfl ((enters_of Tryz.func299 (by kernel_rfl) rfl) #[]) fun W _ i=>Aw09 W (zaC f i) (zaB g i) (zaA a i)
theorem zkP:Ev.runG Tryz.prog 100 (Ev.orcIn evL zjK) 100000 297 []=some (.bool true):=by kernel_rfl
theorem aw10 (w:World) (f:PowTab w) (g:BruTab w) (a:MaxVar w):Calls Tryz.prog 297 #[] w fun e w'=>e= .returned (.bool true)∧Below w.heap.size w w':=
 zaF zkP rfl w (zfO w f g a)
noncomputable def zhK:Ev.Orc:=Ev.orcAdd (Ev.orcAdd zjK 297 (.bool true)) 296 (.bool true)
theorem ziN:Ev.runG Tryz.prog 100 (Ev.orcIn evL (Ev.orcAdd zjK 297 (.bool true))) 100000 296 []=some (.bool true):=by kernel_rfl
theorem zdT (w:World) (f:PowTab w) (g:BruTab w) (a:MaxVar w):Ev.OrcSound Tryz.prog 100 w.heap.size (Below w.heap.size w) (Ev.orcAdd zjK 297 (.bool true)):=
 (zfO w f g a).add rfl ((enters_of Tryz.func297 (by kernel_rfl) rfl) #[]) fun W _ i=>aw10 W (zaC f i) (zaB g i) (zaA a i)
theorem Aw10 (w:World) (f:PowTab w) (g:BruTab w) (a:MaxVar w):Calls Tryz.prog 296 #[] w fun e w'=>e= .returned (.bool true)∧Below w.heap.size w w':=
 zaF ziN rfl w (zdT w f g a)
theorem zgL (w:World) (f:PowTab w) (g:BruTab w) (a:MaxVar w):Ev.OrcSound Tryz.prog 100 w.heap.size (Below w.heap.size w) zhK:=
 (zdT w f g a).add rfl ((enters_of Tryz.func296 (by kernel_rfl) rfl) #[]) fun W _ i=>Aw10 W (zaC f i) (zaB g i) (zaA a i)
theorem ziR:Ev.runG Tryz.prog 100 (Ev.orcIn evL zhK) 100000 295 []=some (.bool true):=by kernel_rfl
theorem aw11 (w:World) (f:PowTab w) (g:BruTab w) (a:MaxVar w):Calls Tryz.prog 295 #[] w fun e w'=>e= .returned (.bool true)∧Below w.heap.size w w':=
 zaF ziR rfl w (zgL w f g a)
noncomputable def zjE:Ev.Orc:=Ev.orcAdd (Ev.orcAdd zhK 295 (.bool true)) 288 (.bool true)
theorem zjZ:Ev.runG Tryz.prog 100 (Ev.orcIn evL (Ev.orcAdd zhK 295 (.bool true))) 100000 288 []=some (.bool true):=by kernel_rfl
theorem zeS (w:World) (f:PowTab w) (g:BruTab w) (a:MaxVar w):Ev.OrcSound Tryz.prog 100 w.heap.size (Below w.heap.size w) (Ev.orcAdd zhK 295 (.bool true)):=
 (zgL w f g a).add rfl ((enters_of Tryz.func295 (by kernel_rfl) rfl) #[]) fun W _ i=>aw11 W (zaC f i) (zaB g i) (zaA a i)
theorem Aw11 (w:World) (f:PowTab w) (g:BruTab w) (a:MaxVar w):Calls Tryz.prog 288 #[] w fun e w'=>e= .returned (.bool true)∧Below w.heap.size w w':=
 zaF zjZ rfl w (zeS w f g a)
theorem zgI (w:World) (f:PowTab w) (g:BruTab w) (a:MaxVar w):Ev.OrcSound Tryz.prog 100 w.heap.size (Below w.heap.size w) zjE:=
 (zeS w f g a).add rfl ((enters_of Tryz.func288 (by kernel_rfl) rfl) #[]) fun W _ i=>Aw11 W (zaC f i) (zaB g i) (zaA a i)
theorem ziA:Ev.runG Tryz.prog 100 (Ev.orcIn evL zjE) 100000 282 []=some (.bool true):=by kernel_rfl
theorem aw12 (w:World) (f:PowTab w) (g:BruTab w) (a:MaxVar w):Calls Tryz.prog 282 #[] w fun e w'=>e= .returned (.bool true)∧Below w.heap.size w w':=
 zaF ziA rfl w (zgI w f g a)
noncomputable def zhM:Ev.Orc:=Ev.orcAdd (Ev.orcAdd zjE 282 (.bool true)) 277 (.bool true)
theorem zjI:Ev.runG Tryz.prog 100 (Ev.orcIn evL (Ev.orcAdd zjE 282 (.bool true))) 100000 277 []=some (.bool true):=by kernel_rfl
theorem zdZ (w:World) (f:PowTab w) (g:BruTab w) (a:MaxVar w):Ev.OrcSound Tryz.prog 100 w.heap.size (Below w.heap.size w) (Ev.orcAdd zjE 282 (.bool true)):=
 (zgI w f g a).add rfl ((enters_of Tryz.func282 (by kernel_rfl) rfl) #[]) fun W _ i=>aw12 W (zaC f i) (zaB g i) (zaA a i)
theorem Aw12 (w:World) (f:PowTab w) (g:BruTab w) (a:MaxVar w):Calls Tryz.prog 277 #[] w fun e w'=>e= .returned (.bool true)∧Below w.heap.size w w':=
 zaF zjI rfl w (zdZ w f g a)
theorem zfL (w:World) (f:PowTab w) (g:BruTab w) (a:MaxVar w):Ev.OrcSound Tryz.prog 100 w.heap.size (Below w.heap.size w) zhM:=
 (zdZ w f g a).add rfl ((enters_of Tryz.func277 (by kernel_rfl) rfl) #[]) fun W _ i=>Aw12 W (zaC f i) (zaB g i) (zaA a i)
theorem zjV:Ev.runG Tryz.prog 100 (Ev.orcIn evL zhM) 100000 275 []=some (.bool true):=by kernel_rfl
theorem aw13 (w:World) (f:PowTab w) (g:BruTab w) (a:MaxVar w):Calls Tryz.prog 275 #[] w fun e w'=>e= .returned (.bool true)∧Below w.heap.size w w':=
 zaF zjV rfl w (zfL w f g a)
noncomputable def zkK:Ev.Orc:=Ev.orcAdd (Ev.orcAdd zhM 275 (.bool true)) 273 (.bool true)
theorem ziF:Ev.runG Tryz.prog 100 (Ev.orcIn evL (Ev.orcAdd zhM 275 (.bool true))) 100000 273 []=some (.bool true):=by kernel_rfl
theorem zeV (w:World) (f:PowTab w) (g:BruTab w) (a:MaxVar w):Ev.OrcSound Tryz.prog 100 w.heap.size (Below w.heap.size w) (Ev.orcAdd zhM 275 (.bool true)):=
 (zfL w f g a).add rfl ((enters_of Tryz.func275 (by kernel_rfl) rfl) #[]) fun W _ i=>aw13 W (zaC f i) (zaB g i) (zaA a i)
theorem Aw13 (w:World) (f:PowTab w) (g:BruTab w) (a:MaxVar w):Calls Tryz.prog 273 #[] w fun e w'=>e= .returned (.bool true)∧Below w.heap.size w w':=
 zaF ziF rfl w (zeV w f g a)
theorem zgD (w:World) (f:PowTab w) (g:BruTab w) (a:MaxVar w):Ev.OrcSound Tryz.prog 100 w.heap.size (Below w.heap.size w) zkK:=
 (zeV w f g a).add rfl ((enters_of Tryz.func273 (by kernel_rfl) rfl) #[]) fun W _ i=>Aw13 W (zaC f i) (zaB g i) (zaA a i)
theorem zjS:Ev.runG Tryz.prog 100 (Ev.orcIn evL zkK) 100000 271 []=some (.bool true):=by kernel_rfl
theorem aw14 (w:World) (f:PowTab w) (g:BruTab w) (a:MaxVar w):Calls Tryz.prog 271 #[] w fun e w'=>e= .returned (.bool true)∧Below w.heap.size w w':=
 zaF zjS rfl w (zgD w f g a)
noncomputable def ziG:Ev.Orc:=Ev.orcAdd (Ev.orcAdd zkK 271 (.bool true)) 270 (.bool true)
theorem zkC:Ev.runG Tryz.prog 100 (Ev.orcIn evL (Ev.orcAdd zkK 271 (.bool true))) 100000 270 []=some (.bool true):=by kernel_rfl
theorem zeE (w:World) (f:PowTab w) (g:BruTab w) (a:MaxVar w):Ev.OrcSound Tryz.prog 100 w.heap.size (Below w.heap.size w) (Ev.orcAdd zkK 271 (.bool true)):=
 (zgD w f g a).add rfl ((enters_of Tryz.func271 (by kernel_rfl) rfl) #[]) fun W _ i=>aw14 W (zaC f i) (zaB g i) (zaA a i)
theorem Aw14 (w:World) (f:PowTab w) (g:BruTab w) (a:MaxVar w):Calls Tryz.prog 270 #[] w fun e w'=>e= .returned (.bool true)∧Below w.heap.size w w':=
 zaF zkC rfl w (zeE w f g a)
theorem zfP (w:World) (f:PowTab w) (g:BruTab w) (a:MaxVar w):Ev.OrcSound Tryz.prog 100 w.heap.size (Below w.heap.size w) ziG:=
 (zeE w f g a).add rfl ((enters_of Tryz.func270 (by kernel_rfl) rfl) #[]) fun W _ i=>Aw14 W (zaC f i) (zaB g i) (zaA a i)
theorem ziD:Ev.runG Tryz.prog 100 (Ev.orcIn evL ziG) 100000 261 []=some (.bool true):=by kernel_rfl
theorem aw15 (w:World) (f:PowTab w) (g:BruTab w) (a:MaxVar w):Calls Tryz.prog 261 #[] w fun e w'=>e= .returned (.bool true)∧Below w.heap.size w w':=
 zaF ziD rfl w (zfP w f g a)
noncomputable def zjO:Ev.Orc:=Ev.orcAdd (Ev.orcAdd ziG 261 (.bool true)) 247 (.bool true)
theorem ziW:Ev.runG Tryz.prog 100 (Ev.orcIn evL (Ev.orcAdd ziG 261 (.bool true))) 100000 247 []=some (.bool true):=by kernel_rfl
theorem zeO (w:World) (f:PowTab w) (g:BruTab w) (a:MaxVar w):Ev.OrcSound Tryz.prog 100 w.heap.size (Below w.heap.size w) (Ev.orcAdd ziG 261 (.bool true)):=
 (zfP w f g a).add rfl ((enters_of Tryz.func261 (by kernel_rfl) rfl) #[]) fun W _ i=>aw15 W (zaC f i) (zaB g i) (zaA a i)
theorem Aw15 (w:World) (f:PowTab w) (g:BruTab w) (a:MaxVar w):Calls Tryz.prog 247 #[] w fun e w'=>e= .returned (.bool true)∧Below w.heap.size w w':=
 zaF ziW rfl w (zeO w f g a)
theorem zfY (w:World) (f:PowTab w) (g:BruTab w) (a:MaxVar w):Ev.OrcSound Tryz.prog 100 w.heap.size (Below w.heap.size w) zjO:=
 (zeO w f g a).add rfl ((enters_of Tryz.func247 (by kernel_rfl) rfl) #[]) fun W _ i=>Aw15 W (zaC f i) (zaB g i) (zaA a i)
theorem ziH:Ev.runG Tryz.prog 100 (Ev.orcIn evL zjO) 100000 223 []=some (.bool true):=by kernel_rfl
theorem aw16 (w:World) (f:PowTab w) (g:BruTab w) (a:MaxVar w):Calls Tryz.prog 223 #[] w fun e w'=>e= .returned (.bool true)∧Below w.heap.size w w':=
 zaF ziH rfl w (zfY w f g a)
noncomputable def ziX:Ev.Orc:=Ev.orcAdd (Ev.orcAdd zjO 223 (.bool true)) 189 (.bool true)
theorem zkR:Ev.runG Tryz.prog 100 (Ev.orcIn evL (Ev.orcAdd zjO 223 (.bool true))) 100000 189 []=some (.bool true):=by kernel_rfl
theorem zeR (w:World) (f:PowTab w) (g:BruTab w) (a:MaxVar w):Ev.OrcSound Tryz.prog 100 w.heap.size (Below w.heap.size w) (Ev.orcAdd zjO 223 (.bool true)):=
 (zfY w f g a).add rfl ((enters_of Tryz.func223 (by kernel_rfl) rfl) #[]) fun W _ i=>aw16 W (zaC f i) (zaB g i) (zaA a i)
theorem Aw16 (w:World) (f:PowTab w) (g:BruTab w) (a:MaxVar w):Calls Tryz.prog 189 #[] w fun e w'=>e= .returned (.bool true)∧Below w.heap.size w w':=
 zaF zkR rfl w (zeR w f g a)
theorem zgN (w:World) (f:PowTab w) (g:BruTab w) (a:MaxVar w):Ev.OrcSound Tryz.prog 100 w.heap.size (Below w.heap.size w) ziX:=
 (zeR w f g a).add rfl ((enters_of Tryz.func189 (by kernel_rfl) rfl) #[]) fun W _ i=>Aw16 W (zaC f i) (zaB g i) (zaA a i)
theorem zjP:Ev.runG Tryz.prog 100 (Ev.orcIn evL ziX) 100000 142 []=some (.bool true):=by kernel_rfl
theorem aw17 (w:World) (f:PowTab w) (g:BruTab w) (a:MaxVar w):Calls Tryz.prog 142 #[] w fun e w'=>e= .returned (.bool true)∧Below w.heap.size w w':=
 zaF zjP rfl w (zgN w f g a)
noncomputable def zhO:Ev.Orc:=Ev.orcAdd (Ev.orcAdd ziX 142 (.bool true)) 98 (.bool true)
theorem ziZ:Ev.runG Tryz.prog 100 (Ev.orcIn evL (Ev.orcAdd ziX 142 (.bool true))) 100000 98 []=some (.bool true):=by kernel_rfl
theorem zeD (w:World) (f:PowTab w) (g:BruTab w) (a:MaxVar w):Ev.OrcSound Tryz.prog 100 w.heap.size (Below w.heap.size w) (Ev.orcAdd ziX 142 (.bool true)):=
 (zgN w f g a).add rfl ((enters_of Tryz.func142 (by kernel_rfl) rfl) #[]) fun W _ i=>aw17 W (zaC f i) (zaB g i) (zaA a i)
theorem Aw17 (w:World) (f:PowTab w) (g:BruTab w) (a:MaxVar w):Calls Tryz.prog 98 #[] w fun e w'=>e= .returned (.bool true)∧Below w.heap.size w w':=
 zaF ziZ rfl w (zeD w f g a)
theorem zfW (w:World) (f:PowTab w) (g:BruTab w) (a:MaxVar w):Ev.OrcSound Tryz.prog 100 w.heap.size (Below w.heap.size w) zhO:=
 (zeD w f g a).add rfl ((enters_of Tryz.func98 (by kernel_rfl) rfl) #[]) fun W _ i=>Aw17 W (zaC f i) (zaB g i) (zaA a i)
theorem ziT:Ev.runG Tryz.prog 100 (Ev.orcIn evL zhO) 100000 69 []=some (.bool true):=by kernel_rfl
theorem aw18 (w:World) (f:PowTab w) (g:BruTab w) (a:MaxVar w):Calls Tryz.prog 69 #[] w fun e w'=>e= .returned (.bool true)∧Below w.heap.size w w':=
 zaF ziT rfl w (zfW w f g a)
noncomputable def zhY:Ev.Orc:=Ev.orcAdd (Ev.orcAdd zhO 69 (.bool true)) 52 (.bool true)
theorem zkO:Ev.runG Tryz.prog 100 (Ev.orcIn evL (Ev.orcAdd zhO 69 (.bool true))) 100000 52 []=some (.bool true):=by kernel_rfl
theorem zeP (w:World) (f:PowTab w) (g:BruTab w) (a:MaxVar w):Ev.OrcSound Tryz.prog 100 w.heap.size (Below w.heap.size w) (Ev.orcAdd zhO 69 (.bool true)):=
 (zfW w f g a).add rfl ((enters_of Tryz.func69 (by kernel_rfl) rfl) #[]) fun W _ i=>aw18 W (zaC f i) (zaB g i) (zaA a i)
theorem Aw18 (w:World) (f:PowTab w) (g:BruTab w) (a:MaxVar w):Calls Tryz.prog 52 #[] w fun e w'=>e= .returned (.bool true)∧Below w.heap.size w w':=
 zaF zkO rfl w (zeP w f g a)
theorem zgA (w:World) (f:PowTab w) (g:BruTab w) (a:MaxVar w):Ev.OrcSound Tryz.prog 100 w.heap.size (Below w.heap.size w) zhY:=
 (zeP w f g a).add rfl ((enters_of Tryz.func52 (by kernel_rfl) rfl) #[]) fun W _ i=>Aw18 W (zaC f i) (zaB g i) (zaA a i)
theorem zkM:Ev.runG Tryz.prog 100 (Ev.orcIn evL zhY) 100000 40 []=some (.bool true):=by kernel_rfl
theorem aw19 (w:World) (f:PowTab w) (g:BruTab w) (a:MaxVar w):Calls Tryz.prog 40 #[] w fun e w'=>e= .returned (.bool true)∧Below w.heap.size w w':=
 zaF zkM rfl w (zgA w f g a)
noncomputable def orc19:Ev.Orc:=Ev.orcAdd (Ev.orcAdd zhY 40 (.bool true)) 26 (.bool true)
theorem ziC:Ev.runG Tryz.prog 100 (Ev.orcIn evL (Ev.orcAdd zhY 40 (.bool true))) 100000 26 []=some (.bool true):=by kernel_rfl
theorem zeH (w:World) (f:PowTab w) (g:BruTab w) (a:MaxVar w):Ev.OrcSound Tryz.prog 100 w.heap.size (Below w.heap.size w) (Ev.orcAdd zhY 40 (.bool true)):=
 (zgA w f g a).add rfl ((enters_of Tryz.func40 (by kernel_rfl) rfl) #[]) fun W _ i=>aw19 W (zaC f i) (zaB g i) (zaA a i)
theorem Aw19 (w:World) (f:PowTab w) (g:BruTab w) (a:MaxVar w):Calls Tryz.prog 26 #[] w fun e w'=>e= .returned (.bool true)∧Below w.heap.size w w':=
 zaF ziC rfl w (zeH w f g a)
theorem zlI (w:World) (f:PowTab w) (g:BruTab w) (a:MaxVar w):Ev.OrcSound Tryz.prog 100 w.heap.size (Below w.heap.size w) orc19:=
 (zeH w f g a).add rfl ((enters_of Tryz.func26 (by kernel_rfl) rfl) #[]) fun W _ i=>Aw19 W (zaC f i) (zaB g i) (zaA a i)
theorem zjX:Ev.runG Tryz.prog 100 (Ev.orcIn evL orc19) 100000 6 []=some (.bool true):=by kernel_rfl
theorem aw20 (w:World) (f:PowTab w) (g:BruTab w) (a:MaxVar w):Calls Tryz.prog 6 #[] w fun e w'=>e= .returned (.bool true)∧Below w.heap.size w w':=
 zaF zjX rfl w (zlI w f g a)
end
end Go.Proofs.YtkiehdigpchebaaGreatDoor
