/-
  What the law CacheNone leans on, and its walk (11 of 12).
-/
import Derived.Test.YteajemblhlbfpaaGreatDoorEvB
import Derived.Shelf.Abstract
import Derived.Test.YteajemblhlbfpaaGreatDoorCacheNonePkE
import Derived.Test.YteajemblhlbfpaaGreatDoorCacheNonePkJ
namespace Go.Proofs.YteajemblhlbfpaaGreatDoor
set_option maxRecDepth 100000
set_option maxHeartbeats 16000000
section
open Go.RowKit
noncomputable def zhL:Ev.Orc:=Ev.orcWith (Ev.orcWith (Ev.orcWith (Ev.orcWith (Ev.orcWith (Ev.orcWith (Ev.orcWith (Ev.orcWith (Ev.orcWith (Ev.orcNone) 196 Ev.oReplace) 183 Ev.oJoin) 93 Ev.oItoa) 258 Ev.oTz) 74 Ev.oLen) 261 Ev.oCount) 197 Ev.oIndex) 236 Ev.oNoEscape) 246 Ev.oIndexByte
theorem zcN (w:World) (i:PowTab w) (d:BruTab w) (b:MaxVar w):Ev.OrcSound Tryz.prog 100 w.heap.size (Below w.heap.size w) zhL:=by
 refine Ev.orcNone_sound|>.with ?o0|>.with ?o1|>.with ?o2|>.with ?o3|>.with ?o4|>.with ?o5|>.with ?o6|>.with ?o7|>.with ?o8
 case o0=>exact Ev.oReplace_ok (enters_of Tryz.func196 (by kernel_rfl) rfl) fun s o n W a g f j=>by obtain ⟨m,l⟩:=zaB b a;exact Tryz.strings_ReplaceAll s o n m W g l f j
 case o1=>exact Ev.oJoin_ok (enters_of Tryz.func183 (by kernel_rfl) rfl) fun r o c v p w g f j q y=>Tryz.strings_Join r o c v p w g f j q y
 case o2=>exact Ev.oItoa_ok (enters_of Tryz.func93 (by kernel_rfl) rfl) fun n W a g f=>(Tryz.strconv_Itoa n g f W (zaC i a)).mono (by rintro e w' ⟨rfl,k,os,rfl⟩;exact ⟨rfl,Lib.below_grow _ _ (Nat.le_refl _) _ _⟩)
 case o3=>exact Ev.oTz_ok (enters_of Tryz.func258 (by kernel_rfl) rfl) (fun W a=>(tz64_8 W (zaA d a)).mono fun _ _ h=>⟨h.1,h.2.symm⟩) (fun W a=>(zhK W (zaA d a)).mono fun _ _ h=>⟨h.1,h.2.symm⟩)
 case o4=>exact Ev.oLen_ok (enters_of Tryz.func74 (by kernel_rfl) rfl) fun x W g f=>Tryz.bits_Len64 x W g f
 case o5=>exact Ev.oCount_ok Tryz.func261 (by kernel_rfl) (by kernel_rfl) (by kernel_rfl) (by kernel_rfl)
 case o6=>exact Ev.oIndex_ok (enters_of Tryz.func197 (by kernel_rfl) rfl) fun s t W a h=>by obtain ⟨m,l⟩:=zaB b a;exact Tryz.stringslite_Index s t m W h l
 case o7=>exact Ev.oNoEscape_ok Tryz.func236 (by kernel_rfl) (by kernel_rfl) (by kernel_rfl) (by kernel_rfl)
 case o8=>exact Ev.oIndexByte_ok Tryz.func246 (by kernel_rfl) (by kernel_rfl) (by kernel_rfl) (by kernel_rfl)
theorem zgX:(Tryz.prog.funcs.toList.all fun f=> !(f.name== "runtime.NumGoroutine"))=true:=by kernel_rfl
theorem zdJ:Ev.NoNum Tryz.prog:=fun g f h=>by
 have:=List.all_eq_true.1 zgX f (by simpa using Array.mem_of_getElem? h)
 simpa using this
theorem zdH:Tryz.prog.follows .mixedOrders=true:=by kernel_rfl
theorem zcX (w:World):Ev.Stays w.heap.size (Below w.heap.size w):=fun _ _ h k=>k.trans h
def evL:List Nat:=[7,21,34,44,61,74,75,90,93,102,104,134,141,181,183,196,197,215,236,239,246,253,258,261,262,263,265,267,269,274,280,287,288,289,291,296,303,308,310,311,312,313,314,316,317,318,319,320,321,322,323,324]
theorem zaE {a:Ev.Orc} {n:Nat} {f:FuncId} {v:Value} (h:Ev.runG Tryz.prog 100 (Ev.orcIn evL a) n f []=some v) (c:Ev.pf 100 6 v=true) (w:World) (b:Ev.OrcSound Tryz.prog 100 w.heap.size (Below w.heap.size w) a):
  Calls Tryz.prog f #[] w fun e w'=>e= .returned v∧Below w.heap.size w w':=
 Ev.runF_sound (zcX w) zdJ zdH (Ev.orcIn_ok evL b) (Ev.runG_ok h) rfl c w rfl (Below.refl _ _)
def memoT:List (List UInt8×Nat×Nat×Nat):=[([48,46,48,46,48,46,48,47,56],0,281470681743360,104),
 ([49,48,46,48,46,48,46,48,47,56],0,281470849515520,104),
 ([49,48,48,46,54,52,46,48,46,48,47,49,48],0,281472363659264,106),
 ([49,50,55,46,48,46,48,46,48,47,56],0,281472812449792,104),
 ([49,54,57,46,50,53,52,46,48,46,48,47,49,54],0,281473533739008,112),
 ([49,55,50,46,49,54,46,48,46,48,47,49,50],0,281473568473088,108),
 ([49,57,50,46,48,46,48,46,48,47,50,52],0,281473902968832,120),
 ([49,57,50,46,48,46,50,46,48,47,50,52],0,281473902969344,120),
 ([49,57,50,46,56,56,46,57,57,46,48,47,50,52],0,281473908761344,120),
 ([49,57,50,46,49,54,56,46,48,46,48,47,49,54],0,281473913978880,112),
 ([49,57,56,46,49,56,46,48,46,48,47,49,53],0,281474004811776,111),
 ([49,57,56,46,53,49,46,49,48,48,46,48,47,50,52],0,281474007000064,120),
 ([50,48,51,46,48,46,49,49,51,46,48,47,50,52],0,281474087547136,120),
 ([50,50,52,46,48,46,48,46,48,47,52],0,281474439839744,100),
 ([50,52,48,46,48,46,48,46,48,47,52],0,281474708275200,100),
 ([58,58,47,49,50,56],0,0,128),
 ([58,58,49,47,49,50,56],0,1,128),
 ([54,52,58,102,102,57,98,58,49,58,58,47,52,56],28428538856144896,0,48),
 ([49,48,48,58,58,47,54,52],72057594037927936,0,64),
 ([50,48,48,49,58,58,47,50,51],2306124484190404608,0,23),
 ([50,48,48,49,58,100,98,56,58,58,47,51,50],2306139568115548160,0,32),
 ([51,102,102,102,58,58,47,50,48],4611404543450677248,0,20),
 ([53,102,48,48,58,58,47,49,54],6845471433603153920,0,16),
 ([102,99,48,48,58,58,47,55],18158513697557839872,0,7),
 ([102,101,56,48,58,58,47,49,48],18338657682652659712,0,10),
 ([102,101,99,48,58,58,47,49,48],18356672081162141696,0,10),
 ([102,102,48,48,58,58,47,56],18374686479671623680,0,8)]
def zhT (x:List UInt8×Nat×Nat×Nat):Value:= .tuple ⟨[.agg ⟨[.int .u64 (.ofNat x.2.1),.int .u64 (.ofNat x.2.2.1),.int .i64 (.ofNat x.2.2.2)]⟩,.bool true]⟩
def isPf (r:Option Value) (a b c:Nat):Bool:=match r with
 |some (.tuple ⟨[.agg ⟨[.int .u64 (.ofNat x),.int .u64 (.ofNat y),.int .i64 (.ofNat z)]⟩,.bool true]⟩)=>Nat.beq x a&&(Nat.beq y b&&Nat.beq z c)
 |_=>false
theorem zhQ {r:Option Value} {x:List UInt8×Nat×Nat×Nat} (h:isPf r x.2.1 x.2.2.1 x.2.2.2=true):r=some (zhT x):=by
 unfold isPf at h
 split at h
 ·rw [Bool.and_eq_true,Bool.and_eq_true] at h
  unfold zhT
  rw [Nat.eq_of_beq_eq_true h.1,Nat.eq_of_beq_eq_true h.2.1,Nat.eq_of_beq_eq_true h.2.2]
 ·cases h
theorem zdZ:(memoT.all fun x=>isPf (Ev.runG Tryz.prog 100 (Ev.orcIn evL zhL) 100000 141 [.string ⟨x.1.toArray⟩]) x.2.1 x.2.2.1 x.2.2.2)=true:=by kernel_rfl
noncomputable def orcM:Ev.Orc:=Ev.orcWith zhL 141 (Ev.oMemo (memoT.map fun x=>(x.1,zhT x)))
theorem zhW (w:World) (a:PowTab w) (b:BruTab w) (c:MaxVar w):Ev.OrcSound Tryz.prog 100 w.heap.size (Below w.heap.size w) orcM:=by
 refine (zcN w a b c).with (Ev.oMemo_ok (enters_of Tryz.func141 (by kernel_rfl) rfl) (by kernel_rfl) fun x e W i d=> ?_)
 obtain ⟨y,f,rfl⟩:=List.mem_map.1 e
 have h:=zhQ (List.all_eq_true.1 zdZ y f)
 have g:=Ev.runF_sound (zcX W) zdJ zdH (Ev.orcIn_ok evL (zcN W (zaC a d) (zaA b d) (zaB c d))) (Ev.runG_ok h) rfl rfl W rfl (Below.refl _ _)
 simpa using g
def zfP:Ev.OrcH:=fun a _=>match a with
 |[.agg ⟨[.int .u64 (.ofNat hi),.int .u64 (.ofNat b),.int .i64 (.ofNat n)]⟩]=>(match Nat.blt hi 18446744073709551616&&Nat.blt b 18446744073709551616 with|true=>some (.bool (zaF (zaD hi b) (n:Int)))|false=>none)
 |_=>none
theorem zfJ {b:Nat} {T:World→Prop}:Ev.OrcFn Tryz.prog 100 b T 75 zfP:=by
 refine Ev.oFn_ok (enters_of Tryz.func75 (by kernel_rfl) rfl) fun d e v a=> ?_
 unfold zfP at a
 split at a
 ·split at a
  ·rename_i c
   cases a
   simp only [Bool.and_eq_true] at c
   refine ⟨rfl,rfl,fun W _ _=> ?_⟩
   exact zaG _ _ _ W (Ev.blt_ok c.1) (Ev.blt_ok c.2)
  ·cases a
 ·cases a
noncomputable def zbY:Ev.Orc:=Ev.orcWith orcM 75 zfP
theorem zcD (w:World) (b:PowTab w) (a:BruTab w) (c:MaxVar w):Ev.OrcSound Tryz.prog 100 w.heap.size (Below w.heap.size w) zbY:=(zhW w b a c).with zfJ
def zcJ:Ev.OrcH:=fun c _=>match c with
 |[.agg ⟨[.int .u64 (.ofNat hi),.int .u64 (.ofNat d),.int .i64 (.ofNat n)]⟩,.agg ⟨[.int .u64 (.ofNat a),.int .u64 (.ofNat b),.int .i64 (.ofNat m)]⟩]=>(match (Nat.blt hi 18446744073709551616&&Nat.blt d 18446744073709551616)&&(Nat.blt a 18446744073709551616&&Nat.blt b 18446744073709551616) with|true=>some (.bool (zaI (zaD hi d) (n:Int) (zaD a b) (m:Int)))|false=>none)
 |_=>none
theorem zdR {c:Nat} {T:World→Prop}:Ev.OrcFn Tryz.prog 100 c T 102 zcJ:=by
 refine Ev.oFn_ok (enters_of Tryz.func102 (by kernel_rfl) rfl) fun d e v a=> ?_
 unfold zcJ at a
 split at a
 ·split at a
  ·rename_i b
   cases a
   simp only [Bool.and_eq_true] at b
   refine ⟨rfl,rfl,fun W _ _=> ?_⟩
   exact zdO _ _ _ _ _ _ W (Ev.blt_ok b.1.1) (Ev.blt_ok b.1.2) (Ev.blt_ok b.2.1) (Ev.blt_ok b.2.2)
  ·cases a
 ·cases a
noncomputable def zbF:Ev.Orc:=Ev.orcWith zbY 102 zcJ
theorem zbH (w:World) (b:PowTab w) (a:BruTab w) (c:MaxVar w):Ev.OrcSound Tryz.prog 100 w.heap.size (Below w.heap.size w) zbF:=(zcD w b a c).with zdR
def zcG:Ev.OrcH:=fun a _=>match a with
 |[.agg ⟨[.int .u64 (.ofNat hi),.int .u64 (.ofNat d),.int .i64 (.ofNat n)]⟩,.agg ⟨[.int .u64 (.ofNat c),.int .u64 (.ofNat b),.int .i64 (.ofNat k)]⟩]=>(match ((Nat.blt hi 18446744073709551616&&Nat.blt d 18446744073709551616)&&(Nat.blt c 18446744073709551616&&Nat.blt b 18446744073709551616))&&(Nat.ble n 128&&Nat.ble k 128) with|true=>some (pfW (ofW (zaD c b) (zaS (zaD hi d) n (zaD c b) k)) (zaS (zaD hi d) n (zaD c b) k:Nat))|false=>none)
 |_=>none
theorem zdQ {c:Nat} {T:World→Prop}:Ev.OrcFn Tryz.prog 100 c T 104 zcG:=by
 refine Ev.oFn_ok (enters_of Tryz.func104 (by kernel_rfl) rfl) fun d e v b=> ?_
 unfold zcG at b
 split at b
 ·split at b
  ·rename_i a
   cases b
   simp only [Bool.and_eq_true] at a
   refine ⟨rfl,rfl,fun W _ _=> ?_⟩
   exact zdP _ _ _ _ _ _ W (Ev.blt_ok a.1.1.1) (Ev.blt_ok a.1.1.2) (Ev.blt_ok a.1.2.1) (Ev.blt_ok a.1.2.2) (Nat.le_of_ble_eq_true a.2.1) (Nat.le_of_ble_eq_true a.2.2)
  ·cases b
 ·cases b
noncomputable def zaL:Ev.Orc:=Ev.orcWith zbF 104 zcG
theorem zaV (w:World) (b:PowTab w) (a:BruTab w) (c:MaxVar w):Ev.OrcSound Tryz.prog 100 w.heap.size (Below w.heap.size w) zaL:=(zbH w b a c).with zdQ
theorem zfX:Ev.runG Tryz.prog 100 (Ev.orcIn evL zaL) 100000 324 []=some (.bool true):=by kernel_rfl
theorem aw01 (w:World) (a:PowTab w) (b:BruTab w) (c:MaxVar w):Calls Tryz.prog 324 #[] w fun e w'=>e= .returned (.bool true)∧Below w.heap.size w w':=
 zaE zfX rfl w (zaV w a b c)
noncomputable def zeX:Ev.Orc:=Ev.orcAdd (Ev.orcAdd zaL 324 (.bool true)) 323 (.bool true)
theorem zeW:Ev.runG Tryz.prog 100 (Ev.orcIn evL (Ev.orcAdd zaL 324 (.bool true))) 100000 323 []=some (.bool true):=by kernel_rfl
theorem zbL (w:World) (a:PowTab w) (b:BruTab w) (c:MaxVar w):Ev.OrcSound Tryz.prog 100 w.heap.size (Below w.heap.size w) (Ev.orcAdd zaL 324 (.bool true)):=
 (zaV w a b c).add rfl ((enters_of Tryz.func324 (by kernel_rfl) rfl) #[]) fun W _ d=>aw01 W (zaC a d) (zaA b d) (zaB c d)
theorem Aw01 (w:World) (a:PowTab w) (b:BruTab w) (c:MaxVar w):Calls Tryz.prog 323 #[] w fun e w'=>e= .returned (.bool true)∧Below w.heap.size w w':=
 zaE zeW rfl w (zbL w a b c)
theorem zcO (w:World) (a:PowTab w) (b:BruTab w) (c:MaxVar w):Ev.OrcSound Tryz.prog 100 w.heap.size (Below w.heap.size w) zeX:=
 (zbL w a b c).add rfl ((enters_of Tryz.func323 (by kernel_rfl) rfl) #[]) fun W _ d=>Aw01 W (zaC a d) (zaA b d) (zaB c d)
theorem zgH:Ev.runG Tryz.prog 100 (Ev.orcIn evL zeX) 100000 322 []=some (.bool true):=by kernel_rfl
theorem aw02 (w:World) (a:PowTab w) (b:BruTab w) (c:MaxVar w):Calls Tryz.prog 322 #[] w fun e w'=>e= .returned (.bool true)∧Below w.heap.size w w':=
 zaE zgH rfl w (zcO w a b c)
noncomputable def zdW:Ev.Orc:=Ev.orcAdd (Ev.orcAdd zeX 322 (.bool true)) 321 (.bool true)
theorem zdX:Ev.runG Tryz.prog 100 (Ev.orcIn evL (Ev.orcAdd zeX 322 (.bool true))) 100000 321 []=some (.bool true):=by kernel_rfl
theorem zbJ (w:World) (a:PowTab w) (b:BruTab w) (c:MaxVar w):Ev.OrcSound Tryz.prog 100 w.heap.size (Below w.heap.size w) (Ev.orcAdd zeX 322 (.bool true)):=
 (zcO w a b c).add rfl ((enters_of Tryz.func322 (by kernel_rfl) rfl) #[]) fun W _ d=>aw02 W (zaC a d) (zaA b d) (zaB c d)
theorem Aw02 (w:World) (a:PowTab w) (b:BruTab w) (c:MaxVar w):Calls Tryz.prog 321 #[] w fun e w'=>e= .returned (.bool true)∧Below w.heap.size w w':=
 zaE zdX rfl w (zbJ w a b c)
theorem zcK (w:World) (a:PowTab w) (b:BruTab w) (c:MaxVar w):Ev.OrcSound Tryz.prog 100 w.heap.size (Below w.heap.size w) zdW:=
 (zbJ w a b c).add rfl ((enters_of Tryz.func321 (by kernel_rfl) rfl) #[]) fun W _ d=>Aw02 W (zaC a d) (zaA b d) (zaB c d)
theorem zfB:Ev.runG Tryz.prog 100 (Ev.orcIn evL zdW) 100000 320 []=some (.bool true):=by kernel_rfl
theorem aw03 (w:World) (a:PowTab w) (b:BruTab w) (c:MaxVar w):Calls Tryz.prog 320 #[] w fun e w'=>e= .returned (.bool true)∧Below w.heap.size w w':=
 zaE zfB rfl w (zcK w a b c)
noncomputable def zfV:Ev.Orc:=Ev.orcAdd (Ev.orcAdd zdW 320 (.bool true)) 319 (.bool true)
theorem zgD:Ev.runG Tryz.prog 100 (Ev.orcIn evL (Ev.orcAdd zdW 320 (.bool true))) 100000 319 []=some (.bool true):=by kernel_rfl
theorem zcB (w:World) (a:PowTab w) (b:BruTab w) (c:MaxVar w):Ev.OrcSound Tryz.prog 100 w.heap.size (Below w.heap.size w) (Ev.orcAdd zdW 320 (.bool true)):=
 (zcK w a b c).add rfl ((enters_of Tryz.func320 (by kernel_rfl) rfl) #[]) fun W _ d=>aw03 W (zaC a d) (zaA b d) (zaB c d)
theorem Aw03 (w:World) (a:PowTab w) (b:BruTab w) (c:MaxVar w):Calls Tryz.prog 319 #[] w fun e w'=>e= .returned (.bool true)∧Below w.heap.size w w':=
 zaE zgD rfl w (zcB w a b c)
theorem zdK (w:World) (a:PowTab w) (b:BruTab w) (c:MaxVar w):Ev.OrcSound Tryz.prog 100 w.heap.size (Below w.heap.size w) zfV:=
 (zcB w a b c).add rfl ((enters_of Tryz.func319 (by kernel_rfl) rfl) #[]) fun W _ d=>Aw03 W (zaC a d) (zaA b d) (zaB c d)
theorem zdT:Ev.runG Tryz.prog 100 (Ev.orcIn evL zfV) 100000 318 []=some (.bool true):=by kernel_rfl
theorem aw04 (w:World) (a:PowTab w) (b:BruTab w) (c:MaxVar w):Calls Tryz.prog 318 #[] w fun e w'=>e= .returned (.bool true)∧Below w.heap.size w w':=
 zaE zdT rfl w (zdK w a b c)
noncomputable def zfA:Ev.Orc:=Ev.orcAdd (Ev.orcAdd zfV 318 (.bool true)) 317 (.bool true)
theorem zgB:Ev.runG Tryz.prog 100 (Ev.orcIn evL (Ev.orcAdd zfV 318 (.bool true))) 100000 317 []=some (.bool true):=by kernel_rfl
theorem zbT (w:World) (a:PowTab w) (b:BruTab w) (c:MaxVar w):Ev.OrcSound Tryz.prog 100 w.heap.size (Below w.heap.size w) (Ev.orcAdd zfV 318 (.bool true)):=
 (zdK w a b c).add rfl ((enters_of Tryz.func318 (by kernel_rfl) rfl) #[]) fun W _ d=>aw04 W (zaC a d) (zaA b d) (zaB c d)
theorem Aw04 (w:World) (a:PowTab w) (b:BruTab w) (c:MaxVar w):Calls Tryz.prog 317 #[] w fun e w'=>e= .returned (.bool true)∧Below w.heap.size w w':=
 zaE zgB rfl w (zbT w a b c)
theorem zcY (w:World) (a:PowTab w) (b:BruTab w) (c:MaxVar w):Ev.OrcSound Tryz.prog 100 w.heap.size (Below w.heap.size w) zfA:=
 (zbT w a b c).add rfl ((enters_of Tryz.func317 (by kernel_rfl) rfl) #[]) fun W _ d=>Aw04 W (zaC a d) (zaA b d) (zaB c d)
theorem zeF:Ev.runG Tryz.prog 100 (Ev.orcIn evL zfA) 100000 316 []=some (.bool true):=by kernel_rfl
theorem aw05 (w:World) (a:PowTab w) (b:BruTab w) (c:MaxVar w):Calls Tryz.prog 316 #[] w fun e w'=>e= .returned (.bool true)∧Below w.heap.size w w':=
 zaE zeF rfl w (zcY w a b c)
noncomputable def zeU:Ev.Orc:=Ev.orcAdd (Ev.orcAdd zfA 316 (.bool true)) 314 (.bool true)
theorem zfC:Ev.runG Tryz.prog 100 (Ev.orcIn evL (Ev.orcAdd zfA 316 (.bool true))) 100000 314 []=some (.bool true):=by kernel_rfl
theorem zbV (w:World) (a:PowTab w) (b:BruTab w) (c:MaxVar w):Ev.OrcSound Tryz.prog 100 w.heap.size (Below w.heap.size w) (Ev.orcAdd zfA 316 (.bool true)):=
 (zcY w a b c).add rfl ((enters_of Tryz.func316 (by kernel_rfl) rfl) #[]) fun W _ d=>aw05 W (zaC a d) (zaA b d) (zaB c d)
theorem Aw05 (w:World) (a:PowTab w) (b:BruTab w) (c:MaxVar w):Calls Tryz.prog 314 #[] w fun e w'=>e= .returned (.bool true)∧Below w.heap.size w w':=
 zaE zfC rfl w (zbV w a b c)
theorem zdA (w:World) (a:PowTab w) (b:BruTab w) (c:MaxVar w):Ev.OrcSound Tryz.prog 100 w.heap.size (Below w.heap.size w) zeU:=
 (zbV w a b c).add rfl ((enters_of Tryz.func314 (by kernel_rfl) rfl) #[]) fun W _ d=>Aw05 W (zaC a d) (zaA b d) (zaB c d)
theorem zfS:Ev.runG Tryz.prog 100 (Ev.orcIn evL zeU) 100000 313 []=some (.bool true):=by kernel_rfl
theorem aw06 (w:World) (a:PowTab w) (b:BruTab w) (c:MaxVar w):Calls Tryz.prog 313 #[] w fun e w'=>e= .returned (.bool true)∧Below w.heap.size w w':=
 zaE zfS rfl w (zdA w a b c)
noncomputable def zfK:Ev.Orc:=Ev.orcAdd (Ev.orcAdd zeU 313 (.bool true)) 312 (.bool true)
theorem zfY:Ev.runG Tryz.prog 100 (Ev.orcIn evL (Ev.orcAdd zeU 313 (.bool true))) 100000 312 []=some (.bool true):=by kernel_rfl
theorem zcE (w:World) (a:PowTab w) (b:BruTab w) (c:MaxVar w):Ev.OrcSound Tryz.prog 100 w.heap.size (Below w.heap.size w) (Ev.orcAdd zeU 313 (.bool true)):=
 (zdA w a b c).add rfl ((enters_of Tryz.func313 (by kernel_rfl) rfl) #[]) fun W _ d=>aw06 W (zaC a d) (zaA b d) (zaB c d)
theorem Aw06 (w:World) (a:PowTab w) (b:BruTab w) (c:MaxVar w):Calls Tryz.prog 312 #[] w fun e w'=>e= .returned (.bool true)∧Below w.heap.size w w':=
 zaE zfY rfl w (zcE w a b c)
theorem zdB (w:World) (a:PowTab w) (b:BruTab w) (c:MaxVar w):Ev.OrcSound Tryz.prog 100 w.heap.size (Below w.heap.size w) zfK:=
 (zcE w a b c).add rfl ((enters_of Tryz.func312 (by kernel_rfl) rfl) #[]) fun W _ d=>Aw06 W (zaC a d) (zaA b d) (zaB c d)
theorem zfH:Ev.runG Tryz.prog 100 (Ev.orcIn evL zfK) 100000 311 []=some (.bool true):=by kernel_rfl
theorem aw07 (w:World) (a:PowTab w) (b:BruTab w) (c:MaxVar w):Calls Tryz.prog 311 #[] w fun e w'=>e= .returned (.bool true)∧Below w.heap.size w w':=
 zaE zfH rfl w (zdB w a b c)
noncomputable def zeV:Ev.Orc:=Ev.orcAdd (Ev.orcAdd zfK 311 (.bool true)) 310 (.bool true)
theorem zeP:Ev.runG Tryz.prog 100 (Ev.orcIn evL (Ev.orcAdd zfK 311 (.bool true))) 100000 310 []=some (.bool true):=by kernel_rfl
theorem zbI (w:World) (a:PowTab w) (b:BruTab w) (c:MaxVar w):Ev.OrcSound Tryz.prog 100 w.heap.size (Below w.heap.size w) (Ev.orcAdd zfK 311 (.bool true)):=
 (zdB w a b c).add rfl ((enters_of Tryz.func311 (by kernel_rfl) rfl) #[]) fun W _ d=>aw07 W (zaC a d) (zaA b d) (zaB c d)
theorem Aw07 (w:World) (a:PowTab w) (b:BruTab w) (c:MaxVar w):Calls Tryz.prog 310 #[] w fun e w'=>e= .returned (.bool true)∧Below w.heap.size w w':=
 zaE zeP rfl w (zbI w a b c)
theorem zdC (w:World) (a:PowTab w) (b:BruTab w) (c:MaxVar w):Ev.OrcSound Tryz.prog 100 w.heap.size (Below w.heap.size w) zeV:=
 (zbI w a b c).add rfl ((enters_of Tryz.func310 (by kernel_rfl) rfl) #[]) fun W _ d=>Aw07 W (zaC a d) (zaA b d) (zaB c d)
theorem zgG:Ev.runG Tryz.prog 100 (Ev.orcIn evL zeV) 100000 308 []=some (.bool true):=by kernel_rfl
theorem aw08 (w:World) (a:PowTab w) (b:BruTab w) (c:MaxVar w):Calls Tryz.prog 308 #[] w fun e w'=>e= .returned (.bool true)∧Below w.heap.size w w':=
 zaE zgG rfl w (zdC w a b c)
noncomputable def zfR:Ev.Orc:=Ev.orcAdd (Ev.orcAdd zeV 308 (.bool true)) 303 (.bool true)
theorem zgC:Ev.runG Tryz.prog 100 (Ev.orcIn evL (Ev.orcAdd zeV 308 (.bool true))) 100000 303 []=some (.bool true):=by kernel_rfl
theorem zbQ (w:World) (a:PowTab w) (b:BruTab w) (c:MaxVar w):Ev.OrcSound Tryz.prog 100 w.heap.size (Below w.heap.size w) (Ev.orcAdd zeV 308 (.bool true)):=
 (zdC w a b c).add rfl ((enters_of Tryz.func308 (by kernel_rfl) rfl) #[]) fun W _ d=>aw08 W (zaC a d) (zaA b d) (zaB c d)
theorem Aw08 (w:World) (a:PowTab w) (b:BruTab w) (c:MaxVar w):Calls Tryz.prog 303 #[] w fun e w'=>e= .returned (.bool true)∧Below w.heap.size w w':=
 zaE zgC rfl w (zbQ w a b c)
theorem zcM (w:World) (a:PowTab w) (b:BruTab w) (c:MaxVar w):Ev.OrcSound Tryz.prog 100 w.heap.size (Below w.heap.size w) zfR:=
 (zbQ w a b c).add rfl ((enters_of Tryz.func303 (by kernel_rfl) rfl) #[]) fun W _ d=>Aw08 W (zaC a d) (zaA b d) (zaB c d)
theorem zeN:Ev.runG Tryz.prog 100 (Ev.orcIn evL zfR) 100000 296 []=some (.bool true):=by kernel_rfl
theorem aw09 (w:World) (a:PowTab w) (b:BruTab w) (c:MaxVar w):Calls Tryz.prog 296 #[] w fun e w'=>e= .returned (.bool true)∧Below w.heap.size w w':=
 zaE zeN rfl w (zcM w a b c)
noncomputable def zgJ:Ev.Orc:=Ev.orcAdd (Ev.orcAdd zfR 296 (.bool true)) 291 (.bool true)
theorem zfD:Ev.runG Tryz.prog 100 (Ev.orcIn evL (Ev.orcAdd zfR 296 (.bool true))) 100000 291 []=some (.bool true):=by kernel_rfl
theorem zbU (w:World) (a:PowTab w) (b:BruTab w) (c:MaxVar w):Ev.OrcSound Tryz.prog 100 w.heap.size (Below w.heap.size w) (Ev.orcAdd zfR 296 (.bool true)):=
 (zcM w a b c).add rfl ((enters_of Tryz.func296 (by kernel_rfl) rfl) #[]) fun W _ d=>aw09 W (zaC a d) (zaA b d) (zaB c d)
theorem Aw09 (w:World) (a:PowTab w) (b:BruTab w) (c:MaxVar w):Calls Tryz.prog 291 #[] w fun e w'=>e= .returned (.bool true)∧Below w.heap.size w w':=
 zaE zfD rfl w (zbU w a b c)
theorem zcT (w:World) (a:PowTab w) (b:BruTab w) (c:MaxVar w):Ev.OrcSound Tryz.prog 100 w.heap.size (Below w.heap.size w) zgJ:=
 (zbU w a b c).add rfl ((enters_of Tryz.func291 (by kernel_rfl) rfl) #[]) fun W _ d=>Aw09 W (zaC a d) (zaA b d) (zaB c d)
theorem zeJ:Ev.runG Tryz.prog 100 (Ev.orcIn evL zgJ) 100000 289 []=some (.bool true):=by kernel_rfl
theorem aw10 (w:World) (a:PowTab w) (b:BruTab w) (c:MaxVar w):Calls Tryz.prog 289 #[] w fun e w'=>e= .returned (.bool true)∧Below w.heap.size w w':=
 zaE zeJ rfl w (zcT w a b c)
noncomputable def zeG:Ev.Orc:=Ev.orcAdd (Ev.orcAdd zgJ 289 (.bool true)) 288 (.bool true)
theorem zdV:Ev.runG Tryz.prog 100 (Ev.orcIn evL (Ev.orcAdd zgJ 289 (.bool true))) 100000 288 []=some (.bool true):=by kernel_rfl
theorem zbS (w:World) (a:PowTab w) (b:BruTab w) (c:MaxVar w):Ev.OrcSound Tryz.prog 100 w.heap.size (Below w.heap.size w) (Ev.orcAdd zgJ 289 (.bool true)):=
 (zcT w a b c).add rfl ((enters_of Tryz.func289 (by kernel_rfl) rfl) #[]) fun W _ d=>aw10 W (zaC a d) (zaA b d) (zaB c d)
theorem Aw10 (w:World) (a:PowTab w) (b:BruTab w) (c:MaxVar w):Calls Tryz.prog 288 #[] w fun e w'=>e= .returned (.bool true)∧Below w.heap.size w w':=
 zaE zdV rfl w (zbS w a b c)
theorem zdG (w:World) (a:PowTab w) (b:BruTab w) (c:MaxVar w):Ev.OrcSound Tryz.prog 100 w.heap.size (Below w.heap.size w) zeG:=
 (zbS w a b c).add rfl ((enters_of Tryz.func288 (by kernel_rfl) rfl) #[]) fun W _ d=>Aw10 W (zaC a d) (zaA b d) (zaB c d)
theorem zfO:Ev.runG Tryz.prog 100 (Ev.orcIn evL zeG) 100000 287 []=some (.bool true):=by kernel_rfl
theorem aw11 (w:World) (a:PowTab w) (b:BruTab w) (c:MaxVar w):Calls Tryz.prog 287 #[] w fun e w'=>e= .returned (.bool true)∧Below w.heap.size w w':=
 zaE zfO rfl w (zdG w a b c)
noncomputable def zeH:Ev.Orc:=Ev.orcAdd (Ev.orcAdd zeG 287 (.bool true)) 280 (.bool true)
theorem zfW:Ev.runG Tryz.prog 100 (Ev.orcIn evL (Ev.orcAdd zeG 287 (.bool true))) 100000 280 []=some (.bool true):=by kernel_rfl
theorem zbO (w:World) (a:PowTab w) (b:BruTab w) (c:MaxVar w):Ev.OrcSound Tryz.prog 100 w.heap.size (Below w.heap.size w) (Ev.orcAdd zeG 287 (.bool true)):=
 (zdG w a b c).add rfl ((enters_of Tryz.func287 (by kernel_rfl) rfl) #[]) fun W _ d=>aw11 W (zaC a d) (zaA b d) (zaB c d)
theorem Aw11 (w:World) (a:PowTab w) (b:BruTab w) (c:MaxVar w):Calls Tryz.prog 280 #[] w fun e w'=>e= .returned (.bool true)∧Below w.heap.size w w':=
 zaE zfW rfl w (zbO w a b c)
theorem zcQ (w:World) (a:PowTab w) (b:BruTab w) (c:MaxVar w):Ev.OrcSound Tryz.prog 100 w.heap.size (Below w.heap.size w) zeH:=
 (zbO w a b c).add rfl ((enters_of Tryz.func280 (by kernel_rfl) rfl) #[]) fun W _ d=>Aw11 W (zaC a d) (zaA b d) (zaB c d)
theorem zfT:Ev.runG Tryz.prog 100 (Ev.orcIn evL zeH) 100000 274 []=some (.bool true):=by kernel_rfl
theorem aw12 (w:World) (a:PowTab w) (b:BruTab w) (c:MaxVar w):Calls Tryz.prog 274 #[] w fun e w'=>e= .returned (.bool true)∧Below w.heap.size w w':=
 zaE zfT rfl w (zcQ w a b c)
noncomputable def zeS:Ev.Orc:=Ev.orcAdd (Ev.orcAdd zeH 274 (.bool true)) 269 (.bool true)
theorem zgI:Ev.runG Tryz.prog 100 (Ev.orcIn evL (Ev.orcAdd zeH 274 (.bool true))) 100000 269 []=some (.bool true):=by kernel_rfl
theorem zbX (w:World) (a:PowTab w) (b:BruTab w) (c:MaxVar w):Ev.OrcSound Tryz.prog 100 w.heap.size (Below w.heap.size w) (Ev.orcAdd zeH 274 (.bool true)):=
 (zcQ w a b c).add rfl ((enters_of Tryz.func274 (by kernel_rfl) rfl) #[]) fun W _ d=>aw12 W (zaC a d) (zaA b d) (zaB c d)
theorem Aw12 (w:World) (a:PowTab w) (b:BruTab w) (c:MaxVar w):Calls Tryz.prog 269 #[] w fun e w'=>e= .returned (.bool true)∧Below w.heap.size w w':=
 zaE zgI rfl w (zbX w a b c)
theorem zcV (w:World) (a:PowTab w) (b:BruTab w) (c:MaxVar w):Ev.OrcSound Tryz.prog 100 w.heap.size (Below w.heap.size w) zeS:=
 (zbX w a b c).add rfl ((enters_of Tryz.func269 (by kernel_rfl) rfl) #[]) fun W _ d=>Aw12 W (zaC a d) (zaA b d) (zaB c d)
theorem zfE:Ev.runG Tryz.prog 100 (Ev.orcIn evL zeS) 100000 267 []=some (.bool true):=by kernel_rfl
theorem aw13 (w:World) (a:PowTab w) (b:BruTab w) (c:MaxVar w):Calls Tryz.prog 267 #[] w fun e w'=>e= .returned (.bool true)∧Below w.heap.size w w':=
 zaE zfE rfl w (zcV w a b c)
noncomputable def zfL:Ev.Orc:=Ev.orcAdd (Ev.orcAdd zeS 267 (.bool true)) 265 (.bool true)
theorem zeT:Ev.runG Tryz.prog 100 (Ev.orcIn evL (Ev.orcAdd zeS 267 (.bool true))) 100000 265 []=some (.bool true):=by kernel_rfl
theorem zbM (w:World) (a:PowTab w) (b:BruTab w) (c:MaxVar w):Ev.OrcSound Tryz.prog 100 w.heap.size (Below w.heap.size w) (Ev.orcAdd zeS 267 (.bool true)):=
 (zcV w a b c).add rfl ((enters_of Tryz.func267 (by kernel_rfl) rfl) #[]) fun W _ d=>aw13 W (zaC a d) (zaA b d) (zaB c d)
theorem Aw13 (w:World) (a:PowTab w) (b:BruTab w) (c:MaxVar w):Calls Tryz.prog 265 #[] w fun e w'=>e= .returned (.bool true)∧Below w.heap.size w w':=
 zaE zeT rfl w (zbM w a b c)
theorem zcW (w:World) (a:PowTab w) (b:BruTab w) (c:MaxVar w):Ev.OrcSound Tryz.prog 100 w.heap.size (Below w.heap.size w) zfL:=
 (zbM w a b c).add rfl ((enters_of Tryz.func265 (by kernel_rfl) rfl) #[]) fun W _ d=>Aw13 W (zaC a d) (zaA b d) (zaB c d)
theorem zgE:Ev.runG Tryz.prog 100 (Ev.orcIn evL zfL) 100000 263 []=some (.bool true):=by kernel_rfl
theorem aw14 (w:World) (a:PowTab w) (b:BruTab w) (c:MaxVar w):Calls Tryz.prog 263 #[] w fun e w'=>e= .returned (.bool true)∧Below w.heap.size w w':=
 zaE zgE rfl w (zcW w a b c)
noncomputable def zfN:Ev.Orc:=Ev.orcAdd (Ev.orcAdd zfL 263 (.bool true)) 262 (.bool true)
theorem zeQ:Ev.runG Tryz.prog 100 (Ev.orcIn evL (Ev.orcAdd zfL 263 (.bool true))) 100000 262 []=some (.bool true):=by kernel_rfl
theorem zbR (w:World) (a:PowTab w) (b:BruTab w) (c:MaxVar w):Ev.OrcSound Tryz.prog 100 w.heap.size (Below w.heap.size w) (Ev.orcAdd zfL 263 (.bool true)):=
 (zcW w a b c).add rfl ((enters_of Tryz.func263 (by kernel_rfl) rfl) #[]) fun W _ d=>aw14 W (zaC a d) (zaA b d) (zaB c d)
theorem Aw14 (w:World) (a:PowTab w) (b:BruTab w) (c:MaxVar w):Calls Tryz.prog 262 #[] w fun e w'=>e= .returned (.bool true)∧Below w.heap.size w w':=
 zaE zeQ rfl w (zbR w a b c)
theorem zcP (w:World) (a:PowTab w) (b:BruTab w) (c:MaxVar w):Ev.OrcSound Tryz.prog 100 w.heap.size (Below w.heap.size w) zfN:=
 (zbR w a b c).add rfl ((enters_of Tryz.func262 (by kernel_rfl) rfl) #[]) fun W _ d=>Aw14 W (zaC a d) (zaA b d) (zaB c d)
theorem zgF:Ev.runG Tryz.prog 100 (Ev.orcIn evL zfN) 100000 253 []=some (.bool true):=by kernel_rfl
theorem aw15 (w:World) (a:PowTab w) (b:BruTab w) (c:MaxVar w):Calls Tryz.prog 253 #[] w fun e w'=>e= .returned (.bool true)∧Below w.heap.size w w':=
 zaE zgF rfl w (zcP w a b c)
noncomputable def zfM:Ev.Orc:=Ev.orcAdd (Ev.orcAdd zfN 253 (.bool true)) 239 (.bool true)
theorem zfU:Ev.runG Tryz.prog 100 (Ev.orcIn evL (Ev.orcAdd zfN 253 (.bool true))) 100000 239 []=some (.bool true):=by kernel_rfl
theorem zcA (w:World) (a:PowTab w) (b:BruTab w) (c:MaxVar w):Ev.OrcSound Tryz.prog 100 w.heap.size (Below w.heap.size w) (Ev.orcAdd zfN 253 (.bool true)):=
 (zcP w a b c).add rfl ((enters_of Tryz.func253 (by kernel_rfl) rfl) #[]) fun W _ d=>aw15 W (zaC a d) (zaA b d) (zaB c d)
theorem Aw15 (w:World) (a:PowTab w) (b:BruTab w) (c:MaxVar w):Calls Tryz.prog 239 #[] w fun e w'=>e= .returned (.bool true)∧Below w.heap.size w w':=
 zaE zfU rfl w (zcA w a b c)
theorem zdE (w:World) (a:PowTab w) (b:BruTab w) (c:MaxVar w):Ev.OrcSound Tryz.prog 100 w.heap.size (Below w.heap.size w) zfM:=
 (zcA w a b c).add rfl ((enters_of Tryz.func239 (by kernel_rfl) rfl) #[]) fun W _ d=>Aw15 W (zaC a d) (zaA b d) (zaB c d)
theorem zeY:Ev.runG Tryz.prog 100 (Ev.orcIn evL zfM) 100000 215 []=some (.bool true):=by kernel_rfl
theorem aw16 (w:World) (a:PowTab w) (b:BruTab w) (c:MaxVar w):Calls Tryz.prog 215 #[] w fun e w'=>e= .returned (.bool true)∧Below w.heap.size w w':=
 zaE zeY rfl w (zdE w a b c)
noncomputable def zdS:Ev.Orc:=Ev.orcAdd (Ev.orcAdd zfM 215 (.bool true)) 181 (.bool true)
theorem zfZ:Ev.runG Tryz.prog 100 (Ev.orcIn evL (Ev.orcAdd zfM 215 (.bool true))) 100000 181 []=some (.bool true):=by kernel_rfl
theorem zbK (w:World) (a:PowTab w) (b:BruTab w) (c:MaxVar w):Ev.OrcSound Tryz.prog 100 w.heap.size (Below w.heap.size w) (Ev.orcAdd zfM 215 (.bool true)):=
 (zdE w a b c).add rfl ((enters_of Tryz.func215 (by kernel_rfl) rfl) #[]) fun W _ d=>aw16 W (zaC a d) (zaA b d) (zaB c d)
theorem Aw16 (w:World) (a:PowTab w) (b:BruTab w) (c:MaxVar w):Calls Tryz.prog 181 #[] w fun e w'=>e= .returned (.bool true)∧Below w.heap.size w w':=
 zaE zfZ rfl w (zbK w a b c)
theorem zcL (w:World) (a:PowTab w) (b:BruTab w) (c:MaxVar w):Ev.OrcSound Tryz.prog 100 w.heap.size (Below w.heap.size w) zdS:=
 (zbK w a b c).add rfl ((enters_of Tryz.func181 (by kernel_rfl) rfl) #[]) fun W _ d=>Aw16 W (zaC a d) (zaA b d) (zaB c d)
theorem zeK:Ev.runG Tryz.prog 100 (Ev.orcIn evL zdS) 100000 134 []=some (.bool true):=by kernel_rfl
theorem aw17 (w:World) (a:PowTab w) (b:BruTab w) (c:MaxVar w):Calls Tryz.prog 134 #[] w fun e w'=>e= .returned (.bool true)∧Below w.heap.size w w':=
 zaE zeK rfl w (zcL w a b c)
noncomputable def zeB:Ev.Orc:=Ev.orcAdd (Ev.orcAdd zdS 134 (.bool true)) 90 (.bool true)
theorem zeR:Ev.runG Tryz.prog 100 (Ev.orcIn evL (Ev.orcAdd zdS 134 (.bool true))) 100000 90 []=some (.bool true):=by kernel_rfl
theorem zbW (w:World) (a:PowTab w) (b:BruTab w) (c:MaxVar w):Ev.OrcSound Tryz.prog 100 w.heap.size (Below w.heap.size w) (Ev.orcAdd zdS 134 (.bool true)):=
 (zcL w a b c).add rfl ((enters_of Tryz.func134 (by kernel_rfl) rfl) #[]) fun W _ d=>aw17 W (zaC a d) (zaA b d) (zaB c d)
theorem Aw17 (w:World) (a:PowTab w) (b:BruTab w) (c:MaxVar w):Calls Tryz.prog 90 #[] w fun e w'=>e= .returned (.bool true)∧Below w.heap.size w w':=
 zaE zeR rfl w (zbW w a b c)
theorem zdL (w:World) (a:PowTab w) (b:BruTab w) (c:MaxVar w):Ev.OrcSound Tryz.prog 100 w.heap.size (Below w.heap.size w) zeB:=
 (zbW w a b c).add rfl ((enters_of Tryz.func90 (by kernel_rfl) rfl) #[]) fun W _ d=>Aw17 W (zaC a d) (zaA b d) (zaB c d)
theorem zeI:Ev.runG Tryz.prog 100 (Ev.orcIn evL zeB) 100000 61 []=some (.bool true):=by kernel_rfl
theorem aw18 (w:World) (a:PowTab w) (b:BruTab w) (c:MaxVar w):Calls Tryz.prog 61 #[] w fun e w'=>e= .returned (.bool true)∧Below w.heap.size w w':=
 zaE zeI rfl w (zdL w a b c)
noncomputable def zfQ:Ev.Orc:=Ev.orcAdd (Ev.orcAdd zeB 61 (.bool true)) 44 (.bool true)
theorem zfI:Ev.runG Tryz.prog 100 (Ev.orcIn evL (Ev.orcAdd zeB 61 (.bool true))) 100000 44 []=some (.bool true):=by kernel_rfl
theorem zbN (w:World) (a:PowTab w) (b:BruTab w) (c:MaxVar w):Ev.OrcSound Tryz.prog 100 w.heap.size (Below w.heap.size w) (Ev.orcAdd zeB 61 (.bool true)):=
 (zdL w a b c).add rfl ((enters_of Tryz.func61 (by kernel_rfl) rfl) #[]) fun W _ d=>aw18 W (zaC a d) (zaA b d) (zaB c d)
theorem Aw18 (w:World) (a:PowTab w) (b:BruTab w) (c:MaxVar w):Calls Tryz.prog 44 #[] w fun e w'=>e= .returned (.bool true)∧Below w.heap.size w w':=
 zaE zfI rfl w (zbN w a b c)
theorem zdD (w:World) (a:PowTab w) (b:BruTab w) (c:MaxVar w):Ev.OrcSound Tryz.prog 100 w.heap.size (Below w.heap.size w) zfQ:=
 (zbN w a b c).add rfl ((enters_of Tryz.func44 (by kernel_rfl) rfl) #[]) fun W _ d=>Aw18 W (zaC a d) (zaA b d) (zaB c d)
theorem zdY:Ev.runG Tryz.prog 100 (Ev.orcIn evL zfQ) 100000 34 []=some (.bool true):=by kernel_rfl
theorem aw19 (w:World) (a:PowTab w) (b:BruTab w) (c:MaxVar w):Calls Tryz.prog 34 #[] w fun e w'=>e= .returned (.bool true)∧Below w.heap.size w w':=
 zaE zdY rfl w (zdD w a b c)
noncomputable def zhR:Ev.Orc:=Ev.orcAdd (Ev.orcAdd zfQ 34 (.bool true)) 21 (.bool true)
theorem zfF:Ev.runG Tryz.prog 100 (Ev.orcIn evL (Ev.orcAdd zfQ 34 (.bool true))) 100000 21 []=some (.bool true):=by kernel_rfl
theorem zbZ (w:World) (a:PowTab w) (b:BruTab w) (c:MaxVar w):Ev.OrcSound Tryz.prog 100 w.heap.size (Below w.heap.size w) (Ev.orcAdd zfQ 34 (.bool true)):=
 (zdD w a b c).add rfl ((enters_of Tryz.func34 (by kernel_rfl) rfl) #[]) fun W _ d=>aw19 W (zaC a d) (zaA b d) (zaB c d)
theorem Aw19 (w:World) (a:PowTab w) (b:BruTab w) (c:MaxVar w):Calls Tryz.prog 21 #[] w fun e w'=>e= .returned (.bool true)∧Below w.heap.size w w':=
 zaE zfF rfl w (zbZ w a b c)
theorem zdF (w:World) (a:PowTab w) (b:BruTab w) (c:MaxVar w):Ev.OrcSound Tryz.prog 100 w.heap.size (Below w.heap.size w) zhR:=
 (zbZ w a b c).add rfl ((enters_of Tryz.func21 (by kernel_rfl) rfl) #[]) fun W _ d=>Aw19 W (zaC a d) (zaA b d) (zaB c d)
theorem zeL:Ev.runG Tryz.prog 100 (Ev.orcIn evL zhR) 100000 7 []=some (.bool true):=by kernel_rfl
theorem aw20 (w:World) (a:PowTab w) (b:BruTab w) (c:MaxVar w):Calls Tryz.prog 7 #[] w fun e w'=>e= .returned (.bool true)∧Below w.heap.size w w':=
 zaE zeL rfl w (zdF w a b c)
theorem zbC:Ev.runG Tryz.prog 100 (Ev.orcIn evL (Ev.orcAdd zhR 7 (.bool true))) 100000 5 []=some (.bool true):=by kernel_rfl
theorem cacheNone_walk (w:World) (a:PowTab w) (b:BruTab w) (c:MaxVar w):
  Calls Tryz.prog 5 #[] w fun e w'=>e= .returned (.bool true)∧Below w.heap.size w w':=
 zaE zbC rfl w ((zdF w a b c).add rfl (enters_of Tryz.func7 (by kernel_rfl) rfl #[]) fun W _ d=>aw20 W (zaC a d) (zaA b d) (zaB c d))
end
end Go.Proofs.YteajemblhlbfpaaGreatDoor
