/-
  What the law PinNone leans on, and its walk (11 of 12).
-/
import Derived.Test.YtpmaemedpcgjaaaGreatDoorEvB
import Derived.Shelf.Abstract
import Derived.Test.YtpmaemedpcgjaaaGreatDoorPinNonePkE
import Derived.Test.YtpmaemedpcgjaaaGreatDoorPinNonePkJ
namespace Go.Proofs.YtpmaemedpcgjaaaGreatDoor
set_option maxRecDepth 100000
set_option maxHeartbeats 16000000
section
open Go.RowKit
noncomputable def ziD:Ev.Orc:=Ev.orcWith (Ev.orcWith (Ev.orcWith (Ev.orcWith (Ev.orcWith (Ev.orcWith (Ev.orcWith (Ev.orcWith (Ev.orcWith (Ev.orcNone) 271 Ev.oReplace) 258 Ev.oJoin) 177 Ev.oItoa) 319 Ev.oTz) 221 Ev.oLen) 108 Ev.oCount) 109 Ev.oIndex) 301 Ev.oNoEscape) 136 Ev.oIndexByte
theorem zcR (w:World) (i:PowTab w) (b:BruTab w) (d:MaxVar w):Ev.OrcSound Tryz.prog 100 w.heap.size (Below w.heap.size w) ziD:=by
 refine Ev.orcNone_sound|>.with ?o0|>.with ?o1|>.with ?o2|>.with ?o3|>.with ?o4|>.with ?o5|>.with ?o6|>.with ?o7|>.with ?o8
 case o0=>exact Ev.oReplace_ok (enters_of Tryz.func271 (by kernel_rfl) rfl) fun s o n W a g f l=>by obtain ⟨m,j⟩:=zaA d a;exact Tryz.strings_ReplaceAll s o n m W g j f l
 case o1=>exact Ev.oJoin_ok (enters_of Tryz.func258 (by kernel_rfl) rfl) fun y o c r p w g f l q v=>Tryz.strings_Join y o c r p w g f l q v
 case o2=>exact Ev.oItoa_ok (enters_of Tryz.func177 (by kernel_rfl) rfl) fun n W a g f=>(Tryz.strconv_Itoa n g f W (zaC i a)).mono (by rintro e w' ⟨rfl,k,os,rfl⟩;exact ⟨rfl,Lib.below_grow _ _ (Nat.le_refl _) _ _⟩)
 case o3=>exact Ev.oTz_ok (enters_of Tryz.func319 (by kernel_rfl) rfl) (fun W a=>(tz64_8 W (zaB b a)).mono fun _ _ h=>⟨h.1,h.2.symm⟩) (fun W a=>(zhU W (zaB b a)).mono fun _ _ h=>⟨h.1,h.2.symm⟩)
 case o4=>exact Ev.oLen_ok (enters_of Tryz.func221 (by kernel_rfl) rfl) fun x W g f=>Tryz.bits_Len64 x W g f
 case o5=>exact Ev.oCount_ok Tryz.func108 (by kernel_rfl) (by kernel_rfl) (by kernel_rfl) (by kernel_rfl)
 case o6=>exact Ev.oIndex_ok (enters_of Tryz.func109 (by kernel_rfl) rfl) fun s t W a h=>by obtain ⟨m,j⟩:=zaA d a;exact Tryz.stringslite_Index s t m W h j
 case o7=>exact Ev.oNoEscape_ok Tryz.func301 (by kernel_rfl) (by kernel_rfl) (by kernel_rfl) (by kernel_rfl)
 case o8=>exact Ev.oIndexByte_ok Tryz.func136 (by kernel_rfl) (by kernel_rfl) (by kernel_rfl) (by kernel_rfl)
theorem zhC:(Tryz.prog.funcs.toList.all fun f=> !(f.name== "runtime.NumGoroutine"))=true:=by kernel_rfl
theorem zdI:Ev.NoNum Tryz.prog:=fun g f h=>by
 have:=List.all_eq_true.1 zhC f (by simpa using Array.mem_of_getElem? h)
 simpa using this
theorem zcU:Tryz.prog.follows .mixedOrders=true:=by kernel_rfl
theorem zdL (w:World):Ev.Stays w.heap.size (Below w.heap.size w):=fun _ _ h k=>k.trans h
def evL:List Nat:=[5,25,48,62,68,86,89,91,96,108,109,120,133,136,146,158,174,177,206,221,256,258,271,284,301,304,314,319,321,322,324,326,328,333,339,344,345,346,347,348,350,351,352,353,354,355,356,358,359,360,361,362,363,364,365,366]
theorem zaE {a:Ev.Orc} {n:Nat} {f:FuncId} {v:Value} (h:Ev.runG Tryz.prog 100 (Ev.orcIn evL a) n f []=some v) (b:Ev.pf 100 6 v=true) (w:World) (c:Ev.OrcSound Tryz.prog 100 w.heap.size (Below w.heap.size w) a):
  Calls Tryz.prog f #[] w fun e w'=>e= .returned v∧Below w.heap.size w w':=
 Ev.runF_sound (zdL w) zdI zcU (Ev.orcIn_ok evL c) (Ev.runG_ok h) rfl b w rfl (Below.refl _ _)
def memoT:List (List UInt8×Nat×Nat×Nat):=[([48,46,48,46,48,46,48,47,56],0,281470681743360,104),
 ([49,48,46,48,46,48,46,48,47,56],0,281470849515520,104),
 ([49,48,48,46,54,52,46,48,46,48,47,49,48],0,281472363659264,106),
 ([49,50,55,46,48,46,48,46,48,47,56],0,281472812449792,104),
 ([49,54,57,46,50,53,52,46,48,46,48,47,49,54],0,281473533739008,112),
 ([49,55,50,46,49,54,46,48,46,48,47,49,50],0,281473568473088,108),
 ([49,57,50,46,48,46,48,46,48,47,50,52],0,281473902968832,120),
 ([49,57,50,46,48,46,50,46,48,47,50,52],0,281473902969344,120),
 ([49,57,50,46,56,56,46,57,57,46,48,47,50,52],0,281473908761344,120),
 ([49,57,50,46,49,54,56,46,48,46,48,47,49,54],0,281473913978880,112),
 ([49,57,56,46,49,56,46,48,46,48,47,49,53],0,281474004811776,111),
 ([49,57,56,46,53,49,46,49,48,48,46,48,47,50,52],0,281474007000064,120),
 ([50,48,51,46,48,46,49,49,51,46,48,47,50,52],0,281474087547136,120),
 ([50,50,52,46,48,46,48,46,48,47,52],0,281474439839744,100),
 ([50,52,48,46,48,46,48,46,48,47,52],0,281474708275200,100),
 ([58,58,47,49,50,56],0,0,128),
 ([58,58,49,47,49,50,56],0,1,128),
 ([54,52,58,102,102,57,98,58,49,58,58,47,52,56],28428538856144896,0,48),
 ([49,48,48,58,58,47,54,52],72057594037927936,0,64),
 ([50,48,48,49,58,58,47,50,51],2306124484190404608,0,23),
 ([50,48,48,49,58,100,98,56,58,58,47,51,50],2306139568115548160,0,32),
 ([51,102,102,102,58,58,47,50,48],4611404543450677248,0,20),
 ([53,102,48,48,58,58,47,49,54],6845471433603153920,0,16),
 ([102,99,48,48,58,58,47,55],18158513697557839872,0,7),
 ([102,101,56,48,58,58,47,49,48],18338657682652659712,0,10),
 ([102,101,99,48,58,58,47,49,48],18356672081162141696,0,10),
 ([102,102,48,48,58,58,47,56],18374686479671623680,0,8)]
def ziB (x:List UInt8×Nat×Nat×Nat):Value:= .tuple ⟨[.agg ⟨[.int .u64 (.ofNat x.2.1),.int .u64 (.ofNat x.2.2.1),.int .i64 (.ofNat x.2.2.2)]⟩,.bool true]⟩
def isPf (r:Option Value) (a b c:Nat):Bool:=match r with
 |some (.tuple ⟨[.agg ⟨[.int .u64 (.ofNat x),.int .u64 (.ofNat y),.int .i64 (.ofNat z)]⟩,.bool true]⟩)=>Nat.beq x a&&(Nat.beq y b&&Nat.beq z c)
 |_=>false
theorem ziF {r:Option Value} {x:List UInt8×Nat×Nat×Nat} (h:isPf r x.2.1 x.2.2.1 x.2.2.2=true):r=some (ziB x):=by
 unfold isPf at h
 split at h
 ·rw [Bool.and_eq_true,Bool.and_eq_true] at h
  unfold ziB
  rw [Nat.eq_of_beq_eq_true h.1,Nat.eq_of_beq_eq_true h.2.1,Nat.eq_of_beq_eq_true h.2.2]
 ·cases h
theorem zeN:(memoT.all fun x=>isPf (Ev.runG Tryz.prog 100 (Ev.orcIn evL ziD) 100000 86 [.string ⟨x.1.toArray⟩]) x.2.1 x.2.2.1 x.2.2.2)=true:=by kernel_rfl
noncomputable def orcM:Ev.Orc:=Ev.orcWith ziD 86 (Ev.oMemo (memoT.map fun x=>(x.1,ziB x)))
theorem zhT (w:World) (b:PowTab w) (a:BruTab w) (c:MaxVar w):Ev.OrcSound Tryz.prog 100 w.heap.size (Below w.heap.size w) orcM:=by
 refine (zcR w b a c).with (Ev.oMemo_ok (enters_of Tryz.func86 (by kernel_rfl) rfl) (by kernel_rfl) fun x e W i d=> ?_)
 obtain ⟨y,g,rfl⟩:=List.mem_map.1 e
 have h:=ziF (List.all_eq_true.1 zeN y g)
 have f:=Ev.runF_sound (zdL W) zdI zcU (Ev.orcIn_ok evL (zcR W (zaC b d) (zaB a d) (zaA c d))) (Ev.runG_ok h) rfl rfl W rfl (Below.refl _ _)
 simpa using f
def zeU:Ev.OrcH:=fun a _=>match a with
 |[.agg ⟨[.int .u64 (.ofNat hi),.int .u64 (.ofNat b),.int .i64 (.ofNat n)]⟩]=>(match Nat.blt hi 18446744073709551616&&Nat.blt b 18446744073709551616 with|true=>some (.bool (zaF (zaD hi b) (n:Int)))|false=>none)
 |_=>none
theorem zfO {b:Nat} {T:World→Prop}:Ev.OrcFn Tryz.prog 100 b T 62 zeU:=by
 refine Ev.oFn_ok (enters_of Tryz.func62 (by kernel_rfl) rfl) fun d e v a=> ?_
 unfold zeU at a
 split at a
 ·split at a
  ·rename_i c
   cases a
   simp only [Bool.and_eq_true] at c
   refine ⟨rfl,rfl,fun W _ _=> ?_⟩
   exact zaG _ _ _ W (Ev.blt_ok c.1) (Ev.blt_ok c.2)
  ·cases a
 ·cases a
noncomputable def zbI:Ev.Orc:=Ev.orcWith orcM 62 zeU
theorem zbP (w:World) (a:PowTab w) (b:BruTab w) (c:MaxVar w):Ev.OrcSound Tryz.prog 100 w.heap.size (Below w.heap.size w) zbI:=(zhT w a b c).with zfO
def zcK:Ev.OrcH:=fun c _=>match c with
 |[.agg ⟨[.int .u64 (.ofNat hi),.int .u64 (.ofNat d),.int .i64 (.ofNat n)]⟩,.agg ⟨[.int .u64 (.ofNat b),.int .u64 (.ofNat a),.int .i64 (.ofNat m)]⟩]=>(match (Nat.blt hi 18446744073709551616&&Nat.blt d 18446744073709551616)&&(Nat.blt b 18446744073709551616&&Nat.blt a 18446744073709551616) with|true=>some (.bool (zaI (zaD hi d) (n:Int) (zaD b a) (m:Int)))|false=>none)
 |_=>none
theorem zdU {b:Nat} {T:World→Prop}:Ev.OrcFn Tryz.prog 100 b T 89 zcK:=by
 refine Ev.oFn_ok (enters_of Tryz.func89 (by kernel_rfl) rfl) fun d e v a=> ?_
 unfold zcK at a
 split at a
 ·split at a
  ·rename_i c
   cases a
   simp only [Bool.and_eq_true] at c
   refine ⟨rfl,rfl,fun W _ _=> ?_⟩
   exact zdV _ _ _ _ _ _ W (Ev.blt_ok c.1.1) (Ev.blt_ok c.1.2) (Ev.blt_ok c.2.1) (Ev.blt_ok c.2.2)
  ·cases a
 ·cases a
noncomputable def zbD:Ev.Orc:=Ev.orcWith zbI 89 zcK
theorem zbG (w:World) (a:PowTab w) (b:BruTab w) (c:MaxVar w):Ev.OrcSound Tryz.prog 100 w.heap.size (Below w.heap.size w) zbD:=(zbP w a b c).with zdU
def zcL:Ev.OrcH:=fun a _=>match a with
 |[.agg ⟨[.int .u64 (.ofNat hi),.int .u64 (.ofNat d),.int .i64 (.ofNat n)]⟩,.agg ⟨[.int .u64 (.ofNat b),.int .u64 (.ofNat c),.int .i64 (.ofNat k)]⟩]=>(match ((Nat.blt hi 18446744073709551616&&Nat.blt d 18446744073709551616)&&(Nat.blt b 18446744073709551616&&Nat.blt c 18446744073709551616))&&(Nat.ble n 128&&Nat.ble k 128) with|true=>some (pfW (ofW (zaD b c) (zaV (zaD hi d) n (zaD b c) k)) (zaV (zaD hi d) n (zaD b c) k:Nat))|false=>none)
 |_=>none
theorem zdR {c:Nat} {T:World→Prop}:Ev.OrcFn Tryz.prog 100 c T 91 zcL:=by
 refine Ev.oFn_ok (enters_of Tryz.func91 (by kernel_rfl) rfl) fun d e v b=> ?_
 unfold zcL at b
 split at b
 ·split at b
  ·rename_i a
   cases b
   simp only [Bool.and_eq_true] at a
   refine ⟨rfl,rfl,fun W _ _=> ?_⟩
   exact zdQ _ _ _ _ _ _ W (Ev.blt_ok a.1.1.1) (Ev.blt_ok a.1.1.2) (Ev.blt_ok a.1.2.1) (Ev.blt_ok a.1.2.2) (Nat.le_of_ble_eq_true a.2.1) (Nat.le_of_ble_eq_true a.2.2)
  ·cases b
 ·cases b
noncomputable def zaL:Ev.Orc:=Ev.orcWith zbD 91 zcL
theorem zaU (w:World) (a:PowTab w) (b:BruTab w) (c:MaxVar w):Ev.OrcSound Tryz.prog 100 w.heap.size (Below w.heap.size w) zaL:=(zbG w a b c).with zdR
theorem zfQ:Ev.runG Tryz.prog 100 (Ev.orcIn evL zaL) 100000 366 []=some (.bool true):=by kernel_rfl
theorem aw01 (w:World) (b:PowTab w) (a:BruTab w) (c:MaxVar w):Calls Tryz.prog 366 #[] w fun e w'=>e= .returned (.bool true)∧Below w.heap.size w w':=
 zaE zfQ rfl w (zaU w b a c)
noncomputable def zgQ:Ev.Orc:=Ev.orcAdd (Ev.orcAdd zaL 366 (.bool true)) 365 (.bool true)
theorem zdY:Ev.runG Tryz.prog 100 (Ev.orcIn evL (Ev.orcAdd zaL 366 (.bool true))) 100000 365 []=some (.bool true):=by kernel_rfl
theorem zbU (w:World) (b:PowTab w) (a:BruTab w) (c:MaxVar w):Ev.OrcSound Tryz.prog 100 w.heap.size (Below w.heap.size w) (Ev.orcAdd zaL 366 (.bool true)):=
 (zaU w b a c).add rfl ((enters_of Tryz.func366 (by kernel_rfl) rfl) #[]) fun W _ d=>aw01 W (zaC b d) (zaB a d) (zaA c d)
theorem Aw01 (w:World) (b:PowTab w) (a:BruTab w) (c:MaxVar w):Calls Tryz.prog 365 #[] w fun e w'=>e= .returned (.bool true)∧Below w.heap.size w w':=
 zaE zdY rfl w (zbU w b a c)
theorem zdF (w:World) (b:PowTab w) (a:BruTab w) (c:MaxVar w):Ev.OrcSound Tryz.prog 100 w.heap.size (Below w.heap.size w) zgQ:=
 (zbU w b a c).add rfl ((enters_of Tryz.func365 (by kernel_rfl) rfl) #[]) fun W _ d=>Aw01 W (zaC b d) (zaB a d) (zaA c d)
theorem zgG:Ev.runG Tryz.prog 100 (Ev.orcIn evL zgQ) 100000 364 []=some (.bool true):=by kernel_rfl
theorem aw02 (w:World) (b:PowTab w) (a:BruTab w) (c:MaxVar w):Calls Tryz.prog 364 #[] w fun e w'=>e= .returned (.bool true)∧Below w.heap.size w w':=
 zaE zgG rfl w (zdF w b a c)
noncomputable def zfS:Ev.Orc:=Ev.orcAdd (Ev.orcAdd zgQ 364 (.bool true)) 363 (.bool true)
theorem zgD:Ev.runG Tryz.prog 100 (Ev.orcIn evL (Ev.orcAdd zgQ 364 (.bool true))) 100000 363 []=some (.bool true):=by kernel_rfl
theorem zbV (w:World) (b:PowTab w) (a:BruTab w) (c:MaxVar w):Ev.OrcSound Tryz.prog 100 w.heap.size (Below w.heap.size w) (Ev.orcAdd zgQ 364 (.bool true)):=
 (zdF w b a c).add rfl ((enters_of Tryz.func364 (by kernel_rfl) rfl) #[]) fun W _ d=>aw02 W (zaC b d) (zaB a d) (zaA c d)
theorem Aw02 (w:World) (b:PowTab w) (a:BruTab w) (c:MaxVar w):Calls Tryz.prog 363 #[] w fun e w'=>e= .returned (.bool true)∧Below w.heap.size w w':=
 zaE zgD rfl w (zbV w b a c)
theorem zcT (w:World) (b:PowTab w) (a:BruTab w) (c:MaxVar w):Ev.OrcSound Tryz.prog 100 w.heap.size (Below w.heap.size w) zfS:=
 (zbV w b a c).add rfl ((enters_of Tryz.func363 (by kernel_rfl) rfl) #[]) fun W _ d=>Aw02 W (zaC b d) (zaB a d) (zaA c d)
theorem zgE:Ev.runG Tryz.prog 100 (Ev.orcIn evL zfS) 100000 362 []=some (.bool true):=by kernel_rfl
theorem aw03 (w:World) (b:PowTab w) (a:BruTab w) (c:MaxVar w):Calls Tryz.prog 362 #[] w fun e w'=>e= .returned (.bool true)∧Below w.heap.size w w':=
 zaE zgE rfl w (zcT w b a c)
noncomputable def zeZ:Ev.Orc:=Ev.orcAdd (Ev.orcAdd zfS 362 (.bool true)) 361 (.bool true)
theorem zeK:Ev.runG Tryz.prog 100 (Ev.orcIn evL (Ev.orcAdd zfS 362 (.bool true))) 100000 361 []=some (.bool true):=by kernel_rfl
theorem zcC (w:World) (b:PowTab w) (a:BruTab w) (c:MaxVar w):Ev.OrcSound Tryz.prog 100 w.heap.size (Below w.heap.size w) (Ev.orcAdd zfS 362 (.bool true)):=
 (zcT w b a c).add rfl ((enters_of Tryz.func362 (by kernel_rfl) rfl) #[]) fun W _ d=>aw03 W (zaC b d) (zaB a d) (zaA c d)
theorem Aw03 (w:World) (b:PowTab w) (a:BruTab w) (c:MaxVar w):Calls Tryz.prog 361 #[] w fun e w'=>e= .returned (.bool true)∧Below w.heap.size w w':=
 zaE zeK rfl w (zcC w b a c)
theorem zdB (w:World) (b:PowTab w) (a:BruTab w) (c:MaxVar w):Ev.OrcSound Tryz.prog 100 w.heap.size (Below w.heap.size w) zeZ:=
 (zcC w b a c).add rfl ((enters_of Tryz.func361 (by kernel_rfl) rfl) #[]) fun W _ d=>Aw03 W (zaC b d) (zaB a d) (zaA c d)
theorem zfT:Ev.runG Tryz.prog 100 (Ev.orcIn evL zeZ) 100000 360 []=some (.bool true):=by kernel_rfl
theorem aw04 (w:World) (b:PowTab w) (a:BruTab w) (c:MaxVar w):Calls Tryz.prog 360 #[] w fun e w'=>e= .returned (.bool true)∧Below w.heap.size w w':=
 zaE zfT rfl w (zdB w b a c)
noncomputable def zfW:Ev.Orc:=Ev.orcAdd (Ev.orcAdd zeZ 360 (.bool true)) 359 (.bool true)
theorem zfK:Ev.runG Tryz.prog 100 (Ev.orcIn evL (Ev.orcAdd zeZ 360 (.bool true))) 100000 359 []=some (.bool true):=by kernel_rfl
theorem zcE (w:World) (b:PowTab w) (a:BruTab w) (c:MaxVar w):Ev.OrcSound Tryz.prog 100 w.heap.size (Below w.heap.size w) (Ev.orcAdd zeZ 360 (.bool true)):=
 (zdB w b a c).add rfl ((enters_of Tryz.func360 (by kernel_rfl) rfl) #[]) fun W _ d=>aw04 W (zaC b d) (zaB a d) (zaA c d)
theorem Aw04 (w:World) (b:PowTab w) (a:BruTab w) (c:MaxVar w):Calls Tryz.prog 359 #[] w fun e w'=>e= .returned (.bool true)∧Below w.heap.size w w':=
 zaE zfK rfl w (zcE w b a c)
theorem zcN (w:World) (b:PowTab w) (a:BruTab w) (c:MaxVar w):Ev.OrcSound Tryz.prog 100 w.heap.size (Below w.heap.size w) zfW:=
 (zcE w b a c).add rfl ((enters_of Tryz.func359 (by kernel_rfl) rfl) #[]) fun W _ d=>Aw04 W (zaC b d) (zaB a d) (zaA c d)
theorem zfY:Ev.runG Tryz.prog 100 (Ev.orcIn evL zfW) 100000 358 []=some (.bool true):=by kernel_rfl
theorem aw05 (w:World) (b:PowTab w) (a:BruTab w) (c:MaxVar w):Calls Tryz.prog 358 #[] w fun e w'=>e= .returned (.bool true)∧Below w.heap.size w w':=
 zaE zfY rfl w (zcN w b a c)
noncomputable def zfL:Ev.Orc:=Ev.orcAdd (Ev.orcAdd zfW 358 (.bool true)) 356 (.bool true)
theorem zfI:Ev.runG Tryz.prog 100 (Ev.orcIn evL (Ev.orcAdd zfW 358 (.bool true))) 100000 356 []=some (.bool true):=by kernel_rfl
theorem zcA (w:World) (b:PowTab w) (a:BruTab w) (c:MaxVar w):Ev.OrcSound Tryz.prog 100 w.heap.size (Below w.heap.size w) (Ev.orcAdd zfW 358 (.bool true)):=
 (zcN w b a c).add rfl ((enters_of Tryz.func358 (by kernel_rfl) rfl) #[]) fun W _ d=>aw05 W (zaC b d) (zaB a d) (zaA c d)
theorem Aw05 (w:World) (b:PowTab w) (a:BruTab w) (c:MaxVar w):Calls Tryz.prog 356 #[] w fun e w'=>e= .returned (.bool true)∧Below w.heap.size w w':=
 zaE zfI rfl w (zcA w b a c)
theorem zcV (w:World) (b:PowTab w) (a:BruTab w) (c:MaxVar w):Ev.OrcSound Tryz.prog 100 w.heap.size (Below w.heap.size w) zfL:=
 (zcA w b a c).add rfl ((enters_of Tryz.func356 (by kernel_rfl) rfl) #[]) fun W _ d=>Aw05 W (zaC b d) (zaB a d) (zaA c d)
theorem zeD:Ev.runG Tryz.prog 100 (Ev.orcIn evL zfL) 100000 355 []=some (.bool true):=by kernel_rfl
theorem aw06 (w:World) (b:PowTab w) (a:BruTab w) (c:MaxVar w):Calls Tryz.prog 355 #[] w fun e w'=>e= .returned (.bool true)∧Below w.heap.size w w':=
 zaE zeD rfl w (zcV w b a c)
noncomputable def zeG:Ev.Orc:=Ev.orcAdd (Ev.orcAdd zfL 355 (.bool true)) 354 (.bool true)
theorem zfR:Ev.runG Tryz.prog 100 (Ev.orcIn evL (Ev.orcAdd zfL 355 (.bool true))) 100000 354 []=some (.bool true):=by kernel_rfl
theorem zcD (w:World) (b:PowTab w) (a:BruTab w) (c:MaxVar w):Ev.OrcSound Tryz.prog 100 w.heap.size (Below w.heap.size w) (Ev.orcAdd zfL 355 (.bool true)):=
 (zcV w b a c).add rfl ((enters_of Tryz.func355 (by kernel_rfl) rfl) #[]) fun W _ d=>aw06 W (zaC b d) (zaB a d) (zaA c d)
theorem Aw06 (w:World) (b:PowTab w) (a:BruTab w) (c:MaxVar w):Calls Tryz.prog 354 #[] w fun e w'=>e= .returned (.bool true)∧Below w.heap.size w w':=
 zaE zfR rfl w (zcD w b a c)
theorem zdC (w:World) (b:PowTab w) (a:BruTab w) (c:MaxVar w):Ev.OrcSound Tryz.prog 100 w.heap.size (Below w.heap.size w) zeG:=
 (zcD w b a c).add rfl ((enters_of Tryz.func354 (by kernel_rfl) rfl) #[]) fun W _ d=>Aw06 W (zaC b d) (zaB a d) (zaA c d)
theorem zfG:Ev.runG Tryz.prog 100 (Ev.orcIn evL zeG) 100000 353 []=some (.bool true):=by kernel_rfl
theorem aw07 (w:World) (b:PowTab w) (a:BruTab w) (c:MaxVar w):Calls Tryz.prog 353 #[] w fun e w'=>e= .returned (.bool true)∧Below w.heap.size w w':=
 zaE zfG rfl w (zdC w b a c)
noncomputable def zgO:Ev.Orc:=Ev.orcAdd (Ev.orcAdd zeG 353 (.bool true)) 352 (.bool true)
theorem zfH:Ev.runG Tryz.prog 100 (Ev.orcIn evL (Ev.orcAdd zeG 353 (.bool true))) 100000 352 []=some (.bool true):=by kernel_rfl
theorem zbN (w:World) (b:PowTab w) (a:BruTab w) (c:MaxVar w):Ev.OrcSound Tryz.prog 100 w.heap.size (Below w.heap.size w) (Ev.orcAdd zeG 353 (.bool true)):=
 (zdC w b a c).add rfl ((enters_of Tryz.func353 (by kernel_rfl) rfl) #[]) fun W _ d=>aw07 W (zaC b d) (zaB a d) (zaA c d)
theorem Aw07 (w:World) (b:PowTab w) (a:BruTab w) (c:MaxVar w):Calls Tryz.prog 352 #[] w fun e w'=>e= .returned (.bool true)∧Below w.heap.size w w':=
 zaE zfH rfl w (zbN w b a c)
theorem zdK (w:World) (b:PowTab w) (a:BruTab w) (c:MaxVar w):Ev.OrcSound Tryz.prog 100 w.heap.size (Below w.heap.size w) zgO:=
 (zbN w b a c).add rfl ((enters_of Tryz.func352 (by kernel_rfl) rfl) #[]) fun W _ d=>Aw07 W (zaC b d) (zaB a d) (zaA c d)
theorem zeL:Ev.runG Tryz.prog 100 (Ev.orcIn evL zgO) 100000 351 []=some (.bool true):=by kernel_rfl
theorem aw08 (w:World) (b:PowTab w) (a:BruTab w) (c:MaxVar w):Calls Tryz.prog 351 #[] w fun e w'=>e= .returned (.bool true)∧Below w.heap.size w w':=
 zaE zeL rfl w (zdK w b a c)
noncomputable def zfB:Ev.Orc:=Ev.orcAdd (Ev.orcAdd zgO 351 (.bool true)) 350 (.bool true)
theorem zdW:Ev.runG Tryz.prog 100 (Ev.orcIn evL (Ev.orcAdd zgO 351 (.bool true))) 100000 350 []=some (.bool true):=by kernel_rfl
theorem zbM (w:World) (b:PowTab w) (a:BruTab w) (c:MaxVar w):Ev.OrcSound Tryz.prog 100 w.heap.size (Below w.heap.size w) (Ev.orcAdd zgO 351 (.bool true)):=
 (zdK w b a c).add rfl ((enters_of Tryz.func351 (by kernel_rfl) rfl) #[]) fun W _ d=>aw08 W (zaC b d) (zaB a d) (zaA c d)
theorem Aw08 (w:World) (b:PowTab w) (a:BruTab w) (c:MaxVar w):Calls Tryz.prog 350 #[] w fun e w'=>e= .returned (.bool true)∧Below w.heap.size w w':=
 zaE zdW rfl w (zbM w b a c)
theorem zdH (w:World) (b:PowTab w) (a:BruTab w) (c:MaxVar w):Ev.OrcSound Tryz.prog 100 w.heap.size (Below w.heap.size w) zfB:=
 (zbM w b a c).add rfl ((enters_of Tryz.func350 (by kernel_rfl) rfl) #[]) fun W _ d=>Aw08 W (zaC b d) (zaB a d) (zaA c d)
theorem zfA:Ev.runG Tryz.prog 100 (Ev.orcIn evL zfB) 100000 348 []=some (.bool true):=by kernel_rfl
theorem aw09 (w:World) (b:PowTab w) (a:BruTab w) (c:MaxVar w):Calls Tryz.prog 348 #[] w fun e w'=>e= .returned (.bool true)∧Below w.heap.size w w':=
 zaE zfA rfl w (zdH w b a c)
noncomputable def zgP:Ev.Orc:=Ev.orcAdd (Ev.orcAdd zfB 348 (.bool true)) 347 (.bool true)
theorem zeH:Ev.runG Tryz.prog 100 (Ev.orcIn evL (Ev.orcAdd zfB 348 (.bool true))) 100000 347 []=some (.bool true):=by kernel_rfl
theorem zbQ (w:World) (b:PowTab w) (a:BruTab w) (c:MaxVar w):Ev.OrcSound Tryz.prog 100 w.heap.size (Below w.heap.size w) (Ev.orcAdd zfB 348 (.bool true)):=
 (zdH w b a c).add rfl ((enters_of Tryz.func348 (by kernel_rfl) rfl) #[]) fun W _ d=>aw09 W (zaC b d) (zaB a d) (zaA c d)
theorem Aw09 (w:World) (b:PowTab w) (a:BruTab w) (c:MaxVar w):Calls Tryz.prog 347 #[] w fun e w'=>e= .returned (.bool true)∧Below w.heap.size w w':=
 zaE zeH rfl w (zbQ w b a c)
theorem zcX (w:World) (b:PowTab w) (a:BruTab w) (c:MaxVar w):Ev.OrcSound Tryz.prog 100 w.heap.size (Below w.heap.size w) zgP:=
 (zbQ w b a c).add rfl ((enters_of Tryz.func347 (by kernel_rfl) rfl) #[]) fun W _ d=>Aw09 W (zaC b d) (zaB a d) (zaA c d)
theorem zfX:Ev.runG Tryz.prog 100 (Ev.orcIn evL zgP) 100000 346 []=some (.bool true):=by kernel_rfl
theorem aw10 (w:World) (b:PowTab w) (a:BruTab w) (c:MaxVar w):Calls Tryz.prog 346 #[] w fun e w'=>e= .returned (.bool true)∧Below w.heap.size w w':=
 zaE zfX rfl w (zcX w b a c)
noncomputable def zgT:Ev.Orc:=Ev.orcAdd (Ev.orcAdd zgP 346 (.bool true)) 345 (.bool true)
theorem zeE:Ev.runG Tryz.prog 100 (Ev.orcIn evL (Ev.orcAdd zgP 346 (.bool true))) 100000 345 []=some (.bool true):=by kernel_rfl
theorem zbX (w:World) (b:PowTab w) (a:BruTab w) (c:MaxVar w):Ev.OrcSound Tryz.prog 100 w.heap.size (Below w.heap.size w) (Ev.orcAdd zgP 346 (.bool true)):=
 (zcX w b a c).add rfl ((enters_of Tryz.func346 (by kernel_rfl) rfl) #[]) fun W _ d=>aw10 W (zaC b d) (zaB a d) (zaA c d)
theorem Aw10 (w:World) (b:PowTab w) (a:BruTab w) (c:MaxVar w):Calls Tryz.prog 345 #[] w fun e w'=>e= .returned (.bool true)∧Below w.heap.size w w':=
 zaE zeE rfl w (zbX w b a c)
theorem zcO (w:World) (b:PowTab w) (a:BruTab w) (c:MaxVar w):Ev.OrcSound Tryz.prog 100 w.heap.size (Below w.heap.size w) zgT:=
 (zbX w b a c).add rfl ((enters_of Tryz.func345 (by kernel_rfl) rfl) #[]) fun W _ d=>Aw10 W (zaC b d) (zaB a d) (zaA c d)
theorem zeR:Ev.runG Tryz.prog 100 (Ev.orcIn evL zgT) 100000 344 []=some (.bool true):=by kernel_rfl
theorem aw11 (w:World) (b:PowTab w) (a:BruTab w) (c:MaxVar w):Calls Tryz.prog 344 #[] w fun e w'=>e= .returned (.bool true)∧Below w.heap.size w w':=
 zaE zeR rfl w (zcO w b a c)
noncomputable def zeB:Ev.Orc:=Ev.orcAdd (Ev.orcAdd zgT 344 (.bool true)) 339 (.bool true)
theorem zeY:Ev.runG Tryz.prog 100 (Ev.orcIn evL (Ev.orcAdd zgT 344 (.bool true))) 100000 339 []=some (.bool true):=by kernel_rfl
theorem zbJ (w:World) (b:PowTab w) (a:BruTab w) (c:MaxVar w):Ev.OrcSound Tryz.prog 100 w.heap.size (Below w.heap.size w) (Ev.orcAdd zgT 344 (.bool true)):=
 (zcO w b a c).add rfl ((enters_of Tryz.func344 (by kernel_rfl) rfl) #[]) fun W _ d=>aw11 W (zaC b d) (zaB a d) (zaA c d)
theorem Aw11 (w:World) (b:PowTab w) (a:BruTab w) (c:MaxVar w):Calls Tryz.prog 339 #[] w fun e w'=>e= .returned (.bool true)∧Below w.heap.size w w':=
 zaE zeY rfl w (zbJ w b a c)
theorem zcP (w:World) (b:PowTab w) (a:BruTab w) (c:MaxVar w):Ev.OrcSound Tryz.prog 100 w.heap.size (Below w.heap.size w) zeB:=
 (zbJ w b a c).add rfl ((enters_of Tryz.func339 (by kernel_rfl) rfl) #[]) fun W _ d=>Aw11 W (zaC b d) (zaB a d) (zaA c d)
theorem zeX:Ev.runG Tryz.prog 100 (Ev.orcIn evL zeB) 100000 333 []=some (.bool true):=by kernel_rfl
theorem aw12 (w:World) (b:PowTab w) (a:BruTab w) (c:MaxVar w):Calls Tryz.prog 333 #[] w fun e w'=>e= .returned (.bool true)∧Below w.heap.size w w':=
 zaE zeX rfl w (zcP w b a c)
noncomputable def zgM:Ev.Orc:=Ev.orcAdd (Ev.orcAdd zeB 333 (.bool true)) 328 (.bool true)
theorem zdX:Ev.runG Tryz.prog 100 (Ev.orcIn evL (Ev.orcAdd zeB 333 (.bool true))) 100000 328 []=some (.bool true):=by kernel_rfl
theorem zbY (w:World) (b:PowTab w) (a:BruTab w) (c:MaxVar w):Ev.OrcSound Tryz.prog 100 w.heap.size (Below w.heap.size w) (Ev.orcAdd zeB 333 (.bool true)):=
 (zcP w b a c).add rfl ((enters_of Tryz.func333 (by kernel_rfl) rfl) #[]) fun W _ d=>aw12 W (zaC b d) (zaB a d) (zaA c d)
theorem Aw12 (w:World) (b:PowTab w) (a:BruTab w) (c:MaxVar w):Calls Tryz.prog 328 #[] w fun e w'=>e= .returned (.bool true)∧Below w.heap.size w w':=
 zaE zdX rfl w (zbY w b a c)
theorem zdA (w:World) (b:PowTab w) (a:BruTab w) (c:MaxVar w):Ev.OrcSound Tryz.prog 100 w.heap.size (Below w.heap.size w) zgM:=
 (zbY w b a c).add rfl ((enters_of Tryz.func328 (by kernel_rfl) rfl) #[]) fun W _ d=>Aw12 W (zaC b d) (zaB a d) (zaA c d)
theorem zgJ:Ev.runG Tryz.prog 100 (Ev.orcIn evL zgM) 100000 326 []=some (.bool true):=by kernel_rfl
theorem aw13 (w:World) (b:PowTab w) (a:BruTab w) (c:MaxVar w):Calls Tryz.prog 326 #[] w fun e w'=>e= .returned (.bool true)∧Below w.heap.size w w':=
 zaE zgJ rfl w (zdA w b a c)
noncomputable def zeO:Ev.Orc:=Ev.orcAdd (Ev.orcAdd zgM 326 (.bool true)) 324 (.bool true)
theorem zfF:Ev.runG Tryz.prog 100 (Ev.orcIn evL (Ev.orcAdd zgM 326 (.bool true))) 100000 324 []=some (.bool true):=by kernel_rfl
theorem zbW (w:World) (b:PowTab w) (a:BruTab w) (c:MaxVar w):Ev.OrcSound Tryz.prog 100 w.heap.size (Below w.heap.size w) (Ev.orcAdd zgM 326 (.bool true)):=
 (zdA w b a c).add rfl ((enters_of Tryz.func326 (by kernel_rfl) rfl) #[]) fun W _ d=>aw13 W (zaC b d) (zaB a d) (zaA c d)
theorem Aw13 (w:World) (b:PowTab w) (a:BruTab w) (c:MaxVar w):Calls Tryz.prog 324 #[] w fun e w'=>e= .returned (.bool true)∧Below w.heap.size w w':=
 zaE zfF rfl w (zbW w b a c)
theorem zdO (w:World) (b:PowTab w) (a:BruTab w) (c:MaxVar w):Ev.OrcSound Tryz.prog 100 w.heap.size (Below w.heap.size w) zeO:=
 (zbW w b a c).add rfl ((enters_of Tryz.func324 (by kernel_rfl) rfl) #[]) fun W _ d=>Aw13 W (zaC b d) (zaB a d) (zaA c d)
theorem zgK:Ev.runG Tryz.prog 100 (Ev.orcIn evL zeO) 100000 322 []=some (.bool true):=by kernel_rfl
theorem aw14 (w:World) (b:PowTab w) (a:BruTab w) (c:MaxVar w):Calls Tryz.prog 322 #[] w fun e w'=>e= .returned (.bool true)∧Below w.heap.size w w':=
 zaE zgK rfl w (zdO w b a c)
noncomputable def zfC:Ev.Orc:=Ev.orcAdd (Ev.orcAdd zeO 322 (.bool true)) 321 (.bool true)
theorem zgS:Ev.runG Tryz.prog 100 (Ev.orcIn evL (Ev.orcAdd zeO 322 (.bool true))) 100000 321 []=some (.bool true):=by kernel_rfl
theorem zbO (w:World) (b:PowTab w) (a:BruTab w) (c:MaxVar w):Ev.OrcSound Tryz.prog 100 w.heap.size (Below w.heap.size w) (Ev.orcAdd zeO 322 (.bool true)):=
 (zdO w b a c).add rfl ((enters_of Tryz.func322 (by kernel_rfl) rfl) #[]) fun W _ d=>aw14 W (zaC b d) (zaB a d) (zaA c d)
theorem Aw14 (w:World) (b:PowTab w) (a:BruTab w) (c:MaxVar w):Calls Tryz.prog 321 #[] w fun e w'=>e= .returned (.bool true)∧Below w.heap.size w w':=
 zaE zgS rfl w (zbO w b a c)
theorem zdE (w:World) (b:PowTab w) (a:BruTab w) (c:MaxVar w):Ev.OrcSound Tryz.prog 100 w.heap.size (Below w.heap.size w) zfC:=
 (zbO w b a c).add rfl ((enters_of Tryz.func321 (by kernel_rfl) rfl) #[]) fun W _ d=>Aw14 W (zaC b d) (zaB a d) (zaA c d)
theorem zgF:Ev.runG Tryz.prog 100 (Ev.orcIn evL zfC) 100000 314 []=some (.bool true):=by kernel_rfl
theorem aw15 (w:World) (b:PowTab w) (a:BruTab w) (c:MaxVar w):Calls Tryz.prog 314 #[] w fun e w'=>e= .returned (.bool true)∧Below w.heap.size w w':=
 zaE zgF rfl w (zdE w b a c)
noncomputable def zfN:Ev.Orc:=Ev.orcAdd (Ev.orcAdd zfC 314 (.bool true)) 304 (.bool true)
theorem zeS:Ev.runG Tryz.prog 100 (Ev.orcIn evL (Ev.orcAdd zfC 314 (.bool true))) 100000 304 []=some (.bool true):=by kernel_rfl
theorem zbS (w:World) (b:PowTab w) (a:BruTab w) (c:MaxVar w):Ev.OrcSound Tryz.prog 100 w.heap.size (Below w.heap.size w) (Ev.orcAdd zfC 314 (.bool true)):=
 (zdE w b a c).add rfl ((enters_of Tryz.func314 (by kernel_rfl) rfl) #[]) fun W _ d=>aw15 W (zaC b d) (zaB a d) (zaA c d)
theorem Aw15 (w:World) (b:PowTab w) (a:BruTab w) (c:MaxVar w):Calls Tryz.prog 304 #[] w fun e w'=>e= .returned (.bool true)∧Below w.heap.size w w':=
 zaE zeS rfl w (zbS w b a c)
theorem zcZ (w:World) (b:PowTab w) (a:BruTab w) (c:MaxVar w):Ev.OrcSound Tryz.prog 100 w.heap.size (Below w.heap.size w) zfN:=
 (zbS w b a c).add rfl ((enters_of Tryz.func304 (by kernel_rfl) rfl) #[]) fun W _ d=>Aw15 W (zaC b d) (zaB a d) (zaA c d)
theorem zeI:Ev.runG Tryz.prog 100 (Ev.orcIn evL zfN) 100000 284 []=some (.bool true):=by kernel_rfl
theorem aw16 (w:World) (b:PowTab w) (a:BruTab w) (c:MaxVar w):Calls Tryz.prog 284 #[] w fun e w'=>e= .returned (.bool true)∧Below w.heap.size w w':=
 zaE zeI rfl w (zcZ w b a c)
noncomputable def zfP:Ev.Orc:=Ev.orcAdd (Ev.orcAdd zfN 284 (.bool true)) 256 (.bool true)
theorem zeC:Ev.runG Tryz.prog 100 (Ev.orcIn evL (Ev.orcAdd zfN 284 (.bool true))) 100000 256 []=some (.bool true):=by kernel_rfl
theorem zbL (w:World) (b:PowTab w) (a:BruTab w) (c:MaxVar w):Ev.OrcSound Tryz.prog 100 w.heap.size (Below w.heap.size w) (Ev.orcAdd zfN 284 (.bool true)):=
 (zcZ w b a c).add rfl ((enters_of Tryz.func284 (by kernel_rfl) rfl) #[]) fun W _ d=>aw16 W (zaC b d) (zaB a d) (zaA c d)
theorem Aw16 (w:World) (b:PowTab w) (a:BruTab w) (c:MaxVar w):Calls Tryz.prog 256 #[] w fun e w'=>e= .returned (.bool true)∧Below w.heap.size w w':=
 zaE zeC rfl w (zbL w b a c)
theorem zdJ (w:World) (b:PowTab w) (a:BruTab w) (c:MaxVar w):Ev.OrcSound Tryz.prog 100 w.heap.size (Below w.heap.size w) zfP:=
 (zbL w b a c).add rfl ((enters_of Tryz.func256 (by kernel_rfl) rfl) #[]) fun W _ d=>Aw16 W (zaC b d) (zaB a d) (zaA c d)
theorem zeV:Ev.runG Tryz.prog 100 (Ev.orcIn evL zfP) 100000 206 []=some (.bool true):=by kernel_rfl
theorem aw17 (w:World) (b:PowTab w) (a:BruTab w) (c:MaxVar w):Calls Tryz.prog 206 #[] w fun e w'=>e= .returned (.bool true)∧Below w.heap.size w w':=
 zaE zeV rfl w (zdJ w b a c)
noncomputable def zeP:Ev.Orc:=Ev.orcAdd (Ev.orcAdd zfP 206 (.bool true)) 174 (.bool true)
theorem zgH:Ev.runG Tryz.prog 100 (Ev.orcIn evL (Ev.orcAdd zfP 206 (.bool true))) 100000 174 []=some (.bool true):=by kernel_rfl
theorem zcB (w:World) (b:PowTab w) (a:BruTab w) (c:MaxVar w):Ev.OrcSound Tryz.prog 100 w.heap.size (Below w.heap.size w) (Ev.orcAdd zfP 206 (.bool true)):=
 (zdJ w b a c).add rfl ((enters_of Tryz.func206 (by kernel_rfl) rfl) #[]) fun W _ d=>aw17 W (zaC b d) (zaB a d) (zaA c d)
theorem Aw17 (w:World) (b:PowTab w) (a:BruTab w) (c:MaxVar w):Calls Tryz.prog 174 #[] w fun e w'=>e= .returned (.bool true)∧Below w.heap.size w w':=
 zaE zgH rfl w (zcB w b a c)
theorem zcW (w:World) (b:PowTab w) (a:BruTab w) (c:MaxVar w):Ev.OrcSound Tryz.prog 100 w.heap.size (Below w.heap.size w) zeP:=
 (zcB w b a c).add rfl ((enters_of Tryz.func174 (by kernel_rfl) rfl) #[]) fun W _ d=>Aw17 W (zaC b d) (zaB a d) (zaA c d)
theorem zeF:Ev.runG Tryz.prog 100 (Ev.orcIn evL zeP) 100000 158 []=some (.bool true):=by kernel_rfl
theorem aw18 (w:World) (b:PowTab w) (a:BruTab w) (c:MaxVar w):Calls Tryz.prog 158 #[] w fun e w'=>e= .returned (.bool true)∧Below w.heap.size w w':=
 zaE zeF rfl w (zcW w b a c)
noncomputable def zeM:Ev.Orc:=Ev.orcAdd (Ev.orcAdd zeP 158 (.bool true)) 146 (.bool true)
theorem zgA:Ev.runG Tryz.prog 100 (Ev.orcIn evL (Ev.orcAdd zeP 158 (.bool true))) 100000 146 []=some (.bool true):=by kernel_rfl
theorem zbH (w:World) (b:PowTab w) (a:BruTab w) (c:MaxVar w):Ev.OrcSound Tryz.prog 100 w.heap.size (Below w.heap.size w) (Ev.orcAdd zeP 158 (.bool true)):=
 (zcW w b a c).add rfl ((enters_of Tryz.func158 (by kernel_rfl) rfl) #[]) fun W _ d=>aw18 W (zaC b d) (zaB a d) (zaA c d)
theorem Aw18 (w:World) (b:PowTab w) (a:BruTab w) (c:MaxVar w):Calls Tryz.prog 146 #[] w fun e w'=>e= .returned (.bool true)∧Below w.heap.size w w':=
 zaE zgA rfl w (zbH w b a c)
theorem zdN (w:World) (b:PowTab w) (a:BruTab w) (c:MaxVar w):Ev.OrcSound Tryz.prog 100 w.heap.size (Below w.heap.size w) zeM:=
 (zbH w b a c).add rfl ((enters_of Tryz.func146 (by kernel_rfl) rfl) #[]) fun W _ d=>Aw18 W (zaC b d) (zaB a d) (zaA c d)
theorem zgC:Ev.runG Tryz.prog 100 (Ev.orcIn evL zeM) 100000 133 []=some (.bool true):=by kernel_rfl
theorem aw19 (w:World) (b:PowTab w) (a:BruTab w) (c:MaxVar w):Calls Tryz.prog 133 #[] w fun e w'=>e= .returned (.bool true)∧Below w.heap.size w w':=
 zaE zgC rfl w (zdN w b a c)
noncomputable def zeW:Ev.Orc:=Ev.orcAdd (Ev.orcAdd zeM 133 (.bool true)) 120 (.bool true)
theorem zeJ:Ev.runG Tryz.prog 100 (Ev.orcIn evL (Ev.orcAdd zeM 133 (.bool true))) 100000 120 []=some (.bool true):=by kernel_rfl
theorem zbR (w:World) (b:PowTab w) (a:BruTab w) (c:MaxVar w):Ev.OrcSound Tryz.prog 100 w.heap.size (Below w.heap.size w) (Ev.orcAdd zeM 133 (.bool true)):=
 (zdN w b a c).add rfl ((enters_of Tryz.func133 (by kernel_rfl) rfl) #[]) fun W _ d=>aw19 W (zaC b d) (zaB a d) (zaA c d)
theorem Aw19 (w:World) (b:PowTab w) (a:BruTab w) (c:MaxVar w):Calls Tryz.prog 120 #[] w fun e w'=>e= .returned (.bool true)∧Below w.heap.size w w':=
 zaE zeJ rfl w (zbR w b a c)
theorem zcM (w:World) (b:PowTab w) (a:BruTab w) (c:MaxVar w):Ev.OrcSound Tryz.prog 100 w.heap.size (Below w.heap.size w) zeW:=
 (zbR w b a c).add rfl ((enters_of Tryz.func120 (by kernel_rfl) rfl) #[]) fun W _ d=>Aw19 W (zaC b d) (zaB a d) (zaA c d)
theorem zdZ:Ev.runG Tryz.prog 100 (Ev.orcIn evL zeW) 100000 96 []=some (.bool true):=by kernel_rfl
theorem aw20 (w:World) (b:PowTab w) (a:BruTab w) (c:MaxVar w):Calls Tryz.prog 96 #[] w fun e w'=>e= .returned (.bool true)∧Below w.heap.size w w':=
 zaE zdZ rfl w (zcM w b a c)
noncomputable def zgL:Ev.Orc:=Ev.orcAdd (Ev.orcAdd zeW 96 (.bool true)) 68 (.bool true)
theorem zfV:Ev.runG Tryz.prog 100 (Ev.orcIn evL (Ev.orcAdd zeW 96 (.bool true))) 100000 68 []=some (.bool true):=by kernel_rfl
theorem zbT (w:World) (b:PowTab w) (a:BruTab w) (c:MaxVar w):Ev.OrcSound Tryz.prog 100 w.heap.size (Below w.heap.size w) (Ev.orcAdd zeW 96 (.bool true)):=
 (zcM w b a c).add rfl ((enters_of Tryz.func96 (by kernel_rfl) rfl) #[]) fun W _ d=>aw20 W (zaC b d) (zaB a d) (zaA c d)
theorem Aw20 (w:World) (b:PowTab w) (a:BruTab w) (c:MaxVar w):Calls Tryz.prog 68 #[] w fun e w'=>e= .returned (.bool true)∧Below w.heap.size w w':=
 zaE zfV rfl w (zbT w b a c)
theorem zcQ (w:World) (b:PowTab w) (a:BruTab w) (c:MaxVar w):Ev.OrcSound Tryz.prog 100 w.heap.size (Below w.heap.size w) zgL:=
 (zbT w b a c).add rfl ((enters_of Tryz.func68 (by kernel_rfl) rfl) #[]) fun W _ d=>Aw20 W (zaC b d) (zaB a d) (zaA c d)
theorem zfM:Ev.runG Tryz.prog 100 (Ev.orcIn evL zgL) 100000 48 []=some (.bool true):=by kernel_rfl
theorem aw21 (w:World) (b:PowTab w) (a:BruTab w) (c:MaxVar w):Calls Tryz.prog 48 #[] w fun e w'=>e= .returned (.bool true)∧Below w.heap.size w w':=
 zaE zfM rfl w (zcQ w b a c)
noncomputable def ziC:Ev.Orc:=Ev.orcAdd (Ev.orcAdd zgL 48 (.bool true)) 25 (.bool true)
theorem zgB:Ev.runG Tryz.prog 100 (Ev.orcIn evL (Ev.orcAdd zgL 48 (.bool true))) 100000 25 []=some (.bool true):=by kernel_rfl
theorem zbZ (w:World) (b:PowTab w) (a:BruTab w) (c:MaxVar w):Ev.OrcSound Tryz.prog 100 w.heap.size (Below w.heap.size w) (Ev.orcAdd zgL 48 (.bool true)):=
 (zcQ w b a c).add rfl ((enters_of Tryz.func48 (by kernel_rfl) rfl) #[]) fun W _ d=>aw21 W (zaC b d) (zaB a d) (zaA c d)
theorem Aw21 (w:World) (b:PowTab w) (a:BruTab w) (c:MaxVar w):Calls Tryz.prog 25 #[] w fun e w'=>e= .returned (.bool true)∧Below w.heap.size w w':=
 zaE zgB rfl w (zbZ w b a c)
theorem zcY (w:World) (b:PowTab w) (a:BruTab w) (c:MaxVar w):Ev.OrcSound Tryz.prog 100 w.heap.size (Below w.heap.size w) ziC:=
 (zbZ w b a c).add rfl ((enters_of Tryz.func25 (by kernel_rfl) rfl) #[]) fun W _ d=>Aw21 W (zaC b d) (zaB a d) (zaA c d)
theorem zeA:Ev.runG Tryz.prog 100 (Ev.orcIn evL ziC) 100000 5 []=some (.bool true):=by kernel_rfl
theorem aw22 (w:World) (b:PowTab w) (a:BruTab w) (c:MaxVar w):Calls Tryz.prog 5 #[] w fun e w'=>e= .returned (.bool true)∧Below w.heap.size w w':=
 zaE zeA rfl w (zcY w b a c)
theorem zcF:Ev.runG Tryz.prog 100 (Ev.orcIn evL (Ev.orcAdd ziC 5 (.bool true))) 100000 4 []=some (.bool true):=by kernel_rfl
theorem pinNone_walk (w:World) (b:PowTab w) (a:BruTab w) (c:MaxVar w):
  Calls Tryz.prog 4 #[] w fun e w'=>e= .returned (.bool true)∧Below w.heap.size w w':=
 zaE zcF rfl w ((zcY w b a c).add rfl (enters_of Tryz.func5 (by kernel_rfl) rfl #[]) fun W _ d=>aw22 W (zaC b d) (zaB a d) (zaA c d))
end
end Go.Proofs.YtpmaemedpcgjaaaGreatDoor
