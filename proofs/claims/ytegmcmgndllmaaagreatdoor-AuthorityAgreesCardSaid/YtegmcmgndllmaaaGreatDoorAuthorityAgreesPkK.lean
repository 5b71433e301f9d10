/-
  What the law AuthorityAgrees leans on, and its walk (11 of 43).
-/
import Derived.Test.YtegmcmgndllmaaaGreatDoorEvB
import Derived.Shelf.Abstract
import Derived.Test.YtegmcmgndllmaaaGreatDoorAuthorityAgreesPkE
import Derived.Test.YtegmcmgndllmaaaGreatDoorAuthorityAgreesPkJ
namespace Go.Proofs.YtegmcmgndllmaaaGreatDoor
set_option maxRecDepth 100000
set_option maxHeartbeats 16000000
section
open Go.RowKit
noncomputable def ymU:Ev.Orc:=Ev.orcWith (Ev.orcWith (Ev.orcWith (Ev.orcWith (Ev.orcWith (Ev.orcWith (Ev.orcWith (Ev.orcWith (Ev.orcWith (Ev.orcNone) 224 Ev.oReplace) 238 Ev.oJoin) 51 Ev.oItoa) 311 Ev.oTz) 284 Ev.oLen) 321 Ev.oCount) 146 Ev.oIndex) 233 Ev.oNoEscape) 265 Ev.oIndexByte
theorem zxZ (w:World) (q:PowTab w) (f:BruTab w) (g:MaxVar w):Ev.OrcSound Tryz.prog 100 w.heap.size (Below w.heap.size w) ymU:=by
 refine Ev.orcNone_sound|>.with ?o0|>.with ?o1|>.with ?o2|>.with ?o3|>.with ?o4|>.with ?o5|>.with ?o6|>.with ?o7|>.with ?o8
 case o0=>exact Ev.oReplace_ok (enters_of Tryz.func224 (by kernel_rfl) rfl) fun s o n W d j i B=>by obtain ⟨m,C⟩:=zaD g d;exact Tryz.strings_ReplaceAll s o n m W j C i B
 case o1=>exact Ev.oJoin_ok (enters_of Tryz.func238 (by kernel_rfl) rfl) fun D o c xs A w j i B E G=>Tryz.strings_Join D o c xs A w j i B E G
 case o2=>exact Ev.oItoa_ok (enters_of Tryz.func51 (by kernel_rfl) rfl) fun n W d j i=>(Tryz.strconv_Itoa n j i W (zaC q d)).mono (by rintro e w' ⟨rfl,k,os,rfl⟩;exact ⟨rfl,Lib.below_grow _ _ (Nat.le_refl _) _ _⟩)
 case o3=>exact Ev.oTz_ok (enters_of Tryz.func311 (by kernel_rfl) rfl) (fun W d=>(tz64_8 W (zaB f d)).mono fun _ _ h=>⟨h.1,h.2.symm⟩) (fun W d=>(z9I W (zaB f d)).mono fun _ _ h=>⟨h.1,h.2.symm⟩)
 case o4=>exact Ev.oLen_ok (enters_of Tryz.func284 (by kernel_rfl) rfl) fun x W j i=>Tryz.bits_Len64 x W j i
 case o5=>exact Ev.oCount_ok Tryz.func321 (by kernel_rfl) (by kernel_rfl) (by kernel_rfl) (by kernel_rfl)
 case o6=>exact Ev.oIndex_ok (enters_of Tryz.func146 (by kernel_rfl) rfl) fun s t W d h=>by obtain ⟨m,C⟩:=zaD g d;exact Tryz.stringslite_Index s t m W h C
 case o7=>exact Ev.oNoEscape_ok Tryz.func233 (by kernel_rfl) (by kernel_rfl) (by kernel_rfl) (by kernel_rfl)
 case o8=>exact Ev.oIndexByte_ok Tryz.func265 (by kernel_rfl) (by kernel_rfl) (by kernel_rfl) (by kernel_rfl)
theorem yfV:(Tryz.prog.funcs.toList.all fun f=> !(f.name== "runtime.NumGoroutine"))=true:=by kernel_rfl
theorem z0T:Ev.NoNum Tryz.prog:=fun g f h=>by
 have:=List.all_eq_true.1 yfV f (by simpa using Array.mem_of_getElem? h)
 simpa using this
theorem zxY:Tryz.prog.follows .mixedOrders=true:=by kernel_rfl
theorem zzC (w:World):Ev.Stays w.heap.size (Below w.heap.size w):=fun _ _ h k=>k.trans h
def evL:List Nat:=[8,19,36,51,58,82,146,150,186,218,224,233,238,245,247,265,269,284,289,302,311,318,321,324,326,328,329,330,331,333,334,335,337,342,349,354,356,357,358,359,360,362,363,364,365,366,367,368,369,370]
theorem zbH {d:Ev.Orc} {n:Nat} {f:FuncId} {v:Value} (h:Ev.runG Tryz.prog 100 (Ev.orcIn evL d) n f []=some v) (i:Ev.pf 100 6 v=true) (w:World) (g:Ev.OrcSound Tryz.prog 100 w.heap.size (Below w.heap.size w) d):
  Calls Tryz.prog f #[] w fun e w'=>e= .returned v∧Below w.heap.size w w':=
 Ev.runF_sound (zzC w) z0T zxY (Ev.orcIn_ok evL g) (Ev.runG_ok h) rfl i w rfl (Below.refl _ _)
def memoT:List (List UInt8×Nat×Nat×Nat):=[([48,46,48,46,48,46,48,47,56],0,281470681743360,104),
 ([49,48,46,48,46,48,46,48,47,56],0,281470849515520,104),
 ([49,48,48,46,54,52,46,48,46,48,47,49,48],0,281472363659264,106),
 ([49,50,55,46,48,46,48,46,48,47,56],0,281472812449792,104),
 ([49,54,57,46,50,53,52,46,48,46,48,47,49,54],0,281473533739008,112),
 ([49,55,50,46,49,54,46,48,46,48,47,49,50],0,281473568473088,108),
 ([49,57,50,46,48,46,48,46,48,47,50,52],0,281473902968832,120),
 ([49,57,50,46,48,46,50,46,48,47,50,52],0,281473902969344,120),
 ([49,57,50,46,56,56,46,57,57,46,48,47,50,52],0,281473908761344,120),
 ([49,57,50,46,49,54,56,46,48,46,48,47,49,54],0,281473913978880,112),
 ([49,57,56,46,49,56,46,48,46,48,47,49,53],0,281474004811776,111),
 ([49,57,56,46,53,49,46,49,48,48,46,48,47,50,52],0,281474007000064,120),
 ([50,48,51,46,48,46,49,49,51,46,48,47,50,52],0,281474087547136,120),
 ([50,50,52,46,48,46,48,46,48,47,52],0,281474439839744,100),
 ([50,52,48,46,48,46,48,46,48,47,52],0,281474708275200,100),
 ([58,58,47,49,50,56],0,0,128),
 ([58,58,49,47,49,50,56],0,1,128),
 ([54,52,58,102,102,57,98,58,49,58,58,47,52,56],28428538856144896,0,48),
 ([49,48,48,58,58,47,54,52],72057594037927936,0,64),
 ([50,48,48,49,58,58,47,50,51],2306124484190404608,0,23),
 ([50,48,48,49,58,100,98,56,58,58,47,51,50],2306139568115548160,0,32),
 ([51,102,102,102,58,58,47,50,48],4611404543450677248,0,20),
 ([53,102,48,48,58,58,47,49,54],6845471433603153920,0,16),
 ([102,99,48,48,58,58,47,55],18158513697557839872,0,7),
 ([102,101,56,48,58,58,47,49,48],18338657682652659712,0,10),
 ([102,101,99,48,58,58,47,49,48],18356672081162141696,0,10),
 ([102,102,48,48,58,58,47,56],18374686479671623680,0,8)]
def yjM (x:List UInt8×Nat×Nat×Nat):Value:= .tuple ⟨[.agg ⟨[.int .u64 (.ofNat x.2.1),.int .u64 (.ofNat x.2.2.1),.int .i64 (.ofNat x.2.2.2)]⟩,.bool true]⟩
def isPf (r:Option Value) (a b c:Nat):Bool:=match r with
 |some (.tuple ⟨[.agg ⟨[.int .u64 (.ofNat x),.int .u64 (.ofNat y),.int .i64 (.ofNat z)]⟩,.bool true]⟩)=>Nat.beq x a&&(Nat.beq y b&&Nat.beq z c)
 |_=>false
theorem ymB {r:Option Value} {x:List UInt8×Nat×Nat×Nat} (h:isPf r x.2.1 x.2.2.1 x.2.2.2=true):r=some (yjM x):=by
 unfold isPf at h
 split at h
 ·rw [Bool.and_eq_true,Bool.and_eq_true] at h
  unfold yjM
  rw [Nat.eq_of_beq_eq_true h.1,Nat.eq_of_beq_eq_true h.2.1,Nat.eq_of_beq_eq_true h.2.2]
 ·cases h
theorem z9Y:(memoT.all fun x=>isPf (Ev.runG Tryz.prog 100 (Ev.orcIn evL ymU) 100000 289 [.string ⟨x.1.toArray⟩]) x.2.1 x.2.2.1 x.2.2.2)=true:=by kernel_rfl
noncomputable def orcM:Ev.Orc:=Ev.orcWith ymU 289 (Ev.oMemo (memoT.map fun x=>(x.1,yjM x)))
theorem ykT (w:World) (d:PowTab w) (e:BruTab w) (f:MaxVar w):Ev.OrcSound Tryz.prog 100 w.heap.size (Below w.heap.size w) orcM:=by
 refine (zxZ w d e f).with (Ev.oMemo_ok (enters_of Tryz.func289 (by kernel_rfl) rfl) (by kernel_rfl) fun x m W o g=> ?_)
 obtain ⟨y,i,rfl⟩:=List.mem_map.1 m
 have h:=ymB (List.all_eq_true.1 z9Y y i)
 have j:=Ev.runF_sound (zzC W) z0T zxY (Ev.orcIn_ok evL (zxZ W (zaC d g) (zaB e g) (zaD f g))) (Ev.runG_ok h) rfl rfl W rfl (Below.refl _ _)
 simpa using j
def z7C:Ev.OrcH:=fun args _=>match args with
 |[.agg ⟨[.int .u64 (.ofNat hi),.int .u64 (.ofNat lo),.int .i64 (.ofNat n)]⟩]=>(match Nat.blt hi 18446744073709551616&&Nat.blt lo 18446744073709551616 with|true=>some (.bool (zbS (zaQ hi lo) (n:Int)))|false=>none)
 |_=>none
theorem z7X {base:Nat} {T:World→Prop}:Ev.OrcFn Tryz.prog 100 base T 186 z7C:=by
 refine Ev.oFn_ok (enters_of Tryz.func186 (by kernel_rfl) rfl) fun args f v d=> ?_
 unfold z7C at d
 split at d
 ·split at d
  ·rename_i e
   cases d
   simp only [Bool.and_eq_true] at e
   refine ⟨rfl,rfl,fun W _ _=> ?_⟩
   exact zcY _ _ _ W (Ev.blt_ok e.1) (Ev.blt_ok e.2)
  ·cases d
 ·cases d
noncomputable def zuG:Ev.Orc:=Ev.orcWith orcM 186 z7C
theorem zsW (w:World) (f:PowTab w) (e:BruTab w) (d:MaxVar w):Ev.OrcSound Tryz.prog 100 w.heap.size (Below w.heap.size w) zuG:=(ykT w f e d).with z7X
def zxB:Ev.OrcH:=fun args _=>match args with
 |[.agg ⟨[.int .u64 (.ofNat hi),.int .u64 (.ofNat lo),.int .i64 (.ofNat n)]⟩,.agg ⟨[.int .u64 (.ofNat d),.int .u64 (.ofNat e),.int .i64 (.ofNat m)]⟩]=>(match (Nat.blt hi 18446744073709551616&&Nat.blt lo 18446744073709551616)&&(Nat.blt d 18446744073709551616&&Nat.blt e 18446744073709551616) with|true=>some (.bool (zdW (zaQ hi lo) (n:Int) (zaQ d e) (m:Int)))|false=>none)
 |_=>none
theorem z2H {base:Nat} {T:World→Prop}:Ev.OrcFn Tryz.prog 100 base T 245 zxB:=by
 refine Ev.oFn_ok (enters_of Tryz.func245 (by kernel_rfl) rfl) fun args f v d=> ?_
 unfold zxB at d
 split at d
 ·split at d
  ·rename_i e
   cases d
   simp only [Bool.and_eq_true] at e
   refine ⟨rfl,rfl,fun W _ _=> ?_⟩
   exact z3Q _ _ _ _ _ _ W (Ev.blt_ok e.1.1) (Ev.blt_ok e.1.2) (Ev.blt_ok e.2.1) (Ev.blt_ok e.2.2)
  ·cases d
 ·cases d
noncomputable def zpT:Ev.Orc:=Ev.orcWith zuG 245 zxB
theorem zrG (w:World) (f:PowTab w) (e:BruTab w) (d:MaxVar w):Ev.OrcSound Tryz.prog 100 w.heap.size (Below w.heap.size w) zpT:=(zsW w f e d).with z2H
def zvX:Ev.OrcH:=fun args _=>match args with
 |[.agg ⟨[.int .u64 (.ofNat hi),.int .u64 (.ofNat lo),.int .i64 (.ofNat n)]⟩,.agg ⟨[.int .u64 (.ofNat e),.int .u64 (.ofNat d),.int .i64 (.ofNat k)]⟩]=>(match ((Nat.blt hi 18446744073709551616&&Nat.blt lo 18446744073709551616)&&(Nat.blt e 18446744073709551616&&Nat.blt d 18446744073709551616))&&(Nat.ble n 128&&Nat.ble k 128) with|true=>some (pfW (ofW (zaQ e d) (zkB (zaQ hi lo) n (zaQ e d) k)) (zkB (zaQ hi lo) n (zaQ e d) k:Nat))|false=>none)
 |_=>none
theorem z2D {base:Nat} {T:World→Prop}:Ev.OrcFn Tryz.prog 100 base T 247 zvX:=by
 refine Ev.oFn_ok (enters_of Tryz.func247 (by kernel_rfl) rfl) fun args f v e=> ?_
 unfold zvX at e
 split at e
 ·split at e
  ·rename_i d
   cases e
   simp only [Bool.and_eq_true] at d
   refine ⟨rfl,rfl,fun W _ _=> ?_⟩
   exact z4B _ _ _ _ _ _ W (Ev.blt_ok d.1.1.1) (Ev.blt_ok d.1.1.2) (Ev.blt_ok d.1.2.1) (Ev.blt_ok d.1.2.2) (Nat.le_of_ble_eq_true d.2.1) (Nat.le_of_ble_eq_true d.2.2)
  ·cases e
 ·cases e
noncomputable def zfV:Ev.Orc:=Ev.orcWith zpT 247 zvX
theorem zkJ (w:World) (f:PowTab w) (e:BruTab w) (d:MaxVar w):Ev.OrcSound Tryz.prog 100 w.heap.size (Below w.heap.size w) zfV:=(zrG w f e d).with z2D
theorem z6I:Ev.runG Tryz.prog 100 (Ev.orcIn evL zfV) 100000 370 []=some (.bool true):=by kernel_rfl
theorem aw01 (w:World) (d:PowTab w) (f:BruTab w) (g:MaxVar w):Calls Tryz.prog 370 #[] w fun e w'=>e= .returned (.bool true)∧Below w.heap.size w w':=
 zbH z6I rfl w (zkJ w d f g)
noncomputable def z8U:Ev.Orc:=Ev.orcAdd (Ev.orcAdd zfV 370 (.bool true)) 369 (.bool true)
theorem z5O:Ev.runG Tryz.prog 100 (Ev.orcIn evL (Ev.orcAdd zfV 370 (.bool true))) 100000 369 []=some (.bool true):=by kernel_rfl
theorem ztV (w:World) (d:PowTab w) (e:BruTab w) (f:MaxVar w):Ev.OrcSound Tryz.prog 100 w.heap.size (Below w.heap.size w) (Ev.orcAdd zfV 370 (.bool true)):=
 (zkJ w d e f).add rfl ((enters_of Tryz.func370 (by kernel_rfl) rfl) #[]) fun W _ g=>aw01 W (zaC d g) (zaB e g) (zaD f g)
theorem Aw01 (w:World) (d:PowTab w) (f:BruTab w) (g:MaxVar w):Calls Tryz.prog 369 #[] w fun e w'=>e= .returned (.bool true)∧Below w.heap.size w w':=
 zbH z5O rfl w (ztV w d f g)
theorem zxT (w:World) (d:PowTab w) (e:BruTab w) (f:MaxVar w):Ev.OrcSound Tryz.prog 100 w.heap.size (Below w.heap.size w) z8U:=
 (ztV w d e f).add rfl ((enters_of Tryz.func369 (by kernel_rfl) rfl) #[]) fun W _ g=>Aw01 W (zaC d g) (zaB e g) (zaD f g)
theorem ycO:Ev.runG Tryz.prog 100 (Ev.orcIn evL z8U) 100000 368 []=some (.bool true):=by kernel_rfl
theorem aw02 (w:World) (d:PowTab w) (f:BruTab w) (g:MaxVar w):Calls Tryz.prog 368 #[] w fun e w'=>e= .returned (.bool true)∧Below w.heap.size w w':=
 zbH ycO rfl w (zxT w d f g)
noncomputable def z5E:Ev.Orc:=Ev.orcAdd (Ev.orcAdd z8U 368 (.bool true)) 367 (.bool true)
theorem z8O:Ev.runG Tryz.prog 100 (Ev.orcIn evL (Ev.orcAdd z8U 368 (.bool true))) 100000 367 []=some (.bool true):=by kernel_rfl
theorem zvJ (w:World) (d:PowTab w) (e:BruTab w) (f:MaxVar w):Ev.OrcSound Tryz.prog 100 w.heap.size (Below w.heap.size w) (Ev.orcAdd z8U 368 (.bool true)):=
 (zxT w d e f).add rfl ((enters_of Tryz.func368 (by kernel_rfl) rfl) #[]) fun W _ g=>aw02 W (zaC d g) (zaB e g) (zaD f g)
theorem Aw02 (w:World) (d:PowTab w) (f:BruTab w) (g:MaxVar w):Calls Tryz.prog 367 #[] w fun e w'=>e= .returned (.bool true)∧Below w.heap.size w w':=
 zbH z8O rfl w (zvJ w d f g)
theorem zzV (w:World) (d:PowTab w) (e:BruTab w) (f:MaxVar w):Ev.OrcSound Tryz.prog 100 w.heap.size (Below w.heap.size w) z5E:=
 (zvJ w d e f).add rfl ((enters_of Tryz.func367 (by kernel_rfl) rfl) #[]) fun W _ g=>Aw02 W (zaC d g) (zaB e g) (zaD f g)
theorem ydA:Ev.runG Tryz.prog 100 (Ev.orcIn evL z5E) 100000 366 []=some (.bool true):=by kernel_rfl
theorem aw03 (w:World) (d:PowTab w) (f:BruTab w) (g:MaxVar w):Calls Tryz.prog 366 #[] w fun e w'=>e= .returned (.bool true)∧Below w.heap.size w w':=
 zbH ydA rfl w (zzV w d f g)
noncomputable def ycQ:Ev.Orc:=Ev.orcAdd (Ev.orcAdd z5E 366 (.bool true)) 365 (.bool true)
theorem ydM:Ev.runG Tryz.prog 100 (Ev.orcIn evL (Ev.orcAdd z5E 366 (.bool true))) 100000 365 []=some (.bool true):=by kernel_rfl
theorem zuM (w:World) (d:PowTab w) (e:BruTab w) (f:MaxVar w):Ev.OrcSound Tryz.prog 100 w.heap.size (Below w.heap.size w) (Ev.orcAdd z5E 366 (.bool true)):=
 (zzV w d e f).add rfl ((enters_of Tryz.func366 (by kernel_rfl) rfl) #[]) fun W _ g=>aw03 W (zaC d g) (zaB e g) (zaD f g)
theorem Aw03 (w:World) (d:PowTab w) (f:BruTab w) (g:MaxVar w):Calls Tryz.prog 365 #[] w fun e w'=>e= .returned (.bool true)∧Below w.heap.size w w':=
 zbH ydM rfl w (zuM w d f g)
theorem zzM (w:World) (d:PowTab w) (e:BruTab w) (f:MaxVar w):Ev.OrcSound Tryz.prog 100 w.heap.size (Below w.heap.size w) ycQ:=
 (zuM w d e f).add rfl ((enters_of Tryz.func365 (by kernel_rfl) rfl) #[]) fun W _ g=>Aw03 W (zaC d g) (zaB e g) (zaD f g)
theorem ybA:Ev.runG Tryz.prog 100 (Ev.orcIn evL ycQ) 100000 364 []=some (.bool true):=by kernel_rfl
theorem aw04 (w:World) (d:PowTab w) (f:BruTab w) (g:MaxVar w):Calls Tryz.prog 364 #[] w fun e w'=>e= .returned (.bool true)∧Below w.heap.size w w':=
 zbH ybA rfl w (zzM w d f g)
noncomputable def z6K:Ev.Orc:=Ev.orcAdd (Ev.orcAdd ycQ 364 (.bool true)) 363 (.bool true)
theorem z5G:Ev.runG Tryz.prog 100 (Ev.orcIn evL (Ev.orcAdd ycQ 364 (.bool true))) 100000 363 []=some (.bool true):=by kernel_rfl
theorem zuH (w:World) (d:PowTab w) (e:BruTab w) (f:MaxVar w):Ev.OrcSound Tryz.prog 100 w.heap.size (Below w.heap.size w) (Ev.orcAdd ycQ 364 (.bool true)):=
 (zzM w d e f).add rfl ((enters_of Tryz.func364 (by kernel_rfl) rfl) #[]) fun W _ g=>aw04 W (zaC d g) (zaB e g) (zaD f g)
theorem Aw04 (w:World) (d:PowTab w) (f:BruTab w) (g:MaxVar w):Calls Tryz.prog 363 #[] w fun e w'=>e= .returned (.bool true)∧Below w.heap.size w w':=
 zbH z5G rfl w (zuH w d f g)
theorem z0W (w:World) (d:PowTab w) (e:BruTab w) (f:MaxVar w):Ev.OrcSound Tryz.prog 100 w.heap.size (Below w.heap.size w) z6K:=
 (zuH w d e f).add rfl ((enters_of Tryz.func363 (by kernel_rfl) rfl) #[]) fun W _ g=>Aw04 W (zaC d g) (zaB e g) (zaD f g)
theorem z4W:Ev.runG Tryz.prog 100 (Ev.orcIn evL z6K) 100000 362 []=some (.bool true):=by kernel_rfl
theorem aw05 (w:World) (d:PowTab w) (f:BruTab w) (g:MaxVar w):Calls Tryz.prog 362 #[] w fun e w'=>e= .returned (.bool true)∧Below w.heap.size w w':=
 zbH z4W rfl w (z0W w d f g)
noncomputable def ycC:Ev.Orc:=Ev.orcAdd (Ev.orcAdd z6K 362 (.bool true)) 360 (.bool true)
theorem yaL:Ev.runG Tryz.prog 100 (Ev.orcIn evL (Ev.orcAdd z6K 362 (.bool true))) 100000 360 []=some (.bool true):=by kernel_rfl
theorem zvL (w:World) (d:PowTab w) (e:BruTab w) (f:MaxVar w):Ev.OrcSound Tryz.prog 100 w.heap.size (Below w.heap.size w) (Ev.orcAdd z6K 362 (.bool true)):=
 (z0W w d e f).add rfl ((enters_of Tryz.func362 (by kernel_rfl) rfl) #[]) fun W _ g=>aw05 W (zaC d g) (zaB e g) (zaD f g)
theorem Aw05 (w:World) (d:PowTab w) (f:BruTab w) (g:MaxVar w):Calls Tryz.prog 360 #[] w fun e w'=>e= .returned (.bool true)∧Below w.heap.size w w':=
 zbH yaL rfl w (zvL w d f g)
theorem zzU (w:World) (d:PowTab w) (e:BruTab w) (f:MaxVar w):Ev.OrcSound Tryz.prog 100 w.heap.size (Below w.heap.size w) ycC:=
 (zvL w d e f).add rfl ((enters_of Tryz.func360 (by kernel_rfl) rfl) #[]) fun W _ g=>Aw05 W (zaC d g) (zaB e g) (zaD f g)
theorem z6H:Ev.runG Tryz.prog 100 (Ev.orcIn evL ycC) 100000 359 []=some (.bool true):=by kernel_rfl
theorem aw06 (w:World) (d:PowTab w) (f:BruTab w) (g:MaxVar w):Calls Tryz.prog 359 #[] w fun e w'=>e= .returned (.bool true)∧Below w.heap.size w w':=
 zbH z6H rfl w (zzU w d f g)
noncomputable def z8V:Ev.Orc:=Ev.orcAdd (Ev.orcAdd ycC 359 (.bool true)) 358 (.bool true)
theorem z6M:Ev.runG Tryz.prog 100 (Ev.orcIn evL (Ev.orcAdd ycC 359 (.bool true))) 100000 358 []=some (.bool true):=by kernel_rfl
theorem zuX (w:World) (d:PowTab w) (e:BruTab w) (f:MaxVar w):Ev.OrcSound Tryz.prog 100 w.heap.size (Below w.heap.size w) (Ev.orcAdd ycC 359 (.bool true)):=
 (zzU w d e f).add rfl ((enters_of Tryz.func359 (by kernel_rfl) rfl) #[]) fun W _ g=>aw06 W (zaC d g) (zaB e g) (zaD f g)
theorem Aw06 (w:World) (d:PowTab w) (f:BruTab w) (g:MaxVar w):Calls Tryz.prog 358 #[] w fun e w'=>e= .returned (.bool true)∧Below w.heap.size w w':=
 zbH z6M rfl w (zuX w d f g)
theorem zyP (w:World) (d:PowTab w) (e:BruTab w) (f:MaxVar w):Ev.OrcSound Tryz.prog 100 w.heap.size (Below w.heap.size w) z8V:=
 (zuX w d e f).add rfl ((enters_of Tryz.func358 (by kernel_rfl) rfl) #[]) fun W _ g=>Aw06 W (zaC d g) (zaB e g) (zaD f g)
theorem yaW:Ev.runG Tryz.prog 100 (Ev.orcIn evL z8V) 100000 357 []=some (.bool true):=by kernel_rfl
theorem aw07 (w:World) (d:PowTab w) (f:BruTab w) (g:MaxVar w):Calls Tryz.prog 357 #[] w fun e w'=>e= .returned (.bool true)∧Below w.heap.size w w':=
 zbH yaW rfl w (zyP w d f g)
noncomputable def ydW:Ev.Orc:=Ev.orcAdd (Ev.orcAdd z8V 357 (.bool true)) 356 (.bool true)
theorem yaH:Ev.runG Tryz.prog 100 (Ev.orcIn evL (Ev.orcAdd z8V 357 (.bool true))) 100000 356 []=some (.bool true):=by kernel_rfl
theorem zvF (w:World) (d:PowTab w) (e:BruTab w) (f:MaxVar w):Ev.OrcSound Tryz.prog 100 w.heap.size (Below w.heap.size w) (Ev.orcAdd z8V 357 (.bool true)):=
 (zyP w d e f).add rfl ((enters_of Tryz.func357 (by kernel_rfl) rfl) #[]) fun W _ g=>aw07 W (zaC d g) (zaB e g) (zaD f g)
theorem Aw07 (w:World) (d:PowTab w) (f:BruTab w) (g:MaxVar w):Calls Tryz.prog 356 #[] w fun e w'=>e= .returned (.bool true)∧Below w.heap.size w w':=
 zbH yaH rfl w (zvF w d f g)
theorem zzJ (w:World) (d:PowTab w) (e:BruTab w) (f:MaxVar w):Ev.OrcSound Tryz.prog 100 w.heap.size (Below w.heap.size w) ydW:=
 (zvF w d e f).add rfl ((enters_of Tryz.func356 (by kernel_rfl) rfl) #[]) fun W _ g=>Aw07 W (zaC d g) (zaB e g) (zaD f g)
theorem z8B:Ev.runG Tryz.prog 100 (Ev.orcIn evL ydW) 100000 354 []=some (.bool true):=by kernel_rfl
theorem aw08 (w:World) (d:PowTab w) (f:BruTab w) (g:MaxVar w):Calls Tryz.prog 354 #[] w fun e w'=>e= .returned (.bool true)∧Below w.heap.size w w':=
 zbH z8B rfl w (zzJ w d f g)
noncomputable def z4Q:Ev.Orc:=Ev.orcAdd (Ev.orcAdd ydW 354 (.bool true)) 349 (.bool true)
theorem z7F:Ev.runG Tryz.prog 100 (Ev.orcIn evL (Ev.orcAdd ydW 354 (.bool true))) 100000 349 []=some (.bool true):=by kernel_rfl
theorem ztW (w:World) (d:PowTab w) (e:BruTab w) (f:MaxVar w):Ev.OrcSound Tryz.prog 100 w.heap.size (Below w.heap.size w) (Ev.orcAdd ydW 354 (.bool true)):=
 (zzJ w d e f).add rfl ((enters_of Tryz.func354 (by kernel_rfl) rfl) #[]) fun W _ g=>aw08 W (zaC d g) (zaB e g) (zaD f g)
theorem Aw08 (w:World) (d:PowTab w) (f:BruTab w) (g:MaxVar w):Calls Tryz.prog 349 #[] w fun e w'=>e= .returned (.bool true)∧Below w.heap.size w w':=
 zbH z7F rfl w (ztW w d f g)
theorem z0R (w:World) (d:PowTab w) (e:BruTab w) (f:MaxVar w):Ev.OrcSound Tryz.prog 100 w.heap.size (Below w.heap.size w) z4Q:=
 (ztW w d e f).add rfl ((enters_of Tryz.func349 (by kernel_rfl) rfl) #[]) fun W _ g=>Aw08 W (zaC d g) (zaB e g) (zaD f g)
theorem z7H:Ev.runG Tryz.prog 100 (Ev.orcIn evL z4Q) 100000 342 []=some (.bool true):=by kernel_rfl
theorem aw09 (w:World) (d:PowTab w) (f:BruTab w) (g:MaxVar w):Calls Tryz.prog 342 #[] w fun e w'=>e= .returned (.bool true)∧Below w.heap.size w w':=
 zbH z7H rfl w (z0R w d f g)
noncomputable def ycN:Ev.Orc:=Ev.orcAdd (Ev.orcAdd z4Q 342 (.bool true)) 337 (.bool true)
theorem z9B:Ev.runG Tryz.prog 100 (Ev.orcIn evL (Ev.orcAdd z4Q 342 (.bool true))) 100000 337 []=some (.bool true):=by kernel_rfl
theorem ztU (w:World) (d:PowTab w) (e:BruTab w) (f:MaxVar w):Ev.OrcSound Tryz.prog 100 w.heap.size (Below w.heap.size w) (Ev.orcAdd z4Q 342 (.bool true)):=
 (z0R w d e f).add rfl ((enters_of Tryz.func342 (by kernel_rfl) rfl) #[]) fun W _ g=>aw09 W (zaC d g) (zaB e g) (zaD f g)
theorem Aw09 (w:World) (d:PowTab w) (f:BruTab w) (g:MaxVar w):Calls Tryz.prog 337 #[] w fun e w'=>e= .returned (.bool true)∧Below w.heap.size w w':=
 zbH z9B rfl w (ztU w d f g)
theorem zyA (w:World) (d:PowTab w) (e:BruTab w) (f:MaxVar w):Ev.OrcSound Tryz.prog 100 w.heap.size (Below w.heap.size w) ycN:=
 (ztU w d e f).add rfl ((enters_of Tryz.func337 (by kernel_rfl) rfl) #[]) fun W _ g=>Aw09 W (zaC d g) (zaB e g) (zaD f g)
theorem z9K:Ev.runG Tryz.prog 100 (Ev.orcIn evL ycN) 100000 335 []=some (.bool true):=by kernel_rfl
theorem aw10 (w:World) (d:PowTab w) (f:BruTab w) (g:MaxVar w):Calls Tryz.prog 335 #[] w fun e w'=>e= .returned (.bool true)∧Below w.heap.size w w':=
 zbH z9K rfl w (zyA w d f g)
noncomputable def ybI:Ev.Orc:=Ev.orcAdd (Ev.orcAdd ycN 335 (.bool true)) 334 (.bool true)
theorem z6X:Ev.runG Tryz.prog 100 (Ev.orcIn evL (Ev.orcAdd ycN 335 (.bool true))) 100000 334 []=some (.bool true):=by kernel_rfl
theorem ztR (w:World) (d:PowTab w) (e:BruTab w) (f:MaxVar w):Ev.OrcSound Tryz.prog 100 w.heap.size (Below w.heap.size w) (Ev.orcAdd ycN 335 (.bool true)):=
 (zyA w d e f).add rfl ((enters_of Tryz.func335 (by kernel_rfl) rfl) #[]) fun W _ g=>aw10 W (zaC d g) (zaB e g) (zaD f g)
theorem Aw10 (w:World) (d:PowTab w) (f:BruTab w) (g:MaxVar w):Calls Tryz.prog 334 #[] w fun e w'=>e= .returned (.bool true)∧Below w.heap.size w w':=
 zbH z6X rfl w (ztR w d f g)
theorem zzX (w:World) (d:PowTab w) (e:BruTab w) (f:MaxVar w):Ev.OrcSound Tryz.prog 100 w.heap.size (Below w.heap.size w) ybI:=
 (ztR w d e f).add rfl ((enters_of Tryz.func334 (by kernel_rfl) rfl) #[]) fun W _ g=>Aw10 W (zaC d g) (zaB e g) (zaD f g)
theorem z6V:Ev.runG Tryz.prog 100 (Ev.orcIn evL ybI) 100000 333 []=some (.bool true):=by kernel_rfl
theorem aw11 (w:World) (d:PowTab w) (f:BruTab w) (g:MaxVar w):Calls Tryz.prog 333 #[] w fun e w'=>e= .returned (.bool true)∧Below w.heap.size w w':=
 zbH z6V rfl w (zzX w d f g)
noncomputable def ydP:Ev.Orc:=Ev.orcAdd (Ev.orcAdd ybI 333 (.bool true)) 331 (.bool true)
theorem yaP:Ev.runG Tryz.prog 100 (Ev.orcIn evL (Ev.orcAdd ybI 333 (.bool true))) 100000 331 []=some (.bool true):=by kernel_rfl
theorem zsM (w:World) (d:PowTab w) (e:BruTab w) (f:MaxVar w):Ev.OrcSound Tryz.prog 100 w.heap.size (Below w.heap.size w) (Ev.orcAdd ybI 333 (.bool true)):=
 (zzX w d e f).add rfl ((enters_of Tryz.func333 (by kernel_rfl) rfl) #[]) fun W _ g=>aw11 W (zaC d g) (zaB e g) (zaD f g)
theorem Aw11 (w:World) (d:PowTab w) (f:BruTab w) (g:MaxVar w):Calls Tryz.prog 331 #[] w fun e w'=>e= .returned (.bool true)∧Below w.heap.size w w':=
 zbH yaP rfl w (zsM w d f g)
theorem zzO (w:World) (d:PowTab w) (e:BruTab w) (f:MaxVar w):Ev.OrcSound Tryz.prog 100 w.heap.size (Below w.heap.size w) ydP:=
 (zsM w d e f).add rfl ((enters_of Tryz.func331 (by kernel_rfl) rfl) #[]) fun W _ g=>Aw11 W (zaC d g) (zaB e g) (zaD f g)
theorem yaS:Ev.runG Tryz.prog 100 (Ev.orcIn evL ydP) 100000 330 []=some (.bool true):=by kernel_rfl
theorem aw12 (w:World) (d:PowTab w) (f:BruTab w) (g:MaxVar w):Calls Tryz.prog 330 #[] w fun e w'=>e= .returned (.bool true)∧Below w.heap.size w w':=
 zbH yaS rfl w (zzO w d f g)
noncomputable def ycB:Ev.Orc:=Ev.orcAdd (Ev.orcAdd ydP 330 (.bool true)) 329 (.bool true)
theorem ybH:Ev.runG Tryz.prog 100 (Ev.orcIn evL (Ev.orcAdd ydP 330 (.bool true))) 100000 329 []=some (.bool true):=by kernel_rfl
theorem zvO (w:World) (d:PowTab w) (e:BruTab w) (f:MaxVar w):Ev.OrcSound Tryz.prog 100 w.heap.size (Below w.heap.size w) (Ev.orcAdd ydP 330 (.bool true)):=
 (zzO w d e f).add rfl ((enters_of Tryz.func330 (by kernel_rfl) rfl) #[]) fun W _ g=>aw12 W (zaC d g) (zaB e g) (zaD f g)
theorem Aw12 (w:World) (d:PowTab w) (f:BruTab w) (g:MaxVar w):Calls Tryz.prog 329 #[] w fun e w'=>e= .returned (.bool true)∧Below w.heap.size w w':=
 zbH ybH rfl w (zvO w d f g)
theorem zyO (w:World) (d:PowTab w) (e:BruTab w) (f:MaxVar w):Ev.OrcSound Tryz.prog 100 w.heap.size (Below w.heap.size w) ycB:=
 (zvO w d e f).add rfl ((enters_of Tryz.func329 (by kernel_rfl) rfl) #[]) fun W _ g=>Aw12 W (zaC d g) (zaB e g) (zaD f g)
theorem z5W:Ev.runG Tryz.prog 100 (Ev.orcIn evL ycB) 100000 328 []=some (.bool true):=by kernel_rfl
theorem aw13 (w:World) (d:PowTab w) (f:BruTab w) (g:MaxVar w):Calls Tryz.prog 328 #[] w fun e w'=>e= .returned (.bool true)∧Below w.heap.size w w':=
 zbH z5W rfl w (zyO w d f g)
noncomputable def ydG:Ev.Orc:=Ev.orcAdd (Ev.orcAdd ycB 328 (.bool true)) 326 (.bool true)
theorem ybP:Ev.runG Tryz.prog 100 (Ev.orcIn evL (Ev.orcAdd ycB 328 (.bool true))) 100000 326 []=some (.bool true):=by kernel_rfl
theorem zsI (w:World) (d:PowTab w) (e:BruTab w) (f:MaxVar w):Ev.OrcSound Tryz.prog 100 w.heap.size (Below w.heap.size w) (Ev.orcAdd ycB 328 (.bool true)):=
 (zyO w d e f).add rfl ((enters_of Tryz.func328 (by kernel_rfl) rfl) #[]) fun W _ g=>aw13 W (zaC d g) (zaB e g) (zaD f g)
theorem Aw13 (w:World) (d:PowTab w) (f:BruTab w) (g:MaxVar w):Calls Tryz.prog 326 #[] w fun e w'=>e= .returned (.bool true)∧Below w.heap.size w w':=
 zbH ybP rfl w (zsI w d f g)
theorem zyE (w:World) (d:PowTab w) (e:BruTab w) (f:MaxVar w):Ev.OrcSound Tryz.prog 100 w.heap.size (Below w.heap.size w) ydG:=
 (zsI w d e f).add rfl ((enters_of Tryz.func326 (by kernel_rfl) rfl) #[]) fun W _ g=>Aw13 W (zaC d g) (zaB e g) (zaD f g)
theorem z5K:Ev.runG Tryz.prog 100 (Ev.orcIn evL ydG) 100000 324 []=some (.bool true):=by kernel_rfl
theorem aw14 (w:World) (d:PowTab w) (f:BruTab w) (g:MaxVar w):Calls Tryz.prog 324 #[] w fun e w'=>e= .returned (.bool true)∧Below w.heap.size w w':=
 zbH z5K rfl w (zyE w d f g)
noncomputable def z5S:Ev.Orc:=Ev.orcAdd (Ev.orcAdd ydG 324 (.bool true)) 318 (.bool true)
theorem z4V:Ev.runG Tryz.prog 100 (Ev.orcIn evL (Ev.orcAdd ydG 324 (.bool true))) 100000 318 []=some (.bool true):=by kernel_rfl
theorem ztD (w:World) (d:PowTab w) (e:BruTab w) (f:MaxVar w):Ev.OrcSound Tryz.prog 100 w.heap.size (Below w.heap.size w) (Ev.orcAdd ydG 324 (.bool true)):=
 (zyE w d e f).add rfl ((enters_of Tryz.func324 (by kernel_rfl) rfl) #[]) fun W _ g=>aw14 W (zaC d g) (zaB e g) (zaD f g)
theorem Aw14 (w:World) (d:PowTab w) (f:BruTab w) (g:MaxVar w):Calls Tryz.prog 318 #[] w fun e w'=>e= .returned (.bool true)∧Below w.heap.size w w':=
 zbH z4V rfl w (ztD w d f g)
theorem z0E (w:World) (d:PowTab w) (e:BruTab w) (f:MaxVar w):Ev.OrcSound Tryz.prog 100 w.heap.size (Below w.heap.size w) z5S:=
 (ztD w d e f).add rfl ((enters_of Tryz.func318 (by kernel_rfl) rfl) #[]) fun W _ g=>Aw14 W (zaC d g) (zaB e g) (zaD f g)
theorem ydC:Ev.runG Tryz.prog 100 (Ev.orcIn evL z5S) 100000 302 []=some (.bool true):=by kernel_rfl
theorem aw15 (w:World) (d:PowTab w) (f:BruTab w) (g:MaxVar w):Calls Tryz.prog 302 #[] w fun e w'=>e= .returned (.bool true)∧Below w.heap.size w w':=
 zbH ydC rfl w (z0E w d f g)
noncomputable def ybW:Ev.Orc:=Ev.orcAdd (Ev.orcAdd z5S 302 (.bool true)) 269 (.bool true)
theorem z6U:Ev.runG Tryz.prog 100 (Ev.orcIn evL (Ev.orcAdd z5S 302 (.bool true))) 100000 269 []=some (.bool true):=by kernel_rfl
theorem zuV (w:World) (d:PowTab w) (e:BruTab w) (f:MaxVar w):Ev.OrcSound Tryz.prog 100 w.heap.size (Below w.heap.size w) (Ev.orcAdd z5S 302 (.bool true)):=
 (z0E w d e f).add rfl ((enters_of Tryz.func302 (by kernel_rfl) rfl) #[]) fun W _ g=>aw15 W (zaC d g) (zaB e g) (zaD f g)
theorem Aw15 (w:World) (d:PowTab w) (f:BruTab w) (g:MaxVar w):Calls Tryz.prog 269 #[] w fun e w'=>e= .returned (.bool true)∧Below w.heap.size w w':=
 zbH z6U rfl w (zuV w d f g)
theorem zzE (w:World) (d:PowTab w) (e:BruTab w) (f:MaxVar w):Ev.OrcSound Tryz.prog 100 w.heap.size (Below w.heap.size w) ybW:=
 (zuV w d e f).add rfl ((enters_of Tryz.func269 (by kernel_rfl) rfl) #[]) fun W _ g=>Aw15 W (zaC d g) (zaB e g) (zaD f g)
theorem z5M:Ev.runG Tryz.prog 100 (Ev.orcIn evL ybW) 100000 218 []=some (.bool true):=by kernel_rfl
theorem aw16 (w:World) (d:PowTab w) (f:BruTab w) (g:MaxVar w):Calls Tryz.prog 218 #[] w fun e w'=>e= .returned (.bool true)∧Below w.heap.size w w':=
 zbH z5M rfl w (zzE w d f g)
noncomputable def ycL:Ev.Orc:=Ev.orcAdd (Ev.orcAdd ybW 218 (.bool true)) 150 (.bool true)
theorem ybJ:Ev.runG Tryz.prog 100 (Ev.orcIn evL (Ev.orcAdd ybW 218 (.bool true))) 100000 150 []=some (.bool true):=by kernel_rfl
theorem ztT (w:World) (d:PowTab w) (e:BruTab w) (f:MaxVar w):Ev.OrcSound Tryz.prog 100 w.heap.size (Below w.heap.size w) (Ev.orcAdd ybW 218 (.bool true)):=
 (zzE w d e f).add rfl ((enters_of Tryz.func218 (by kernel_rfl) rfl) #[]) fun W _ g=>aw16 W (zaC d g) (zaB e g) (zaD f g)
theorem Aw16 (w:World) (d:PowTab w) (f:BruTab w) (g:MaxVar w):Calls Tryz.prog 150 #[] w fun e w'=>e= .returned (.bool true)∧Below w.heap.size w w':=
 zbH ybJ rfl w (ztT w d f g)
theorem zxX (w:World) (d:PowTab w) (e:BruTab w) (f:MaxVar w):Ev.OrcSound Tryz.prog 100 w.heap.size (Below w.heap.size w) ycL:=
 (ztT w d e f).add rfl ((enters_of Tryz.func150 (by kernel_rfl) rfl) #[]) fun W _ g=>Aw16 W (zaC d g) (zaB e g) (zaD f g)
theorem z5U:Ev.runG Tryz.prog 100 (Ev.orcIn evL ycL) 100000 82 []=some (.bool true):=by kernel_rfl
theorem aw17 (w:World) (d:PowTab w) (f:BruTab w) (g:MaxVar w):Calls Tryz.prog 82 #[] w fun e w'=>e= .returned (.bool true)∧Below w.heap.size w w':=
 zbH z5U rfl w (zxX w d f g)
noncomputable def orc17:Ev.Orc:=Ev.orcAdd (Ev.orcAdd ycL 82 (.bool true)) 36 (.bool true)
theorem z7Z:Ev.runG Tryz.prog 100 (Ev.orcIn evL (Ev.orcAdd ycL 82 (.bool true))) 100000 36 []=some (.bool true):=by kernel_rfl
theorem zuP (w:World) (d:PowTab w) (e:BruTab w) (f:MaxVar w):Ev.OrcSound Tryz.prog 100 w.heap.size (Below w.heap.size w) (Ev.orcAdd ycL 82 (.bool true)):=
 (zxX w d e f).add rfl ((enters_of Tryz.func82 (by kernel_rfl) rfl) #[]) fun W _ g=>aw17 W (zaC d g) (zaB e g) (zaD f g)
theorem Aw17 (w:World) (d:PowTab w) (f:BruTab w) (g:MaxVar w):Calls Tryz.prog 36 #[] w fun e w'=>e= .returned (.bool true)∧Below w.heap.size w w':=
 zbH z7Z rfl w (zuP w d f g)
theorem yhI (w:World) (d:PowTab w) (e:BruTab w) (f:MaxVar w):Ev.OrcSound Tryz.prog 100 w.heap.size (Below w.heap.size w) orc17:=
 (zuP w d e f).add rfl ((enters_of Tryz.func36 (by kernel_rfl) rfl) #[]) fun W _ g=>Aw17 W (zaC d g) (zaB e g) (zaD f g)
theorem yaZ:Ev.runG Tryz.prog 100 (Ev.orcIn evL orc17) 100000 8 []=some (.bool true):=by kernel_rfl
theorem aw18 (w:World) (d:PowTab w) (f:BruTab w) (g:MaxVar w):Calls Tryz.prog 8 #[] w fun e w'=>e= .returned (.bool true)∧Below w.heap.size w w':=
 zbH yaZ rfl w (yhI w d f g)
end
end Go.Proofs.YtegmcmgndllmaaaGreatDoor
