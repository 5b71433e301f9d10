/-
  What the law WhatwgReads leans on, and its walk (11 of 29).
-/
import Derived.Test.YthacmlahnpdeeaaGreatDoorEvB
import Derived.Shelf.Abstract
import Derived.Test.YthacmlahnpdeeaaGreatDoorWhatwgReadsPkE
import Derived.Test.YthacmlahnpdeeaaGreatDoorWhatwgReadsPkJ
namespace Go.Proofs.YthacmlahnpdeeaaGreatDoor
set_option maxRecDepth 100000
set_option maxHeartbeats 16000000
section
open Go.RowKit
noncomputable def ybO:Ev.Orc:=Ev.orcWith (Ev.orcWith (Ev.orcWith (Ev.orcWith (Ev.orcWith (Ev.orcWith (Ev.orcWith (Ev.orcWith (Ev.orcWith (Ev.orcNone) 122 Ev.oReplace) 198 Ev.oJoin) 108 Ev.oItoa) 232 Ev.oTz) 220 Ev.oLen) 214 Ev.oCount) 191 Ev.oIndex) 189 Ev.oNoEscape) 190 Ev.oIndexByte
theorem zxK (w:World) (hpow:PowTab w) (hbru:BruTab w) (hmax:MaxVar w):Ev.OrcSound Tryz.prog 100 w.heap.size (Below w.heap.size w) ybO:=by
 refine Ev.orcNone_sound|>.with ?o0|>.with ?o1|>.with ?o2|>.with ?o3|>.with ?o4|>.with ?o5|>.with ?o6|>.with ?o7|>.with ?o8
 case o0=>exact Ev.oReplace_ok (enters_of Tryz.func122 (by kernel_rfl) rfl) fun s o n W hT h1 h2 h3=>by obtain ⟨m,hm⟩:=zaF hmax hT;exact Tryz.strings_ReplaceAll s o n m W h1 hm h2 h3
 case o1=>exact Ev.oJoin_ok (enters_of Tryz.func198 (by kernel_rfl) rfl) fun bk o c xs sep w h1 h2 h3 h4 h5=>Tryz.strings_Join bk o c xs sep w h1 h2 h3 h4 h5
 case o2=>exact Ev.oItoa_ok (enters_of Tryz.func108 (by kernel_rfl) rfl) fun n W hT h1 h2=>(Tryz.strconv_Itoa n h1 h2 W (zaJ hpow hT)).mono (by rintro e w' ⟨rfl,k,os,rfl⟩;exact ⟨rfl,Lib.below_grow _ _ (Nat.le_refl _) _ _⟩)
 case o3=>exact Ev.oTz_ok (enters_of Tryz.func232 (by kernel_rfl) rfl) (fun W hT=>(tz64_8 W (zaH hbru hT)).mono fun _ _ h=>⟨h.1,h.2.symm⟩) (fun W hT=>(ybM W (zaH hbru hT)).mono fun _ _ h=>⟨h.1,h.2.symm⟩)
 case o4=>exact Ev.oLen_ok (enters_of Tryz.func220 (by kernel_rfl) rfl) fun x W h1 h2=>Tryz.bits_Len64 x W h1 h2
 case o5=>exact Ev.oCount_ok Tryz.func214 (by kernel_rfl) (by kernel_rfl) (by kernel_rfl) (by kernel_rfl)
 case o6=>exact Ev.oIndex_ok (enters_of Tryz.func191 (by kernel_rfl) rfl) fun s t W hT h=>by obtain ⟨m,hm⟩:=zaF hmax hT;exact Tryz.stringslite_Index s t m W h hm
 case o7=>exact Ev.oNoEscape_ok Tryz.func189 (by kernel_rfl) (by kernel_rfl) (by kernel_rfl) (by kernel_rfl)
 case o8=>exact Ev.oIndexByte_ok Tryz.func190 (by kernel_rfl) (by kernel_rfl) (by kernel_rfl) (by kernel_rfl)
theorem z6P:(Tryz.prog.funcs.toList.all fun f=> !(f.name== "runtime.NumGoroutine"))=true:=by kernel_rfl
theorem zxN:Ev.NoNum Tryz.prog:=fun g f h=>by
 have:=List.all_eq_true.1 z6P f (by simpa using Array.mem_of_getElem? h)
 simpa using this
theorem zwG:Tryz.prog.follows .mixedOrders=true:=by kernel_rfl
theorem zvZ (w:World):Ev.Stays w.heap.size (Below w.heap.size w):=fun _ _ h k=>k.trans h
def evL:List Nat:=[6,18,32,63,102,108,122,153,185,189,190,191,198,203,214,218,220,228,232,242,249,254,259,262,264,266,272,273,274,275,276,278,279,280,281,282,283,284,285,286]
theorem zcJ {orc:Ev.Orc} {n:Nat} {f:FuncId} {v:Value} (h:Ev.runG Tryz.prog 100 (Ev.orcIn evL orc) n f []=some v) (hv:Ev.pf 100 6 v=true) (w:World) (ho:Ev.OrcSound Tryz.prog 100 w.heap.size (Below w.heap.size w) orc):
  Calls Tryz.prog f #[] w fun e w'=>e= .returned v∧Below w.heap.size w w':=
 Ev.runF_sound (zvZ w) zxN zwG (Ev.orcIn_ok evL ho) (Ev.runG_ok h) rfl hv w rfl (Below.refl _ _)
def memoT:List (List UInt8×Nat×Nat×Nat):=[([48,46,48,46,48,46,48,47,56],0,281470681743360,104),
 ([49,48,46,48,46,48,46,48,47,56],0,281470849515520,104),
 ([49,48,48,46,54,52,46,48,46,48,47,49,48],0,281472363659264,106),
 ([49,50,55,46,48,46,48,46,48,47,56],0,281472812449792,104),
 ([49,54,57,46,50,53,52,46,48,46,48,47,49,54],0,281473533739008,112),
 ([49,55,50,46,49,54,46,48,46,48,47,49,50],0,281473568473088,108),
 ([49,57,50,46,48,46,48,46,48,47,50,52],0,281473902968832,120),
 ([49,57,50,46,48,46,50,46,48,47,50,52],0,281473902969344,120),
 ([49,57,50,46,56,56,46,57,57,46,48,47,50,52],0,281473908761344,120),
 ([49,57,50,46,49,54,56,46,48,46,48,47,49,54],0,281473913978880,112),
 ([49,57,56,46,49,56,46,48,46,48,47,49,53],0,281474004811776,111),
 ([49,57,56,46,53,49,46,49,48,48,46,48,47,50,52],0,281474007000064,120),
 ([50,48,51,46,48,46,49,49,51,46,48,47,50,52],0,281474087547136,120),
 ([50,50,52,46,48,46,48,46,48,47,52],0,281474439839744,100),
 ([50,52,48,46,48,46,48,46,48,47,52],0,281474708275200,100),
 ([58,58,47,49,50,56],0,0,128),
 ([58,58,49,47,49,50,56],0,1,128),
 ([54,52,58,102,102,57,98,58,49,58,58,47,52,56],28428538856144896,0,48),
 ([49,48,48,58,58,47,54,52],72057594037927936,0,64),
 ([50,48,48,49,58,58,47,50,51],2306124484190404608,0,23),
 ([50,48,48,49,58,100,98,56,58,58,47,51,50],2306139568115548160,0,32),
 ([51,102,102,102,58,58,47,50,48],4611404543450677248,0,20),
 ([53,102,48,48,58,58,47,49,54],6845471433603153920,0,16),
 ([102,99,48,48,58,58,47,55],18158513697557839872,0,7),
 ([102,101,56,48,58,58,47,49,48],18338657682652659712,0,10),
 ([102,101,99,48,58,58,47,49,48],18356672081162141696,0,10),
 ([102,102,48,48,58,58,47,56],18374686479671623680,0,8)]
def ybI (x:List UInt8×Nat×Nat×Nat):Value:= .tuple ⟨[.agg ⟨[.int .u64 (.ofNat x.2.1),.int .u64 (.ofNat x.2.2.1),.int .i64 (.ofNat x.2.2.2)]⟩,.bool true]⟩
def isPf (r:Option Value) (a b c:Nat):Bool:=match r with
 |some (.tuple ⟨[.agg ⟨[.int .u64 (.ofNat x),.int .u64 (.ofNat y),.int .i64 (.ofNat z)]⟩,.bool true]⟩)=>Nat.beq x a&&(Nat.beq y b&&Nat.beq z c)
 |_=>false
theorem ybF {r:Option Value} {x:List UInt8×Nat×Nat×Nat} (h:isPf r x.2.1 x.2.2.1 x.2.2.2=true):r=some (ybI x):=by
 unfold isPf at h
 split at h
 ·rw [Bool.and_eq_true,Bool.and_eq_true] at h
  unfold ybI
  rw [Nat.eq_of_beq_eq_true h.1,Nat.eq_of_beq_eq_true h.2.1,Nat.eq_of_beq_eq_true h.2.2]
 ·cases h
theorem z0C:(memoT.all fun x=>isPf (Ev.runG Tryz.prog 100 (Ev.orcIn evL ybO) 100000 259 [.string ⟨x.1.toArray⟩]) x.2.1 x.2.2.1 x.2.2.2)=true:=by kernel_rfl
noncomputable def orcM:Ev.Orc:=Ev.orcWith ybO 259 (Ev.oMemo (memoT.map fun x=>(x.1,ybI x)))
theorem z9P (w:World) (hpow:PowTab w) (hbru:BruTab w) (hmax:MaxVar w):Ev.OrcSound Tryz.prog 100 w.heap.size (Below w.heap.size w) orcM:=by
 refine (zxK w hpow hbru hmax).with (Ev.oMemo_ok (enters_of Tryz.func259 (by kernel_rfl) rfl) (by kernel_rfl) fun x hx W hW hT=> ?_)
 obtain ⟨y,hy,rfl⟩:=List.mem_map.1 hx
 have h:=ybF (List.all_eq_true.1 z0C y hy)
 have h2:=Ev.runF_sound (zvZ W) zxN zwG (Ev.orcIn_ok evL (zxK W (zaJ hpow hT) (zaH hbru hT) (zaF hmax hT))) (Ev.runG_ok h) rfl rfl W rfl (Below.refl _ _)
 simpa using h2
def z5M:Ev.OrcH:=fun args _=>match args with
 |[.agg ⟨[.int .u64 (.ofNat hi),.int .u64 (.ofNat lo),.int .i64 (.ofNat n)]⟩]=>(match Nat.blt hi 18446744073709551616&&Nat.blt lo 18446744073709551616 with|true=>some (.bool (zbX (zaN hi lo) (n:Int)))|false=>none)
 |_=>none
theorem z5F {base:Nat} {T:World→Prop}:Ev.OrcFn Tryz.prog 100 base T 249 z5M:=by
 refine Ev.oFn_ok (enters_of Tryz.func249 (by kernel_rfl) rfl) fun args hp v hk=> ?_
 unfold z5M at hk
 split at hk
 ·split at hk
  ·rename_i hc
   cases hk
   simp only [Bool.and_eq_true] at hc
   refine ⟨rfl,rfl,fun W _ _=> ?_⟩
   exact zdL _ _ _ W (Ev.blt_ok hc.1) (Ev.blt_ok hc.2)
  ·cases hk
 ·cases hk
noncomputable def zrG:Ev.Orc:=Ev.orcWith orcM 249 z5M
theorem zqX (w:World) (hpow:PowTab w) (hbru:BruTab w) (hmax:MaxVar w):Ev.OrcSound Tryz.prog 100 w.heap.size (Below w.heap.size w) zrG:=(z9P w hpow hbru hmax).with z5F
def zuN:Ev.OrcH:=fun args _=>match args with
 |[.agg ⟨[.int .u64 (.ofNat hi),.int .u64 (.ofNat lo),.int .i64 (.ofNat n)]⟩,.agg ⟨[.int .u64 (.ofNat hi2),.int .u64 (.ofNat lo2),.int .i64 (.ofNat m)]⟩]=>(match (Nat.blt hi 18446744073709551616&&Nat.blt lo 18446744073709551616)&&(Nat.blt hi2 18446744073709551616&&Nat.blt lo2 18446744073709551616) with|true=>some (.bool (zeG (zaN hi lo) (n:Int) (zaN hi2 lo2) (m:Int)))|false=>none)
 |_=>none
theorem zyR {base:Nat} {T:World→Prop}:Ev.OrcFn Tryz.prog 100 base T 262 zuN:=by
 refine Ev.oFn_ok (enters_of Tryz.func262 (by kernel_rfl) rfl) fun args hp v hk=> ?_
 unfold zuN at hk
 split at hk
 ·split at hk
  ·rename_i hc
   cases hk
   simp only [Bool.and_eq_true] at hc
   refine ⟨rfl,rfl,fun W _ _=> ?_⟩
   exact zyF _ _ _ _ _ _ W (Ev.blt_ok hc.1.1) (Ev.blt_ok hc.1.2) (Ev.blt_ok hc.2.1) (Ev.blt_ok hc.2.2)
  ·cases hk
 ·cases hk
noncomputable def zoH:Ev.Orc:=Ev.orcWith zrG 262 zuN
theorem zpM (w:World) (hpow:PowTab w) (hbru:BruTab w) (hmax:MaxVar w):Ev.OrcSound Tryz.prog 100 w.heap.size (Below w.heap.size w) zoH:=(zqX w hpow hbru hmax).with zyR
def ztE:Ev.OrcH:=fun args _=>match args with
 |[.agg ⟨[.int .u64 (.ofNat hi),.int .u64 (.ofNat lo),.int .i64 (.ofNat n)]⟩,.agg ⟨[.int .u64 (.ofNat ph),.int .u64 (.ofNat pl),.int .i64 (.ofNat k)]⟩]=>(match ((Nat.blt hi 18446744073709551616&&Nat.blt lo 18446744073709551616)&&(Nat.blt ph 18446744073709551616&&Nat.blt pl 18446744073709551616))&&(Nat.ble n 128&&Nat.ble k 128) with|true=>some (pfW (ofW (zaN ph pl) (ziM (zaN hi lo) n (zaN ph pl) k)) (ziM (zaN hi lo) n (zaN ph pl) k:Nat))|false=>none)
 |_=>none
theorem zxV {base:Nat} {T:World→Prop}:Ev.OrcFn Tryz.prog 100 base T 264 ztE:=by
 refine Ev.oFn_ok (enters_of Tryz.func264 (by kernel_rfl) rfl) fun args hp v hk=> ?_
 unfold ztE at hk
 split at hk
 ·split at hk
  ·rename_i hc
   cases hk
   simp only [Bool.and_eq_true] at hc
   refine ⟨rfl,rfl,fun W _ _=> ?_⟩
   exact zzJ _ _ _ _ _ _ W (Ev.blt_ok hc.1.1.1) (Ev.blt_ok hc.1.1.2) (Ev.blt_ok hc.1.2.1) (Ev.blt_ok hc.1.2.2) (Nat.le_of_ble_eq_true hc.2.1) (Nat.le_of_ble_eq_true hc.2.2)
  ·cases hk
 ·cases hk
noncomputable def zfW:Ev.Orc:=Ev.orcWith zoH 264 ztE
theorem zjI (w:World) (hpow:PowTab w) (hbru:BruTab w) (hmax:MaxVar w):Ev.OrcSound Tryz.prog 100 w.heap.size (Below w.heap.size w) zfW:=(zpM w hpow hbru hmax).with zxV
theorem z4R:Ev.runG Tryz.prog 100 (Ev.orcIn evL zfW) 100000 286 []=some (.bool true):=by kernel_rfl
theorem aw01 (w:World) (hpow:PowTab w) (hbru:BruTab w) (hmax:MaxVar w):Calls Tryz.prog 286 #[] w fun e w'=>e= .returned (.bool true)∧Below w.heap.size w w':=
 zcJ z4R rfl w (zjI w hpow hbru hmax)
noncomputable def z4S:Ev.Orc:=Ev.orcAdd (Ev.orcAdd zfW 286 (.bool true)) 285 (.bool true)
theorem z2J:Ev.runG Tryz.prog 100 (Ev.orcIn evL (Ev.orcAdd zfW 286 (.bool true))) 100000 285 []=some (.bool true):=by kernel_rfl
theorem zsD (w:World) (hpow:PowTab w) (hbru:BruTab w) (hmax:MaxVar w):Ev.OrcSound Tryz.prog 100 w.heap.size (Below w.heap.size w) (Ev.orcAdd zfW 286 (.bool true)):=
 (zjI w hpow hbru hmax).add rfl ((enters_of Tryz.func286 (by kernel_rfl) rfl) #[]) fun W _ hT=>aw01 W (zaJ hpow hT) (zaH hbru hT) (zaF hmax hT)
theorem Aw01 (w:World) (hpow:PowTab w) (hbru:BruTab w) (hmax:MaxVar w):Calls Tryz.prog 285 #[] w fun e w'=>e= .returned (.bool true)∧Below w.heap.size w w':=
 zcJ z2J rfl w (zsD w hpow hbru hmax)
theorem zwO (w:World) (hpow:PowTab w) (hbru:BruTab w) (hmax:MaxVar w):Ev.OrcSound Tryz.prog 100 w.heap.size (Below w.heap.size w) z4S:=
 (zsD w hpow hbru hmax).add rfl ((enters_of Tryz.func285 (by kernel_rfl) rfl) #[]) fun W _ hT=>Aw01 W (zaJ hpow hT) (zaH hbru hT) (zaF hmax hT)
theorem z1C:Ev.runG Tryz.prog 100 (Ev.orcIn evL z4S) 100000 284 []=some (.bool true):=by kernel_rfl
theorem aw02 (w:World) (hpow:PowTab w) (hbru:BruTab w) (hmax:MaxVar w):Calls Tryz.prog 284 #[] w fun e w'=>e= .returned (.bool true)∧Below w.heap.size w w':=
 zcJ z1C rfl w (zwO w hpow hbru hmax)
noncomputable def z2C:Ev.Orc:=Ev.orcAdd (Ev.orcAdd z4S 284 (.bool true)) 283 (.bool true)
theorem z4B:Ev.runG Tryz.prog 100 (Ev.orcIn evL (Ev.orcAdd z4S 284 (.bool true))) 100000 283 []=some (.bool true):=by kernel_rfl
theorem zrD (w:World) (hpow:PowTab w) (hbru:BruTab w) (hmax:MaxVar w):Ev.OrcSound Tryz.prog 100 w.heap.size (Below w.heap.size w) (Ev.orcAdd z4S 284 (.bool true)):=
 (zwO w hpow hbru hmax).add rfl ((enters_of Tryz.func284 (by kernel_rfl) rfl) #[]) fun W _ hT=>aw02 W (zaJ hpow hT) (zaH hbru hT) (zaF hmax hT)
theorem Aw02 (w:World) (hpow:PowTab w) (hbru:BruTab w) (hmax:MaxVar w):Calls Tryz.prog 283 #[] w fun e w'=>e= .returned (.bool true)∧Below w.heap.size w w':=
 zcJ z4B rfl w (zrD w hpow hbru hmax)
theorem zwV (w:World) (hpow:PowTab w) (hbru:BruTab w) (hmax:MaxVar w):Ev.OrcSound Tryz.prog 100 w.heap.size (Below w.heap.size w) z2C:=
 (zrD w hpow hbru hmax).add rfl ((enters_of Tryz.func283 (by kernel_rfl) rfl) #[]) fun W _ hT=>Aw02 W (zaJ hpow hT) (zaH hbru hT) (zaF hmax hT)
theorem z5V:Ev.runG Tryz.prog 100 (Ev.orcIn evL z2C) 100000 282 []=some (.bool true):=by kernel_rfl
theorem aw03 (w:World) (hpow:PowTab w) (hbru:BruTab w) (hmax:MaxVar w):Calls Tryz.prog 282 #[] w fun e w'=>e= .returned (.bool true)∧Below w.heap.size w w':=
 zcJ z5V rfl w (zwV w hpow hbru hmax)
noncomputable def z1O:Ev.Orc:=Ev.orcAdd (Ev.orcAdd z2C 282 (.bool true)) 281 (.bool true)
theorem z3Z:Ev.runG Tryz.prog 100 (Ev.orcIn evL (Ev.orcAdd z2C 282 (.bool true))) 100000 281 []=some (.bool true):=by kernel_rfl
theorem zsE (w:World) (hpow:PowTab w) (hbru:BruTab w) (hmax:MaxVar w):Ev.OrcSound Tryz.prog 100 w.heap.size (Below w.heap.size w) (Ev.orcAdd z2C 282 (.bool true)):=
 (zwV w hpow hbru hmax).add rfl ((enters_of Tryz.func282 (by kernel_rfl) rfl) #[]) fun W _ hT=>aw03 W (zaJ hpow hT) (zaH hbru hT) (zaF hmax hT)
theorem Aw03 (w:World) (hpow:PowTab w) (hbru:BruTab w) (hmax:MaxVar w):Calls Tryz.prog 281 #[] w fun e w'=>e= .returned (.bool true)∧Below w.heap.size w w':=
 zcJ z3Z rfl w (zsE w hpow hbru hmax)
theorem zvP (w:World) (hpow:PowTab w) (hbru:BruTab w) (hmax:MaxVar w):Ev.OrcSound Tryz.prog 100 w.heap.size (Below w.heap.size w) z1O:=
 (zsE w hpow hbru hmax).add rfl ((enters_of Tryz.func281 (by kernel_rfl) rfl) #[]) fun W _ hT=>Aw03 W (zaJ hpow hT) (zaH hbru hT) (zaF hmax hT)
theorem z1R:Ev.runG Tryz.prog 100 (Ev.orcIn evL z1O) 100000 280 []=some (.bool true):=by kernel_rfl
theorem aw04 (w:World) (hpow:PowTab w) (hbru:BruTab w) (hmax:MaxVar w):Calls Tryz.prog 280 #[] w fun e w'=>e= .returned (.bool true)∧Below w.heap.size w w':=
 zcJ z1R rfl w (zvP w hpow hbru hmax)
noncomputable def z2H:Ev.Orc:=Ev.orcAdd (Ev.orcAdd z1O 280 (.bool true)) 279 (.bool true)
theorem z1Q:Ev.runG Tryz.prog 100 (Ev.orcIn evL (Ev.orcAdd z1O 280 (.bool true))) 100000 279 []=some (.bool true):=by kernel_rfl
theorem zrJ (w:World) (hpow:PowTab w) (hbru:BruTab w) (hmax:MaxVar w):Ev.OrcSound Tryz.prog 100 w.heap.size (Below w.heap.size w) (Ev.orcAdd z1O 280 (.bool true)):=
 (zvP w hpow hbru hmax).add rfl ((enters_of Tryz.func280 (by kernel_rfl) rfl) #[]) fun W _ hT=>aw04 W (zaJ hpow hT) (zaH hbru hT) (zaF hmax hT)
theorem Aw04 (w:World) (hpow:PowTab w) (hbru:BruTab w) (hmax:MaxVar w):Calls Tryz.prog 279 #[] w fun e w'=>e= .returned (.bool true)∧Below w.heap.size w w':=
 zcJ z1Q rfl w (zrJ w hpow hbru hmax)
theorem zwB (w:World) (hpow:PowTab w) (hbru:BruTab w) (hmax:MaxVar w):Ev.OrcSound Tryz.prog 100 w.heap.size (Below w.heap.size w) z2H:=
 (zrJ w hpow hbru hmax).add rfl ((enters_of Tryz.func279 (by kernel_rfl) rfl) #[]) fun W _ hT=>Aw04 W (zaJ hpow hT) (zaH hbru hT) (zaF hmax hT)
theorem z2L:Ev.runG Tryz.prog 100 (Ev.orcIn evL z2H) 100000 278 []=some (.bool true):=by kernel_rfl
theorem aw05 (w:World) (hpow:PowTab w) (hbru:BruTab w) (hmax:MaxVar w):Calls Tryz.prog 278 #[] w fun e w'=>e= .returned (.bool true)∧Below w.heap.size w w':=
 zcJ z2L rfl w (zwB w hpow hbru hmax)
noncomputable def zzW:Ev.Orc:=Ev.orcAdd (Ev.orcAdd z2H 278 (.bool true)) 276 (.bool true)
theorem z0T:Ev.runG Tryz.prog 100 (Ev.orcIn evL (Ev.orcAdd z2H 278 (.bool true))) 100000 276 []=some (.bool true):=by kernel_rfl
theorem zqD (w:World) (hpow:PowTab w) (hbru:BruTab w) (hmax:MaxVar w):Ev.OrcSound Tryz.prog 100 w.heap.size (Below w.heap.size w) (Ev.orcAdd z2H 278 (.bool true)):=
 (zwB w hpow hbru hmax).add rfl ((enters_of Tryz.func278 (by kernel_rfl) rfl) #[]) fun W _ hT=>aw05 W (zaJ hpow hT) (zaH hbru hT) (zaF hmax hT)
theorem Aw05 (w:World) (hpow:PowTab w) (hbru:BruTab w) (hmax:MaxVar w):Calls Tryz.prog 276 #[] w fun e w'=>e= .returned (.bool true)∧Below w.heap.size w w':=
 zcJ z0T rfl w (zqD w hpow hbru hmax)
theorem zvR (w:World) (hpow:PowTab w) (hbru:BruTab w) (hmax:MaxVar w):Ev.OrcSound Tryz.prog 100 w.heap.size (Below w.heap.size w) zzW:=
 (zqD w hpow hbru hmax).add rfl ((enters_of Tryz.func276 (by kernel_rfl) rfl) #[]) fun W _ hT=>Aw05 W (zaJ hpow hT) (zaH hbru hT) (zaF hmax hT)
theorem z4A:Ev.runG Tryz.prog 100 (Ev.orcIn evL zzW) 100000 275 []=some (.bool true):=by kernel_rfl
theorem aw06 (w:World) (hpow:PowTab w) (hbru:BruTab w) (hmax:MaxVar w):Calls Tryz.prog 275 #[] w fun e w'=>e= .returned (.bool true)∧Below w.heap.size w w':=
 zcJ z4A rfl w (zvR w hpow hbru hmax)
noncomputable def z1H:Ev.Orc:=Ev.orcAdd (Ev.orcAdd zzW 275 (.bool true)) 274 (.bool true)
theorem z0B:Ev.runG Tryz.prog 100 (Ev.orcIn evL (Ev.orcAdd zzW 275 (.bool true))) 100000 274 []=some (.bool true):=by kernel_rfl
theorem zpZ (w:World) (hpow:PowTab w) (hbru:BruTab w) (hmax:MaxVar w):Ev.OrcSound Tryz.prog 100 w.heap.size (Below w.heap.size w) (Ev.orcAdd zzW 275 (.bool true)):=
 (zvR w hpow hbru hmax).add rfl ((enters_of Tryz.func275 (by kernel_rfl) rfl) #[]) fun W _ hT=>aw06 W (zaJ hpow hT) (zaH hbru hT) (zaF hmax hT)
theorem Aw06 (w:World) (hpow:PowTab w) (hbru:BruTab w) (hmax:MaxVar w):Calls Tryz.prog 274 #[] w fun e w'=>e= .returned (.bool true)∧Below w.heap.size w w':=
 zcJ z0B rfl w (zpZ w hpow hbru hmax)
theorem zxE (w:World) (hpow:PowTab w) (hbru:BruTab w) (hmax:MaxVar w):Ev.OrcSound Tryz.prog 100 w.heap.size (Below w.heap.size w) z1H:=
 (zpZ w hpow hbru hmax).add rfl ((enters_of Tryz.func274 (by kernel_rfl) rfl) #[]) fun W _ hT=>Aw06 W (zaJ hpow hT) (zaH hbru hT) (zaF hmax hT)
theorem z6D:Ev.runG Tryz.prog 100 (Ev.orcIn evL z1H) 100000 273 []=some (.bool true):=by kernel_rfl
theorem aw07 (w:World) (hpow:PowTab w) (hbru:BruTab w) (hmax:MaxVar w):Calls Tryz.prog 273 #[] w fun e w'=>e= .returned (.bool true)∧Below w.heap.size w w':=
 zcJ z6D rfl w (zxE w hpow hbru hmax)
noncomputable def z0N:Ev.Orc:=Ev.orcAdd (Ev.orcAdd z1H 273 (.bool true)) 272 (.bool true)
theorem z3G:Ev.runG Tryz.prog 100 (Ev.orcIn evL (Ev.orcAdd z1H 273 (.bool true))) 100000 272 []=some (.bool true):=by kernel_rfl
theorem zqJ (w:World) (hpow:PowTab w) (hbru:BruTab w) (hmax:MaxVar w):Ev.OrcSound Tryz.prog 100 w.heap.size (Below w.heap.size w) (Ev.orcAdd z1H 273 (.bool true)):=
 (zxE w hpow hbru hmax).add rfl ((enters_of Tryz.func273 (by kernel_rfl) rfl) #[]) fun W _ hT=>aw07 W (zaJ hpow hT) (zaH hbru hT) (zaF hmax hT)
theorem Aw07 (w:World) (hpow:PowTab w) (hbru:BruTab w) (hmax:MaxVar w):Calls Tryz.prog 272 #[] w fun e w'=>e= .returned (.bool true)∧Below w.heap.size w w':=
 zcJ z3G rfl w (zqJ w hpow hbru hmax)
theorem zwC (w:World) (hpow:PowTab w) (hbru:BruTab w) (hmax:MaxVar w):Ev.OrcSound Tryz.prog 100 w.heap.size (Below w.heap.size w) z0N:=
 (zqJ w hpow hbru hmax).add rfl ((enters_of Tryz.func272 (by kernel_rfl) rfl) #[]) fun W _ hT=>Aw07 W (zaJ hpow hT) (zaH hbru hT) (zaF hmax hT)
theorem z0U:Ev.runG Tryz.prog 100 (Ev.orcIn evL z0N) 100000 266 []=some (.bool true):=by kernel_rfl
theorem aw08 (w:World) (hpow:PowTab w) (hbru:BruTab w) (hmax:MaxVar w):Calls Tryz.prog 266 #[] w fun e w'=>e= .returned (.bool true)∧Below w.heap.size w w':=
 zcJ z0U rfl w (zwC w hpow hbru hmax)
noncomputable def z2W:Ev.Orc:=Ev.orcAdd (Ev.orcAdd z0N 266 (.bool true)) 254 (.bool true)
theorem z4N:Ev.runG Tryz.prog 100 (Ev.orcIn evL (Ev.orcAdd z0N 266 (.bool true))) 100000 254 []=some (.bool true):=by kernel_rfl
theorem zrE (w:World) (hpow:PowTab w) (hbru:BruTab w) (hmax:MaxVar w):Ev.OrcSound Tryz.prog 100 w.heap.size (Below w.heap.size w) (Ev.orcAdd z0N 266 (.bool true)):=
 (zwC w hpow hbru hmax).add rfl ((enters_of Tryz.func266 (by kernel_rfl) rfl) #[]) fun W _ hT=>aw08 W (zaJ hpow hT) (zaH hbru hT) (zaF hmax hT)
theorem Aw08 (w:World) (hpow:PowTab w) (hbru:BruTab w) (hmax:MaxVar w):Calls Tryz.prog 254 #[] w fun e w'=>e= .returned (.bool true)∧Below w.heap.size w w':=
 zcJ z4N rfl w (zrE w hpow hbru hmax)
theorem zxB (w:World) (hpow:PowTab w) (hbru:BruTab w) (hmax:MaxVar w):Ev.OrcSound Tryz.prog 100 w.heap.size (Below w.heap.size w) z2W:=
 (zrE w hpow hbru hmax).add rfl ((enters_of Tryz.func254 (by kernel_rfl) rfl) #[]) fun W _ hT=>Aw08 W (zaJ hpow hT) (zaH hbru hT) (zaF hmax hT)
theorem z0D:Ev.runG Tryz.prog 100 (Ev.orcIn evL z2W) 100000 242 []=some (.bool true):=by kernel_rfl
theorem aw09 (w:World) (hpow:PowTab w) (hbru:BruTab w) (hmax:MaxVar w):Calls Tryz.prog 242 #[] w fun e w'=>e= .returned (.bool true)∧Below w.heap.size w w':=
 zcJ z0D rfl w (zxB w hpow hbru hmax)
noncomputable def z1T:Ev.Orc:=Ev.orcAdd (Ev.orcAdd z2W 242 (.bool true)) 228 (.bool true)
theorem z6C:Ev.runG Tryz.prog 100 (Ev.orcIn evL (Ev.orcAdd z2W 242 (.bool true))) 100000 228 []=some (.bool true):=by kernel_rfl
theorem zqB (w:World) (hpow:PowTab w) (hbru:BruTab w) (hmax:MaxVar w):Ev.OrcSound Tryz.prog 100 w.heap.size (Below w.heap.size w) (Ev.orcAdd z2W 242 (.bool true)):=
 (zxB w hpow hbru hmax).add rfl ((enters_of Tryz.func242 (by kernel_rfl) rfl) #[]) fun W _ hT=>aw09 W (zaJ hpow hT) (zaH hbru hT) (zaF hmax hT)
theorem Aw09 (w:World) (hpow:PowTab w) (hbru:BruTab w) (hmax:MaxVar w):Calls Tryz.prog 228 #[] w fun e w'=>e= .returned (.bool true)∧Below w.heap.size w w':=
 zcJ z6C rfl w (zqB w hpow hbru hmax)
theorem zvE (w:World) (hpow:PowTab w) (hbru:BruTab w) (hmax:MaxVar w):Ev.OrcSound Tryz.prog 100 w.heap.size (Below w.heap.size w) z1T:=
 (zqB w hpow hbru hmax).add rfl ((enters_of Tryz.func228 (by kernel_rfl) rfl) #[]) fun W _ hT=>Aw09 W (zaJ hpow hT) (zaH hbru hT) (zaF hmax hT)
theorem z2B:Ev.runG Tryz.prog 100 (Ev.orcIn evL z1T) 100000 218 []=some (.bool true):=by kernel_rfl
theorem aw10 (w:World) (hpow:PowTab w) (hbru:BruTab w) (hmax:MaxVar w):Calls Tryz.prog 218 #[] w fun e w'=>e= .returned (.bool true)∧Below w.heap.size w w':=
 zcJ z2B rfl w (zvE w hpow hbru hmax)
noncomputable def z6G:Ev.Orc:=Ev.orcAdd (Ev.orcAdd z1T 218 (.bool true)) 203 (.bool true)
theorem z0Q:Ev.runG Tryz.prog 100 (Ev.orcIn evL (Ev.orcAdd z1T 218 (.bool true))) 100000 203 []=some (.bool true):=by kernel_rfl
theorem zqQ (w:World) (hpow:PowTab w) (hbru:BruTab w) (hmax:MaxVar w):Ev.OrcSound Tryz.prog 100 w.heap.size (Below w.heap.size w) (Ev.orcAdd z1T 218 (.bool true)):=
 (zvE w hpow hbru hmax).add rfl ((enters_of Tryz.func218 (by kernel_rfl) rfl) #[]) fun W _ hT=>aw10 W (zaJ hpow hT) (zaH hbru hT) (zaF hmax hT)
theorem Aw10 (w:World) (hpow:PowTab w) (hbru:BruTab w) (hmax:MaxVar w):Calls Tryz.prog 203 #[] w fun e w'=>e= .returned (.bool true)∧Below w.heap.size w w':=
 zcJ z0Q rfl w (zqQ w hpow hbru hmax)
theorem zvU (w:World) (hpow:PowTab w) (hbru:BruTab w) (hmax:MaxVar w):Ev.OrcSound Tryz.prog 100 w.heap.size (Below w.heap.size w) z6G:=
 (zqQ w hpow hbru hmax).add rfl ((enters_of Tryz.func203 (by kernel_rfl) rfl) #[]) fun W _ hT=>Aw10 W (zaJ hpow hT) (zaH hbru hT) (zaF hmax hT)
theorem z0K:Ev.runG Tryz.prog 100 (Ev.orcIn evL z6G) 100000 185 []=some (.bool true):=by kernel_rfl
theorem aw11 (w:World) (hpow:PowTab w) (hbru:BruTab w) (hmax:MaxVar w):Calls Tryz.prog 185 #[] w fun e w'=>e= .returned (.bool true)∧Below w.heap.size w w':=
 zcJ z0K rfl w (zvU w hpow hbru hmax)
noncomputable def z2O:Ev.Orc:=Ev.orcAdd (Ev.orcAdd z6G 185 (.bool true)) 153 (.bool true)
theorem z4G:Ev.runG Tryz.prog 100 (Ev.orcIn evL (Ev.orcAdd z6G 185 (.bool true))) 100000 153 []=some (.bool true):=by kernel_rfl
theorem zsV (w:World) (hpow:PowTab w) (hbru:BruTab w) (hmax:MaxVar w):Ev.OrcSound Tryz.prog 100 w.heap.size (Below w.heap.size w) (Ev.orcAdd z6G 185 (.bool true)):=
 (zvU w hpow hbru hmax).add rfl ((enters_of Tryz.func185 (by kernel_rfl) rfl) #[]) fun W _ hT=>aw11 W (zaJ hpow hT) (zaH hbru hT) (zaF hmax hT)
theorem Aw11 (w:World) (hpow:PowTab w) (hbru:BruTab w) (hmax:MaxVar w):Calls Tryz.prog 153 #[] w fun e w'=>e= .returned (.bool true)∧Below w.heap.size w w':=
 zcJ z4G rfl w (zsV w hpow hbru hmax)
theorem zwQ (w:World) (hpow:PowTab w) (hbru:BruTab w) (hmax:MaxVar w):Ev.OrcSound Tryz.prog 100 w.heap.size (Below w.heap.size w) z2O:=
 (zsV w hpow hbru hmax).add rfl ((enters_of Tryz.func153 (by kernel_rfl) rfl) #[]) fun W _ hT=>Aw11 W (zaJ hpow hT) (zaH hbru hT) (zaF hmax hT)
theorem z5H:Ev.runG Tryz.prog 100 (Ev.orcIn evL z2O) 100000 102 []=some (.bool true):=by kernel_rfl
theorem aw12 (w:World) (hpow:PowTab w) (hbru:BruTab w) (hmax:MaxVar w):Calls Tryz.prog 102 #[] w fun e w'=>e= .returned (.bool true)∧Below w.heap.size w w':=
 zcJ z5H rfl w (zwQ w hpow hbru hmax)
noncomputable def zzZ:Ev.Orc:=Ev.orcAdd (Ev.orcAdd z2O 102 (.bool true)) 63 (.bool true)
theorem z1V:Ev.runG Tryz.prog 100 (Ev.orcIn evL (Ev.orcAdd z2O 102 (.bool true))) 100000 63 []=some (.bool true):=by kernel_rfl
theorem zqR (w:World) (hpow:PowTab w) (hbru:BruTab w) (hmax:MaxVar w):Ev.OrcSound Tryz.prog 100 w.heap.size (Below w.heap.size w) (Ev.orcAdd z2O 102 (.bool true)):=
 (zwQ w hpow hbru hmax).add rfl ((enters_of Tryz.func102 (by kernel_rfl) rfl) #[]) fun W _ hT=>aw12 W (zaJ hpow hT) (zaH hbru hT) (zaF hmax hT)
theorem Aw12 (w:World) (hpow:PowTab w) (hbru:BruTab w) (hmax:MaxVar w):Calls Tryz.prog 63 #[] w fun e w'=>e= .returned (.bool true)∧Below w.heap.size w w':=
 zcJ z1V rfl w (zqR w hpow hbru hmax)
theorem zvY (w:World) (hpow:PowTab w) (hbru:BruTab w) (hmax:MaxVar w):Ev.OrcSound Tryz.prog 100 w.heap.size (Below w.heap.size w) zzZ:=
 (zqR w hpow hbru hmax).add rfl ((enters_of Tryz.func63 (by kernel_rfl) rfl) #[]) fun W _ hT=>Aw12 W (zaJ hpow hT) (zaH hbru hT) (zaF hmax hT)
theorem z2X:Ev.runG Tryz.prog 100 (Ev.orcIn evL zzZ) 100000 32 []=some (.bool true):=by kernel_rfl
theorem aw13 (w:World) (hpow:PowTab w) (hbru:BruTab w) (hmax:MaxVar w):Calls Tryz.prog 32 #[] w fun e w'=>e= .returned (.bool true)∧Below w.heap.size w w':=
 zcJ z2X rfl w (zvY w hpow hbru hmax)
noncomputable def orc13:Ev.Orc:=Ev.orcAdd (Ev.orcAdd zzZ 32 (.bool true)) 18 (.bool true)
theorem z0M:Ev.runG Tryz.prog 100 (Ev.orcIn evL (Ev.orcAdd zzZ 32 (.bool true))) 100000 18 []=some (.bool true):=by kernel_rfl
theorem zrT (w:World) (hpow:PowTab w) (hbru:BruTab w) (hmax:MaxVar w):Ev.OrcSound Tryz.prog 100 w.heap.size (Below w.heap.size w) (Ev.orcAdd zzZ 32 (.bool true)):=
 (zvY w hpow hbru hmax).add rfl ((enters_of Tryz.func32 (by kernel_rfl) rfl) #[]) fun W _ hT=>aw13 W (zaJ hpow hT) (zaH hbru hT) (zaF hmax hT)
theorem Aw13 (w:World) (hpow:PowTab w) (hbru:BruTab w) (hmax:MaxVar w):Calls Tryz.prog 18 #[] w fun e w'=>e= .returned (.bool true)∧Below w.heap.size w w':=
 zcJ z0M rfl w (zrT w hpow hbru hmax)
theorem z7V (w:World) (hpow:PowTab w) (hbru:BruTab w) (hmax:MaxVar w):Ev.OrcSound Tryz.prog 100 w.heap.size (Below w.heap.size w) orc13:=
 (zrT w hpow hbru hmax).add rfl ((enters_of Tryz.func18 (by kernel_rfl) rfl) #[]) fun W _ hT=>Aw13 W (zaJ hpow hT) (zaH hbru hT) (zaF hmax hT)
theorem z3J:Ev.runG Tryz.prog 100 (Ev.orcIn evL orc13) 100000 6 []=some (.bool true):=by kernel_rfl
theorem aw14 (w:World) (hpow:PowTab w) (hbru:BruTab w) (hmax:MaxVar w):Calls Tryz.prog 6 #[] w fun e w'=>e= .returned (.bool true)∧Below w.heap.size w w':=
 zcJ z3J rfl w (z7V w hpow hbru hmax)
end
end Go.Proofs.YthacmlahnpdeeaaGreatDoor
