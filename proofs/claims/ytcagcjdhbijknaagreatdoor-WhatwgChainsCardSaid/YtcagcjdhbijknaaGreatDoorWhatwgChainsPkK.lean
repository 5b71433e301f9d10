/-
  What the law WhatwgChains leans on, and its walk (11 of 33).
-/
import Derived.Test.YtcagcjdhbijknaaGreatDoorEvB
import Derived.Shelf.Abstract
import Derived.Test.YtcagcjdhbijknaaGreatDoorWhatwgChainsPkE
import Derived.Test.YtcagcjdhbijknaaGreatDoorWhatwgChainsPkJ
namespace Go.Proofs.YtcagcjdhbijknaaGreatDoor
set_option maxRecDepth 100000
set_option maxHeartbeats 16000000
section
open Go.RowKit
noncomputable def ydT:Ev.Orc:=Ev.orcWith (Ev.orcWith (Ev.orcWith (Ev.orcWith (Ev.orcWith (Ev.orcWith (Ev.orcWith (Ev.orcWith (Ev.orcWith (Ev.orcNone) 93 Ev.oReplace) 189 Ev.oJoin) 79 Ev.oItoa) 217 Ev.oTz) 205 Ev.oLen) 197 Ev.oCount) 171 Ev.oIndex) 169 Ev.oNoEscape) 170 Ev.oIndexByte
theorem zyD (w:World) (hpow:PowTab w) (hbru:BruTab w) (hmax:MaxVar w):Ev.OrcSound Tryz.prog 100 w.heap.size (Below w.heap.size w) ydT:=by
 refine Ev.orcNone_sound|>.with ?o0|>.with ?o1|>.with ?o2|>.with ?o3|>.with ?o4|>.with ?o5|>.with ?o6|>.with ?o7|>.with ?o8
 case o0=>exact Ev.oReplace_ok (enters_of Tryz.func93 (by kernel_rfl) rfl) fun s o n W hT h1 h2 h3=>by obtain ⟨m,hm⟩:=zaG hmax hT;exact Tryz.strings_ReplaceAll s o n m W h1 hm h2 h3
 case o1=>exact Ev.oJoin_ok (enters_of Tryz.func189 (by kernel_rfl) rfl) fun bk o c xs sep w h1 h2 h3 h4 h5=>Tryz.strings_Join bk o c xs sep w h1 h2 h3 h4 h5
 case o2=>exact Ev.oItoa_ok (enters_of Tryz.func79 (by kernel_rfl) rfl) fun n W hT h1 h2=>(Tryz.strconv_Itoa n h1 h2 W (zaL hpow hT)).mono (by rintro e w' ⟨rfl,k,os,rfl⟩;exact ⟨rfl,Lib.below_grow _ _ (Nat.le_refl _) _ _⟩)
 case o3=>exact Ev.oTz_ok (enters_of Tryz.func217 (by kernel_rfl) rfl) (fun W hT=>(tz64_8 W (zaJ hbru hT)).mono fun _ _ h=>⟨h.1,h.2.symm⟩) (fun W hT=>(yfT W (zaJ hbru hT)).mono fun _ _ h=>⟨h.1,h.2.symm⟩)
 case o4=>exact Ev.oLen_ok (enters_of Tryz.func205 (by kernel_rfl) rfl) fun x W h1 h2=>Tryz.bits_Len64 x W h1 h2
 case o5=>exact Ev.oCount_ok Tryz.func197 (by kernel_rfl) (by kernel_rfl) (by kernel_rfl) (by kernel_rfl)
 case o6=>exact Ev.oIndex_ok (enters_of Tryz.func171 (by kernel_rfl) rfl) fun s t W hT h=>by obtain ⟨m,hm⟩:=zaG hmax hT;exact Tryz.stringslite_Index s t m W h hm
 case o7=>exact Ev.oNoEscape_ok Tryz.func169 (by kernel_rfl) (by kernel_rfl) (by kernel_rfl) (by kernel_rfl)
 case o8=>exact Ev.oIndexByte_ok Tryz.func170 (by kernel_rfl) (by kernel_rfl) (by kernel_rfl) (by kernel_rfl)
theorem yaS:(Tryz.prog.funcs.toList.all fun f=> !(f.name== "runtime.NumGoroutine"))=true:=by kernel_rfl
theorem zyZ:Ev.NoNum Tryz.prog:=fun g f h=>by
 have:=List.all_eq_true.1 yaS f (by simpa using Array.mem_of_getElem? h)
 simpa using this
theorem z0C:Tryz.prog.follows .mixedOrders=true:=by kernel_rfl
theorem z0Q (w:World):Ev.Stays w.heap.size (Below w.heap.size w):=fun _ _ h k=>k.trans h
def evL:List Nat:=[4,11,16,35,72,79,93,118,162,169,170,171,184,189,197,202,205,213,217,227,234,239,244,247,249,251,257,258,259,260,261,263,264,265,266,267,268,269,270,271]
theorem zdM {orc:Ev.Orc} {n:Nat} {f:FuncId} {v:Value} (h:Ev.runG Tryz.prog 100 (Ev.orcIn evL orc) n f []=some v) (hv:Ev.pf 100 6 v=true) (w:World) (ho:Ev.OrcSound Tryz.prog 100 w.heap.size (Below w.heap.size w) orc):
  Calls Tryz.prog f #[] w fun e w'=>e= .returned v∧Below w.heap.size w w':=
 Ev.runF_sound (z0Q w) zyZ z0C (Ev.orcIn_ok evL ho) (Ev.runG_ok h) rfl hv w rfl (Below.refl _ _)
def memoT:List (List UInt8×Nat×Nat×Nat):=[([48,46,48,46,48,46,48,47,56],0,281470681743360,104),
 ([49,48,46,48,46,48,46,48,47,56],0,281470849515520,104),
 ([49,48,48,46,54,52,46,48,46,48,47,49,48],0,281472363659264,106),
 ([49,50,55,46,48,46,48,46,48,47,56],0,281472812449792,104),
 ([49,54,57,46,50,53,52,46,48,46,48,47,49,54],0,281473533739008,112),
 ([49,55,50,46,49,54,46,48,46,48,47,49,50],0,281473568473088,108),
 ([49,57,50,46,48,46,48,46,48,47,50,52],0,281473902968832,120),
 ([49,57,50,46,48,46,50,46,48,47,50,52],0,281473902969344,120),
 ([49,57,50,46,56,56,46,57,57,46,48,47,50,52],0,281473908761344,120),
 ([49,57,50,46,49,54,56,46,48,46,48,47,49,54],0,281473913978880,112),
 ([49,57,56,46,49,56,46,48,46,48,47,49,53],0,281474004811776,111),
 ([49,57,56,46,53,49,46,49,48,48,46,48,47,50,52],0,281474007000064,120),
 ([50,48,51,46,48,46,49,49,51,46,48,47,50,52],0,281474087547136,120),
 ([50,50,52,46,48,46,48,46,48,47,52],0,281474439839744,100),
 ([50,52,48,46,48,46,48,46,48,47,52],0,281474708275200,100),
 ([58,58,47,49,50,56],0,0,128),
 ([58,58,49,47,49,50,56],0,1,128),
 ([54,52,58,102,102,57,98,58,49,58,58,47,52,56],28428538856144896,0,48),
 ([49,48,48,58,58,47,54,52],72057594037927936,0,64),
 ([50,48,48,49,58,58,47,50,51],2306124484190404608,0,23),
 ([50,48,48,49,58,100,98,56,58,58,47,51,50],2306139568115548160,0,32),
 ([51,102,102,102,58,58,47,50,48],4611404543450677248,0,20),
 ([53,102,48,48,58,58,47,49,54],6845471433603153920,0,16),
 ([102,99,48,48,58,58,47,55],18158513697557839872,0,7),
 ([102,101,56,48,58,58,47,49,48],18338657682652659712,0,10),
 ([102,101,99,48,58,58,47,49,48],18356672081162141696,0,10),
 ([102,102,48,48,58,58,47,56],18374686479671623680,0,8)]
def yfP (x:List UInt8×Nat×Nat×Nat):Value:= .tuple ⟨[.agg ⟨[.int .u64 (.ofNat x.2.1),.int .u64 (.ofNat x.2.2.1),.int .i64 (.ofNat x.2.2.2)]⟩,.bool true]⟩
def isPf (r:Option Value) (a b c:Nat):Bool:=match r with
 |some (.tuple ⟨[.agg ⟨[.int .u64 (.ofNat x),.int .u64 (.ofNat y),.int .i64 (.ofNat z)]⟩,.bool true]⟩)=>Nat.beq x a&&(Nat.beq y b&&Nat.beq z c)
 |_=>false
theorem yeI {r:Option Value} {x:List UInt8×Nat×Nat×Nat} (h:isPf r x.2.1 x.2.2.1 x.2.2.2=true):r=some (yfP x):=by
 unfold isPf at h
 split at h
 ·rw [Bool.and_eq_true,Bool.and_eq_true] at h
  unfold yfP
  rw [Nat.eq_of_beq_eq_true h.1,Nat.eq_of_beq_eq_true h.2.1,Nat.eq_of_beq_eq_true h.2.2]
 ·cases h
theorem z4R:(memoT.all fun x=>isPf (Ev.runG Tryz.prog 100 (Ev.orcIn evL ydT) 100000 244 [.string ⟨x.1.toArray⟩]) x.2.1 x.2.2.1 x.2.2.2)=true:=by kernel_rfl
noncomputable def orcM:Ev.Orc:=Ev.orcWith ydT 244 (Ev.oMemo (memoT.map fun x=>(x.1,yfP x)))
theorem yeP (w:World) (hpow:PowTab w) (hbru:BruTab w) (hmax:MaxVar w):Ev.OrcSound Tryz.prog 100 w.heap.size (Below w.heap.size w) orcM:=by
 refine (zyD w hpow hbru hmax).with (Ev.oMemo_ok (enters_of Tryz.func244 (by kernel_rfl) rfl) (by kernel_rfl) fun x hx W hW hT=> ?_)
 obtain ⟨y,hy,rfl⟩:=List.mem_map.1 hx
 have h:=yeI (List.all_eq_true.1 z4R y hy)
 have h2:=Ev.runF_sound (z0Q W) zyZ z0C (Ev.orcIn_ok evL (zyD W (zaL hpow hT) (zaJ hbru hT) (zaG hmax hT))) (Ev.runG_ok h) rfl rfl W rfl (Below.refl _ _)
 simpa using h2
def z4W:Ev.OrcH:=fun args _=>match args with
 |[.agg ⟨[.int .u64 (.ofNat hi),.int .u64 (.ofNat lo),.int .i64 (.ofNat n)]⟩]=>(match Nat.blt hi 18446744073709551616&&Nat.blt lo 18446744073709551616 with|true=>some (.bool (zdA (zaT hi lo) (n:Int)))|false=>none)
 |_=>none
theorem z3M {base:Nat} {T:World→Prop}:Ev.OrcFn Tryz.prog 100 base T 234 z4W:=by
 refine Ev.oFn_ok (enters_of Tryz.func234 (by kernel_rfl) rfl) fun args hp v hk=> ?_
 unfold z4W at hk
 split at hk
 ·split at hk
  ·rename_i hc
   cases hk
   simp only [Bool.and_eq_true] at hc
   refine ⟨rfl,rfl,fun W _ _=> ?_⟩
   exact zeX _ _ _ W (Ev.blt_ok hc.1) (Ev.blt_ok hc.2)
  ·cases hk
 ·cases hk
noncomputable def zsY:Ev.Orc:=Ev.orcWith orcM 234 z4W
theorem zuV (w:World) (hpow:PowTab w) (hbru:BruTab w) (hmax:MaxVar w):Ev.OrcSound Tryz.prog 100 w.heap.size (Below w.heap.size w) zsY:=(yeP w hpow hbru hmax).with z3M
def zxL:Ev.OrcH:=fun args _=>match args with
 |[.agg ⟨[.int .u64 (.ofNat hi),.int .u64 (.ofNat lo),.int .i64 (.ofNat n)]⟩,.agg ⟨[.int .u64 (.ofNat hi2),.int .u64 (.ofNat lo2),.int .i64 (.ofNat m)]⟩]=>(match (Nat.blt hi 18446744073709551616&&Nat.blt lo 18446744073709551616)&&(Nat.blt hi2 18446744073709551616&&Nat.blt lo2 18446744073709551616) with|true=>some (.bool (zfJ (zaT hi lo) (n:Int) (zaT hi2 lo2) (m:Int)))|false=>none)
 |_=>none
theorem z1V {base:Nat} {T:World→Prop}:Ev.OrcFn Tryz.prog 100 base T 247 zxL:=by
 refine Ev.oFn_ok (enters_of Tryz.func247 (by kernel_rfl) rfl) fun args hp v hk=> ?_
 unfold zxL at hk
 split at hk
 ·split at hk
  ·rename_i hc
   cases hk
   simp only [Bool.and_eq_true] at hc
   refine ⟨rfl,rfl,fun W _ _=> ?_⟩
   exact z1A _ _ _ _ _ _ W (Ev.blt_ok hc.1.1) (Ev.blt_ok hc.1.2) (Ev.blt_ok hc.2.1) (Ev.blt_ok hc.2.2)
  ·cases hk
 ·cases hk
noncomputable def zpQ:Ev.Orc:=Ev.orcWith zsY 247 zxL
theorem zrX (w:World) (hpow:PowTab w) (hbru:BruTab w) (hmax:MaxVar w):Ev.OrcSound Tryz.prog 100 w.heap.size (Below w.heap.size w) zpQ:=(zuV w hpow hbru hmax).with z1V
def zxS:Ev.OrcH:=fun args _=>match args with
 |[.agg ⟨[.int .u64 (.ofNat hi),.int .u64 (.ofNat lo),.int .i64 (.ofNat n)]⟩,.agg ⟨[.int .u64 (.ofNat ph),.int .u64 (.ofNat pl),.int .i64 (.ofNat k)]⟩]=>(match ((Nat.blt hi 18446744073709551616&&Nat.blt lo 18446744073709551616)&&(Nat.blt ph 18446744073709551616&&Nat.blt pl 18446744073709551616))&&(Nat.ble n 128&&Nat.ble k 128) with|true=>some (pfW (ofW (zaT ph pl) (zkM (zaT hi lo) n (zaT ph pl) k)) (zkM (zaT hi lo) n (zaT ph pl) k:Nat))|false=>none)
 |_=>none
theorem z2H {base:Nat} {T:World→Prop}:Ev.OrcFn Tryz.prog 100 base T 249 zxS:=by
 refine Ev.oFn_ok (enters_of Tryz.func249 (by kernel_rfl) rfl) fun args hp v hk=> ?_
 unfold zxS at hk
 split at hk
 ·split at hk
  ·rename_i hc
   cases hk
   simp only [Bool.and_eq_true] at hc
   refine ⟨rfl,rfl,fun W _ _=> ?_⟩
   exact z2D _ _ _ _ _ _ W (Ev.blt_ok hc.1.1.1) (Ev.blt_ok hc.1.1.2) (Ev.blt_ok hc.1.2.1) (Ev.blt_ok hc.1.2.2) (Nat.le_of_ble_eq_true hc.2.1) (Nat.le_of_ble_eq_true hc.2.2)
  ·cases hk
 ·cases hk
noncomputable def zgX:Ev.Orc:=Ev.orcWith zpQ 249 zxS
theorem zkO (w:World) (hpow:PowTab w) (hbru:BruTab w) (hmax:MaxVar w):Ev.OrcSound Tryz.prog 100 w.heap.size (Below w.heap.size w) zgX:=(zrX w hpow hbru hmax).with z2H
theorem z9W:Ev.runG Tryz.prog 100 (Ev.orcIn evL zgX) 100000 271 []=some (.bool true):=by kernel_rfl
theorem aw01 (w:World) (hpow:PowTab w) (hbru:BruTab w) (hmax:MaxVar w):Calls Tryz.prog 271 #[] w fun e w'=>e= .returned (.bool true)∧Below w.heap.size w w':=
 zdM z9W rfl w (zkO w hpow hbru hmax)
noncomputable def z3H:Ev.Orc:=Ev.orcAdd (Ev.orcAdd zgX 271 (.bool true)) 270 (.bool true)
theorem z7U:Ev.runG Tryz.prog 100 (Ev.orcIn evL (Ev.orcAdd zgX 271 (.bool true))) 100000 270 []=some (.bool true):=by kernel_rfl
theorem zvO (w:World) (hpow:PowTab w) (hbru:BruTab w) (hmax:MaxVar w):Ev.OrcSound Tryz.prog 100 w.heap.size (Below w.heap.size w) (Ev.orcAdd zgX 271 (.bool true)):=
 (zkO w hpow hbru hmax).add rfl ((enters_of Tryz.func271 (by kernel_rfl) rfl) #[]) fun W _ hT=>aw01 W (zaL hpow hT) (zaJ hbru hT) (zaG hmax hT)
theorem Aw01 (w:World) (hpow:PowTab w) (hbru:BruTab w) (hmax:MaxVar w):Calls Tryz.prog 270 #[] w fun e w'=>e= .returned (.bool true)∧Below w.heap.size w w':=
 zdM z7U rfl w (zvO w hpow hbru hmax)
theorem zzS (w:World) (hpow:PowTab w) (hbru:BruTab w) (hmax:MaxVar w):Ev.OrcSound Tryz.prog 100 w.heap.size (Below w.heap.size w) z3H:=
 (zvO w hpow hbru hmax).add rfl ((enters_of Tryz.func270 (by kernel_rfl) rfl) #[]) fun W _ hT=>Aw01 W (zaL hpow hT) (zaJ hbru hT) (zaG hmax hT)
theorem z3V:Ev.runG Tryz.prog 100 (Ev.orcIn evL z3H) 100000 269 []=some (.bool true):=by kernel_rfl
theorem aw02 (w:World) (hpow:PowTab w) (hbru:BruTab w) (hmax:MaxVar w):Calls Tryz.prog 269 #[] w fun e w'=>e= .returned (.bool true)∧Below w.heap.size w w':=
 zdM z3V rfl w (zzS w hpow hbru hmax)
noncomputable def z7K:Ev.Orc:=Ev.orcAdd (Ev.orcAdd z3H 269 (.bool true)) 268 (.bool true)
theorem z4S:Ev.runG Tryz.prog 100 (Ev.orcIn evL (Ev.orcAdd z3H 269 (.bool true))) 100000 268 []=some (.bool true):=by kernel_rfl
theorem ztF (w:World) (hpow:PowTab w) (hbru:BruTab w) (hmax:MaxVar w):Ev.OrcSound Tryz.prog 100 w.heap.size (Below w.heap.size w) (Ev.orcAdd z3H 269 (.bool true)):=
 (zzS w hpow hbru hmax).add rfl ((enters_of Tryz.func269 (by kernel_rfl) rfl) #[]) fun W _ hT=>aw02 W (zaL hpow hT) (zaJ hbru hT) (zaG hmax hT)
theorem Aw02 (w:World) (hpow:PowTab w) (hbru:BruTab w) (hmax:MaxVar w):Calls Tryz.prog 268 #[] w fun e w'=>e= .returned (.bool true)∧Below w.heap.size w w':=
 zdM z4S rfl w (ztF w hpow hbru hmax)
theorem z0K (w:World) (hpow:PowTab w) (hbru:BruTab w) (hmax:MaxVar w):Ev.OrcSound Tryz.prog 100 w.heap.size (Below w.heap.size w) z7K:=
 (ztF w hpow hbru hmax).add rfl ((enters_of Tryz.func268 (by kernel_rfl) rfl) #[]) fun W _ hT=>Aw02 W (zaL hpow hT) (zaJ hbru hT) (zaG hmax hT)
theorem z6E:Ev.runG Tryz.prog 100 (Ev.orcIn evL z7K) 100000 267 []=some (.bool true):=by kernel_rfl
theorem aw03 (w:World) (hpow:PowTab w) (hbru:BruTab w) (hmax:MaxVar w):Calls Tryz.prog 267 #[] w fun e w'=>e= .returned (.bool true)∧Below w.heap.size w w':=
 zdM z6E rfl w (z0K w hpow hbru hmax)
noncomputable def z6X:Ev.Orc:=Ev.orcAdd (Ev.orcAdd z7K 267 (.bool true)) 266 (.bool true)
theorem z4X:Ev.runG Tryz.prog 100 (Ev.orcIn evL (Ev.orcAdd z7K 267 (.bool true))) 100000 266 []=some (.bool true):=by kernel_rfl
theorem ztO (w:World) (hpow:PowTab w) (hbru:BruTab w) (hmax:MaxVar w):Ev.OrcSound Tryz.prog 100 w.heap.size (Below w.heap.size w) (Ev.orcAdd z7K 267 (.bool true)):=
 (z0K w hpow hbru hmax).add rfl ((enters_of Tryz.func267 (by kernel_rfl) rfl) #[]) fun W _ hT=>aw03 W (zaL hpow hT) (zaJ hbru hT) (zaG hmax hT)
theorem Aw03 (w:World) (hpow:PowTab w) (hbru:BruTab w) (hmax:MaxVar w):Calls Tryz.prog 266 #[] w fun e w'=>e= .returned (.bool true)∧Below w.heap.size w w':=
 zdM z4X rfl w (ztO w hpow hbru hmax)
theorem zyY (w:World) (hpow:PowTab w) (hbru:BruTab w) (hmax:MaxVar w):Ev.OrcSound Tryz.prog 100 w.heap.size (Below w.heap.size w) z6X:=
 (ztO w hpow hbru hmax).add rfl ((enters_of Tryz.func266 (by kernel_rfl) rfl) #[]) fun W _ hT=>Aw03 W (zaL hpow hT) (zaJ hbru hT) (zaG hmax hT)
theorem z5D:Ev.runG Tryz.prog 100 (Ev.orcIn evL z6X) 100000 265 []=some (.bool true):=by kernel_rfl
theorem aw04 (w:World) (hpow:PowTab w) (hbru:BruTab w) (hmax:MaxVar w):Calls Tryz.prog 265 #[] w fun e w'=>e= .returned (.bool true)∧Below w.heap.size w w':=
 zdM z5D rfl w (zyY w hpow hbru hmax)
noncomputable def z8K:Ev.Orc:=Ev.orcAdd (Ev.orcAdd z6X 265 (.bool true)) 264 (.bool true)
theorem z7X:Ev.runG Tryz.prog 100 (Ev.orcIn evL (Ev.orcAdd z6X 265 (.bool true))) 100000 264 []=some (.bool true):=by kernel_rfl
theorem zuX (w:World) (hpow:PowTab w) (hbru:BruTab w) (hmax:MaxVar w):Ev.OrcSound Tryz.prog 100 w.heap.size (Below w.heap.size w) (Ev.orcAdd z6X 265 (.bool true)):=
 (zyY w hpow hbru hmax).add rfl ((enters_of Tryz.func265 (by kernel_rfl) rfl) #[]) fun W _ hT=>aw04 W (zaL hpow hT) (zaJ hbru hT) (zaG hmax hT)
theorem Aw04 (w:World) (hpow:PowTab w) (hbru:BruTab w) (hmax:MaxVar w):Calls Tryz.prog 264 #[] w fun e w'=>e= .returned (.bool true)∧Below w.heap.size w w':=
 zdM z7X rfl w (zuX w hpow hbru hmax)
theorem z0T (w:World) (hpow:PowTab w) (hbru:BruTab w) (hmax:MaxVar w):Ev.OrcSound Tryz.prog 100 w.heap.size (Below w.heap.size w) z8K:=
 (zuX w hpow hbru hmax).add rfl ((enters_of Tryz.func264 (by kernel_rfl) rfl) #[]) fun W _ hT=>Aw04 W (zaL hpow hT) (zaJ hbru hT) (zaG hmax hT)
theorem z5U:Ev.runG Tryz.prog 100 (Ev.orcIn evL z8K) 100000 263 []=some (.bool true):=by kernel_rfl
theorem aw05 (w:World) (hpow:PowTab w) (hbru:BruTab w) (hmax:MaxVar w):Calls Tryz.prog 263 #[] w fun e w'=>e= .returned (.bool true)∧Below w.heap.size w w':=
 zdM z5U rfl w (z0T w hpow hbru hmax)
noncomputable def z9C:Ev.Orc:=Ev.orcAdd (Ev.orcAdd z8K 263 (.bool true)) 261 (.bool true)
theorem z3P:Ev.runG Tryz.prog 100 (Ev.orcIn evL (Ev.orcAdd z8K 263 (.bool true))) 100000 261 []=some (.bool true):=by kernel_rfl
theorem zuJ (w:World) (hpow:PowTab w) (hbru:BruTab w) (hmax:MaxVar w):Ev.OrcSound Tryz.prog 100 w.heap.size (Below w.heap.size w) (Ev.orcAdd z8K 263 (.bool true)):=
 (z0T w hpow hbru hmax).add rfl ((enters_of Tryz.func263 (by kernel_rfl) rfl) #[]) fun W _ hT=>aw05 W (zaL hpow hT) (zaJ hbru hT) (zaG hmax hT)
theorem Aw05 (w:World) (hpow:PowTab w) (hbru:BruTab w) (hmax:MaxVar w):Calls Tryz.prog 261 #[] w fun e w'=>e= .returned (.bool true)∧Below w.heap.size w w':=
 zdM z3P rfl w (zuJ w hpow hbru hmax)
theorem z0H (w:World) (hpow:PowTab w) (hbru:BruTab w) (hmax:MaxVar w):Ev.OrcSound Tryz.prog 100 w.heap.size (Below w.heap.size w) z9C:=
 (zuJ w hpow hbru hmax).add rfl ((enters_of Tryz.func261 (by kernel_rfl) rfl) #[]) fun W _ hT=>Aw05 W (zaL hpow hT) (zaJ hbru hT) (zaG hmax hT)
theorem z7V:Ev.runG Tryz.prog 100 (Ev.orcIn evL z9C) 100000 260 []=some (.bool true):=by kernel_rfl
theorem aw06 (w:World) (hpow:PowTab w) (hbru:BruTab w) (hmax:MaxVar w):Calls Tryz.prog 260 #[] w fun e w'=>e= .returned (.bool true)∧Below w.heap.size w w':=
 zdM z7V rfl w (z0H w hpow hbru hmax)
noncomputable def z5X:Ev.Orc:=Ev.orcAdd (Ev.orcAdd z9C 260 (.bool true)) 259 (.bool true)
theorem z6L:Ev.runG Tryz.prog 100 (Ev.orcIn evL (Ev.orcAdd z9C 260 (.bool true))) 100000 259 []=some (.bool true):=by kernel_rfl
theorem zsR (w:World) (hpow:PowTab w) (hbru:BruTab w) (hmax:MaxVar w):Ev.OrcSound Tryz.prog 100 w.heap.size (Below w.heap.size w) (Ev.orcAdd z9C 260 (.bool true)):=
 (z0H w hpow hbru hmax).add rfl ((enters_of Tryz.func260 (by kernel_rfl) rfl) #[]) fun W _ hT=>aw06 W (zaL hpow hT) (zaJ hbru hT) (zaG hmax hT)
theorem Aw06 (w:World) (hpow:PowTab w) (hbru:BruTab w) (hmax:MaxVar w):Calls Tryz.prog 259 #[] w fun e w'=>e= .returned (.bool true)∧Below w.heap.size w w':=
 zdM z6L rfl w (zsR w hpow hbru hmax)
theorem z0F (w:World) (hpow:PowTab w) (hbru:BruTab w) (hmax:MaxVar w):Ev.OrcSound Tryz.prog 100 w.heap.size (Below w.heap.size w) z5X:=
 (zsR w hpow hbru hmax).add rfl ((enters_of Tryz.func259 (by kernel_rfl) rfl) #[]) fun W _ hT=>Aw06 W (zaL hpow hT) (zaJ hbru hT) (zaG hmax hT)
theorem z6Y:Ev.runG Tryz.prog 100 (Ev.orcIn evL z5X) 100000 258 []=some (.bool true):=by kernel_rfl
theorem aw07 (w:World) (hpow:PowTab w) (hbru:BruTab w) (hmax:MaxVar w):Calls Tryz.prog 258 #[] w fun e w'=>e= .returned (.bool true)∧Below w.heap.size w w':=
 zdM z6Y rfl w (z0F w hpow hbru hmax)
noncomputable def z5K:Ev.Orc:=Ev.orcAdd (Ev.orcAdd z5X 258 (.bool true)) 257 (.bool true)
theorem z8Z:Ev.runG Tryz.prog 100 (Ev.orcIn evL (Ev.orcAdd z5X 258 (.bool true))) 100000 257 []=some (.bool true):=by kernel_rfl
theorem ztB (w:World) (hpow:PowTab w) (hbru:BruTab w) (hmax:MaxVar w):Ev.OrcSound Tryz.prog 100 w.heap.size (Below w.heap.size w) (Ev.orcAdd z5X 258 (.bool true)):=
 (z0F w hpow hbru hmax).add rfl ((enters_of Tryz.func258 (by kernel_rfl) rfl) #[]) fun W _ hT=>aw07 W (zaL hpow hT) (zaJ hbru hT) (zaG hmax hT)
theorem Aw07 (w:World) (hpow:PowTab w) (hbru:BruTab w) (hmax:MaxVar w):Calls Tryz.prog 257 #[] w fun e w'=>e= .returned (.bool true)∧Below w.heap.size w w':=
 zdM z8Z rfl w (ztB w hpow hbru hmax)
theorem zzJ (w:World) (hpow:PowTab w) (hbru:BruTab w) (hmax:MaxVar w):Ev.OrcSound Tryz.prog 100 w.heap.size (Below w.heap.size w) z5K:=
 (ztB w hpow hbru hmax).add rfl ((enters_of Tryz.func257 (by kernel_rfl) rfl) #[]) fun W _ hT=>Aw07 W (zaL hpow hT) (zaJ hbru hT) (zaG hmax hT)
theorem z9S:Ev.runG Tryz.prog 100 (Ev.orcIn evL z5K) 100000 251 []=some (.bool true):=by kernel_rfl
theorem aw08 (w:World) (hpow:PowTab w) (hbru:BruTab w) (hmax:MaxVar w):Calls Tryz.prog 251 #[] w fun e w'=>e= .returned (.bool true)∧Below w.heap.size w w':=
 zdM z9S rfl w (zzJ w hpow hbru hmax)
noncomputable def z7E:Ev.Orc:=Ev.orcAdd (Ev.orcAdd z5K 251 (.bool true)) 239 (.bool true)
theorem z8E:Ev.runG Tryz.prog 100 (Ev.orcIn evL (Ev.orcAdd z5K 251 (.bool true))) 100000 239 []=some (.bool true):=by kernel_rfl
theorem ztP (w:World) (hpow:PowTab w) (hbru:BruTab w) (hmax:MaxVar w):Ev.OrcSound Tryz.prog 100 w.heap.size (Below w.heap.size w) (Ev.orcAdd z5K 251 (.bool true)):=
 (zzJ w hpow hbru hmax).add rfl ((enters_of Tryz.func251 (by kernel_rfl) rfl) #[]) fun W _ hT=>aw08 W (zaL hpow hT) (zaJ hbru hT) (zaG hmax hT)
theorem Aw08 (w:World) (hpow:PowTab w) (hbru:BruTab w) (hmax:MaxVar w):Calls Tryz.prog 239 #[] w fun e w'=>e= .returned (.bool true)∧Below w.heap.size w w':=
 zdM z8E rfl w (ztP w hpow hbru hmax)
theorem z0I (w:World) (hpow:PowTab w) (hbru:BruTab w) (hmax:MaxVar w):Ev.OrcSound Tryz.prog 100 w.heap.size (Below w.heap.size w) z7E:=
 (ztP w hpow hbru hmax).add rfl ((enters_of Tryz.func239 (by kernel_rfl) rfl) #[]) fun W _ hT=>Aw08 W (zaL hpow hT) (zaJ hbru hT) (zaG hmax hT)
theorem z5A:Ev.runG Tryz.prog 100 (Ev.orcIn evL z7E) 100000 227 []=some (.bool true):=by kernel_rfl
theorem aw09 (w:World) (hpow:PowTab w) (hbru:BruTab w) (hmax:MaxVar w):Calls Tryz.prog 227 #[] w fun e w'=>e= .returned (.bool true)∧Below w.heap.size w w':=
 zdM z5A rfl w (z0I w hpow hbru hmax)
noncomputable def z4L:Ev.Orc:=Ev.orcAdd (Ev.orcAdd z7E 227 (.bool true)) 213 (.bool true)
theorem z3O:Ev.runG Tryz.prog 100 (Ev.orcIn evL (Ev.orcAdd z7E 227 (.bool true))) 100000 213 []=some (.bool true):=by kernel_rfl
theorem zuQ (w:World) (hpow:PowTab w) (hbru:BruTab w) (hmax:MaxVar w):Ev.OrcSound Tryz.prog 100 w.heap.size (Below w.heap.size w) (Ev.orcAdd z7E 227 (.bool true)):=
 (z0I w hpow hbru hmax).add rfl ((enters_of Tryz.func227 (by kernel_rfl) rfl) #[]) fun W _ hT=>aw09 W (zaL hpow hT) (zaJ hbru hT) (zaG hmax hT)
theorem Aw09 (w:World) (hpow:PowTab w) (hbru:BruTab w) (hmax:MaxVar w):Calls Tryz.prog 213 #[] w fun e w'=>e= .returned (.bool true)∧Below w.heap.size w w':=
 zdM z3O rfl w (zuQ w hpow hbru hmax)
theorem z0N (w:World) (hpow:PowTab w) (hbru:BruTab w) (hmax:MaxVar w):Ev.OrcSound Tryz.prog 100 w.heap.size (Below w.heap.size w) z4L:=
 (zuQ w hpow hbru hmax).add rfl ((enters_of Tryz.func213 (by kernel_rfl) rfl) #[]) fun W _ hT=>Aw09 W (zaL hpow hT) (zaJ hbru hT) (zaG hmax hT)
theorem z6J:Ev.runG Tryz.prog 100 (Ev.orcIn evL z4L) 100000 202 []=some (.bool true):=by kernel_rfl
theorem aw10 (w:World) (hpow:PowTab w) (hbru:BruTab w) (hmax:MaxVar w):Calls Tryz.prog 202 #[] w fun e w'=>e= .returned (.bool true)∧Below w.heap.size w w':=
 zdM z6J rfl w (z0N w hpow hbru hmax)
noncomputable def z6U:Ev.Orc:=Ev.orcAdd (Ev.orcAdd z4L 202 (.bool true)) 184 (.bool true)
theorem z5P:Ev.runG Tryz.prog 100 (Ev.orcIn evL (Ev.orcAdd z4L 202 (.bool true))) 100000 184 []=some (.bool true):=by kernel_rfl
theorem zuD (w:World) (hpow:PowTab w) (hbru:BruTab w) (hmax:MaxVar w):Ev.OrcSound Tryz.prog 100 w.heap.size (Below w.heap.size w) (Ev.orcAdd z4L 202 (.bool true)):=
 (z0N w hpow hbru hmax).add rfl ((enters_of Tryz.func202 (by kernel_rfl) rfl) #[]) fun W _ hT=>aw10 W (zaL hpow hT) (zaJ hbru hT) (zaG hmax hT)
theorem Aw10 (w:World) (hpow:PowTab w) (hbru:BruTab w) (hmax:MaxVar w):Calls Tryz.prog 184 #[] w fun e w'=>e= .returned (.bool true)∧Below w.heap.size w w':=
 zdM z5P rfl w (zuD w hpow hbru hmax)
theorem zyJ (w:World) (hpow:PowTab w) (hbru:BruTab w) (hmax:MaxVar w):Ev.OrcSound Tryz.prog 100 w.heap.size (Below w.heap.size w) z6U:=
 (zuD w hpow hbru hmax).add rfl ((enters_of Tryz.func184 (by kernel_rfl) rfl) #[]) fun W _ hT=>Aw10 W (zaL hpow hT) (zaJ hbru hT) (zaG hmax hT)
theorem z3E:Ev.runG Tryz.prog 100 (Ev.orcIn evL z6U) 100000 162 []=some (.bool true):=by kernel_rfl
theorem aw11 (w:World) (hpow:PowTab w) (hbru:BruTab w) (hmax:MaxVar w):Calls Tryz.prog 162 #[] w fun e w'=>e= .returned (.bool true)∧Below w.heap.size w w':=
 zdM z3E rfl w (zyJ w hpow hbru hmax)
noncomputable def z3F:Ev.Orc:=Ev.orcAdd (Ev.orcAdd z6U 162 (.bool true)) 118 (.bool true)
theorem z4A:Ev.runG Tryz.prog 100 (Ev.orcIn evL (Ev.orcAdd z6U 162 (.bool true))) 100000 118 []=some (.bool true):=by kernel_rfl
theorem ztX (w:World) (hpow:PowTab w) (hbru:BruTab w) (hmax:MaxVar w):Ev.OrcSound Tryz.prog 100 w.heap.size (Below w.heap.size w) (Ev.orcAdd z6U 162 (.bool true)):=
 (zyJ w hpow hbru hmax).add rfl ((enters_of Tryz.func162 (by kernel_rfl) rfl) #[]) fun W _ hT=>aw11 W (zaL hpow hT) (zaJ hbru hT) (zaG hmax hT)
theorem Aw11 (w:World) (hpow:PowTab w) (hbru:BruTab w) (hmax:MaxVar w):Calls Tryz.prog 118 #[] w fun e w'=>e= .returned (.bool true)∧Below w.heap.size w w':=
 zdM z4A rfl w (ztX w hpow hbru hmax)
theorem zzM (w:World) (hpow:PowTab w) (hbru:BruTab w) (hmax:MaxVar w):Ev.OrcSound Tryz.prog 100 w.heap.size (Below w.heap.size w) z3F:=
 (ztX w hpow hbru hmax).add rfl ((enters_of Tryz.func118 (by kernel_rfl) rfl) #[]) fun W _ hT=>Aw11 W (zaL hpow hT) (zaJ hbru hT) (zaG hmax hT)
theorem z7L:Ev.runG Tryz.prog 100 (Ev.orcIn evL z3F) 100000 72 []=some (.bool true):=by kernel_rfl
theorem aw12 (w:World) (hpow:PowTab w) (hbru:BruTab w) (hmax:MaxVar w):Calls Tryz.prog 72 #[] w fun e w'=>e= .returned (.bool true)∧Below w.heap.size w w':=
 zdM z7L rfl w (zzM w hpow hbru hmax)
noncomputable def z4N:Ev.Orc:=Ev.orcAdd (Ev.orcAdd z3F 72 (.bool true)) 35 (.bool true)
theorem z6K:Ev.runG Tryz.prog 100 (Ev.orcIn evL (Ev.orcAdd z3F 72 (.bool true))) 100000 35 []=some (.bool true):=by kernel_rfl
theorem ztS (w:World) (hpow:PowTab w) (hbru:BruTab w) (hmax:MaxVar w):Ev.OrcSound Tryz.prog 100 w.heap.size (Below w.heap.size w) (Ev.orcAdd z3F 72 (.bool true)):=
 (zzM w hpow hbru hmax).add rfl ((enters_of Tryz.func72 (by kernel_rfl) rfl) #[]) fun W _ hT=>aw12 W (zaL hpow hT) (zaJ hbru hT) (zaG hmax hT)
theorem Aw12 (w:World) (hpow:PowTab w) (hbru:BruTab w) (hmax:MaxVar w):Calls Tryz.prog 35 #[] w fun e w'=>e= .returned (.bool true)∧Below w.heap.size w w':=
 zdM z6K rfl w (ztS w hpow hbru hmax)
theorem zyS (w:World) (hpow:PowTab w) (hbru:BruTab w) (hmax:MaxVar w):Ev.OrcSound Tryz.prog 100 w.heap.size (Below w.heap.size w) z4N:=
 (ztS w hpow hbru hmax).add rfl ((enters_of Tryz.func35 (by kernel_rfl) rfl) #[]) fun W _ hT=>Aw12 W (zaL hpow hT) (zaJ hbru hT) (zaG hmax hT)
theorem z8B:Ev.runG Tryz.prog 100 (Ev.orcIn evL z4N) 100000 16 []=some (.bool true):=by kernel_rfl
theorem aw13 (w:World) (hpow:PowTab w) (hbru:BruTab w) (hmax:MaxVar w):Calls Tryz.prog 16 #[] w fun e w'=>e= .returned (.bool true)∧Below w.heap.size w w':=
 zdM z8B rfl w (zyS w hpow hbru hmax)
noncomputable def orc13:Ev.Orc:=Ev.orcAdd (Ev.orcAdd z4N 16 (.bool true)) 11 (.bool true)
theorem z5B:Ev.runG Tryz.prog 100 (Ev.orcIn evL (Ev.orcAdd z4N 16 (.bool true))) 100000 11 []=some (.bool true):=by kernel_rfl
theorem zvV (w:World) (hpow:PowTab w) (hbru:BruTab w) (hmax:MaxVar w):Ev.OrcSound Tryz.prog 100 w.heap.size (Below w.heap.size w) (Ev.orcAdd z4N 16 (.bool true)):=
 (zyS w hpow hbru hmax).add rfl ((enters_of Tryz.func16 (by kernel_rfl) rfl) #[]) fun W _ hT=>aw13 W (zaL hpow hT) (zaJ hbru hT) (zaG hmax hT)
theorem Aw13 (w:World) (hpow:PowTab w) (hbru:BruTab w) (hmax:MaxVar w):Calls Tryz.prog 11 #[] w fun e w'=>e= .returned (.bool true)∧Below w.heap.size w w':=
 zdM z5B rfl w (zvV w hpow hbru hmax)
theorem ybH (w:World) (hpow:PowTab w) (hbru:BruTab w) (hmax:MaxVar w):Ev.OrcSound Tryz.prog 100 w.heap.size (Below w.heap.size w) orc13:=
 (zvV w hpow hbru hmax).add rfl ((enters_of Tryz.func11 (by kernel_rfl) rfl) #[]) fun W _ hT=>Aw13 W (zaL hpow hT) (zaJ hbru hT) (zaG hmax hT)
theorem z6S:Ev.runG Tryz.prog 100 (Ev.orcIn evL orc13) 100000 4 []=some (.bool true):=by kernel_rfl
theorem aw14 (w:World) (hpow:PowTab w) (hbru:BruTab w) (hmax:MaxVar w):Calls Tryz.prog 4 #[] w fun e w'=>e= .returned (.bool true)∧Below w.heap.size w w':=
 zdM z6S rfl w (ybH w hpow hbru hmax)
end
end Go.Proofs.YtcagcjdhbijknaaGreatDoor
