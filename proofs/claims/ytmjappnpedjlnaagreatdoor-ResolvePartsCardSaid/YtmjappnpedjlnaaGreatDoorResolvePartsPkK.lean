/-
  What the law ResolveParts leans on, and its walk (11 of 42).
-/
import Derived.Test.YtmjappnpedjlnaaGreatDoorEvB
import Derived.Shelf.Abstract
import Derived.Test.YtmjappnpedjlnaaGreatDoorResolvePartsPkE
import Derived.Test.YtmjappnpedjlnaaGreatDoorResolvePartsPkJ
namespace Go.Proofs.YtmjappnpedjlnaaGreatDoor
set_option maxRecDepth 100000
set_option maxHeartbeats 16000000
section
open Go.RowKit
noncomputable def zkW:Ev.Orc:=Ev.orcWith (Ev.orcWith (Ev.orcWith (Ev.orcWith (Ev.orcWith (Ev.orcWith (Ev.orcWith (Ev.orcWith (Ev.orcWith (Ev.orcNone) 171 Ev.oReplace) 162 Ev.oJoin) 87 Ev.oItoa) 251 Ev.oTz) 235 Ev.oLen) 249 Ev.oCount) 194 Ev.oIndex) 205 Ev.oNoEscape) 203 Ev.oIndexByte
theorem zfS (w:World) (hpow:PowTab w) (hbru:BruTab w) (hmax:MaxVar w):Ev.OrcSound Tryz.prog 100 w.heap.size (Below w.heap.size w) zkW:=by
 refine Ev.orcNone_sound|>.with ?o0|>.with ?o1|>.with ?o2|>.with ?o3|>.with ?o4|>.with ?o5|>.with ?o6|>.with ?o7|>.with ?o8
 case o0=>exact Ev.oReplace_ok (enters_of Tryz.func171 (by kernel_rfl) rfl) fun s o n W hT h1 h2 h3=>by obtain ⟨m,hm⟩:=zaB hmax hT;exact Tryz.strings_ReplaceAll s o n m W h1 hm h2 h3
 case o1=>exact Ev.oJoin_ok (enters_of Tryz.func162 (by kernel_rfl) rfl) fun bk o c xs sep w h1 h2 h3 h4 h5=>Tryz.strings_Join bk o c xs sep w h1 h2 h3 h4 h5
 case o2=>exact Ev.oItoa_ok (enters_of Tryz.func87 (by kernel_rfl) rfl) fun n W hT h1 h2=>(Tryz.strconv_Itoa n h1 h2 W (zaC hpow hT)).mono (by rintro e w' ⟨rfl,k,os,rfl⟩;exact ⟨rfl,Lib.below_grow _ _ (Nat.le_refl _) _ _⟩)
 case o3=>exact Ev.oTz_ok (enters_of Tryz.func251 (by kernel_rfl) rfl) (fun W hT=>(tz64_8 W (zaA hbru hT)).mono fun _ _ h=>⟨h.1,h.2.symm⟩) (fun W hT=>(zkZ W (zaA hbru hT)).mono fun _ _ h=>⟨h.1,h.2.symm⟩)
 case o4=>exact Ev.oLen_ok (enters_of Tryz.func235 (by kernel_rfl) rfl) fun x W h1 h2=>Tryz.bits_Len64 x W h1 h2
 case o5=>exact Ev.oCount_ok Tryz.func249 (by kernel_rfl) (by kernel_rfl) (by kernel_rfl) (by kernel_rfl)
 case o6=>exact Ev.oIndex_ok (enters_of Tryz.func194 (by kernel_rfl) rfl) fun s t W hT h=>by obtain ⟨m,hm⟩:=zaB hmax hT;exact Tryz.stringslite_Index s t m W h hm
 case o7=>exact Ev.oNoEscape_ok Tryz.func205 (by kernel_rfl) (by kernel_rfl) (by kernel_rfl) (by kernel_rfl)
 case o8=>exact Ev.oIndexByte_ok Tryz.func203 (by kernel_rfl) (by kernel_rfl) (by kernel_rfl) (by kernel_rfl)
theorem zkD:(Tryz.prog.funcs.toList.all fun f=> !(f.name== "runtime.NumGoroutine"))=true:=by kernel_rfl
theorem zfL:Ev.NoNum Tryz.prog:=fun g f h=>by
 have:=List.all_eq_true.1 zkD f (by simpa using Array.mem_of_getElem? h)
 simpa using this
theorem zfA:Tryz.prog.follows .mixedOrders=true:=by kernel_rfl
theorem zfB (w:World):Ev.Stays w.heap.size (Below w.heap.size w):=fun _ _ h k=>k.trans h
def evL:List Nat:=[10,20,29,39,59,74,87,93,109,143,158,162,171,193,194,203,205,220,235,239,249,251,252,256,257,258,261,273,280,285,290,293,295,297,303,304,305,306,307,309,310,311,312,313,314,315,316,317]
theorem zaL {orc:Ev.Orc} {n:Nat} {f:FuncId} {v:Value} (h:Ev.runG Tryz.prog 100 (Ev.orcIn evL orc) n f []=some v) (hv:Ev.pf 100 6 v=true) (w:World) (ho:Ev.OrcSound Tryz.prog 100 w.heap.size (Below w.heap.size w) orc):
  Calls Tryz.prog f #[] w fun e w'=>e= .returned v∧Below w.heap.size w w':=
 Ev.runF_sound (zfB w) zfL zfA (Ev.orcIn_ok evL ho) (Ev.runG_ok h) rfl hv w rfl (Below.refl _ _)
def memoT:List (List UInt8×Nat×Nat×Nat):=[([48,46,48,46,48,46,48,47,56],0,281470681743360,104),
 ([49,48,46,48,46,48,46,48,47,56],0,281470849515520,104),
 ([49,48,48,46,54,52,46,48,46,48,47,49,48],0,281472363659264,106),
 ([49,50,55,46,48,46,48,46,48,47,56],0,281472812449792,104),
 ([49,54,57,46,50,53,52,46,48,46,48,47,49,54],0,281473533739008,112),
 ([49,55,50,46,49,54,46,48,46,48,47,49,50],0,281473568473088,108),
 ([49,57,50,46,48,46,48,46,48,47,50,52],0,281473902968832,120),
 ([49,57,50,46,48,46,50,46,48,47,50,52],0,281473902969344,120),
 ([49,57,50,46,56,56,46,57,57,46,48,47,50,52],0,281473908761344,120),
 ([49,57,50,46,49,54,56,46,48,46,48,47,49,54],0,281473913978880,112),
 ([49,57,56,46,49,56,46,48,46,48,47,49,53],0,281474004811776,111),
 ([49,57,56,46,53,49,46,49,48,48,46,48,47,50,52],0,281474007000064,120),
 ([50,48,51,46,48,46,49,49,51,46,48,47,50,52],0,281474087547136,120),
 ([50,50,52,46,48,46,48,46,48,47,52],0,281474439839744,100),
 ([50,52,48,46,48,46,48,46,48,47,52],0,281474708275200,100),
 ([58,58,47,49,50,56],0,0,128),
 ([58,58,49,47,49,50,56],0,1,128),
 ([54,52,58,102,102,57,98,58,49,58,58,47,52,56],28428538856144896,0,48),
 ([49,48,48,58,58,47,54,52],72057594037927936,0,64),
 ([50,48,48,49,58,58,47,50,51],2306124484190404608,0,23),
 ([50,48,48,49,58,100,98,56,58,58,47,51,50],2306139568115548160,0,32),
 ([51,102,102,102,58,58,47,50,48],4611404543450677248,0,20),
 ([53,102,48,48,58,58,47,49,54],6845471433603153920,0,16),
 ([102,99,48,48,58,58,47,55],18158513697557839872,0,7),
 ([102,101,56,48,58,58,47,49,48],18338657682652659712,0,10),
 ([102,101,99,48,58,58,47,49,48],18356672081162141696,0,10),
 ([102,102,48,48,58,58,47,56],18374686479671623680,0,8)]
def zkT (x:List UInt8×Nat×Nat×Nat):Value:= .tuple ⟨[.agg ⟨[.int .u64 (.ofNat x.2.1),.int .u64 (.ofNat x.2.2.1),.int .i64 (.ofNat x.2.2.2)]⟩,.bool true]⟩
def isPf (r:Option Value) (a b c:Nat):Bool:=match r with
 |some (.tuple ⟨[.agg ⟨[.int .u64 (.ofNat x),.int .u64 (.ofNat y),.int .i64 (.ofNat z)]⟩,.bool true]⟩)=>Nat.beq x a&&(Nat.beq y b&&Nat.beq z c)
 |_=>false
theorem zlF {r:Option Value} {x:List UInt8×Nat×Nat×Nat} (h:isPf r x.2.1 x.2.2.1 x.2.2.2=true):r=some (zkT x):=by
 unfold isPf at h
 split at h
 ·rw [Bool.and_eq_true,Bool.and_eq_true] at h
  unfold zkT
  rw [Nat.eq_of_beq_eq_true h.1,Nat.eq_of_beq_eq_true h.2.1,Nat.eq_of_beq_eq_true h.2.2]
 ·cases h
theorem ziI:(memoT.all fun x=>isPf (Ev.runG Tryz.prog 100 (Ev.orcIn evL zkW) 100000 290 [.string ⟨x.1.toArray⟩]) x.2.1 x.2.2.1 x.2.2.2)=true:=by kernel_rfl
noncomputable def orcM:Ev.Orc:=Ev.orcWith zkW 290 (Ev.oMemo (memoT.map fun x=>(x.1,zkT x)))
theorem zkY (w:World) (hpow:PowTab w) (hbru:BruTab w) (hmax:MaxVar w):Ev.OrcSound Tryz.prog 100 w.heap.size (Below w.heap.size w) orcM:=by
 refine (zfS w hpow hbru hmax).with (Ev.oMemo_ok (enters_of Tryz.func290 (by kernel_rfl) rfl) (by kernel_rfl) fun x hx W hW hT=> ?_)
 obtain ⟨y,hy,rfl⟩:=List.mem_map.1 hx
 have h:=zlF (List.all_eq_true.1 ziI y hy)
 have h2:=Ev.runF_sound (zfB W) zfL zfA (Ev.orcIn_ok evL (zfS W (zaC hpow hT) (zaA hbru hT) (zaB hmax hT))) (Ev.runG_ok h) rfl rfl W rfl (Below.refl _ _)
 simpa using h2
def zjD:Ev.OrcH:=fun args _=>match args with
 |[.agg ⟨[.int .u64 (.ofNat hi),.int .u64 (.ofNat lo),.int .i64 (.ofNat n)]⟩]=>(match Nat.blt hi 18446744073709551616&&Nat.blt lo 18446744073709551616 with|true=>some (.bool (zaN (zaE hi lo) (n:Int)))|false=>none)
 |_=>none
theorem ziB {base:Nat} {T:World→Prop}:Ev.OrcFn Tryz.prog 100 base T 280 zjD:=by
 refine Ev.oFn_ok (enters_of Tryz.func280 (by kernel_rfl) rfl) fun args hp v hk=> ?_
 unfold zjD at hk
 split at hk
 ·split at hk
  ·rename_i hc
   cases hk
   simp only [Bool.and_eq_true] at hc
   refine ⟨rfl,rfl,fun W _ _=> ?_⟩
   exact zaV _ _ _ W (Ev.blt_ok hc.1) (Ev.blt_ok hc.2)
  ·cases hk
 ·cases hk
noncomputable def zdL:Ev.Orc:=Ev.orcWith orcM 280 zjD
theorem zdR (w:World) (hpow:PowTab w) (hbru:BruTab w) (hmax:MaxVar w):Ev.OrcSound Tryz.prog 100 w.heap.size (Below w.heap.size w) zdL:=(zkY w hpow hbru hmax).with ziB
def zeW:Ev.OrcH:=fun args _=>match args with
 |[.agg ⟨[.int .u64 (.ofNat hi),.int .u64 (.ofNat lo),.int .i64 (.ofNat n)]⟩,.agg ⟨[.int .u64 (.ofNat hi2),.int .u64 (.ofNat lo2),.int .i64 (.ofNat m)]⟩]=>(match (Nat.blt hi 18446744073709551616&&Nat.blt lo 18446744073709551616)&&(Nat.blt hi2 18446744073709551616&&Nat.blt lo2 18446744073709551616) with|true=>some (.bool (zbB (zaE hi lo) (n:Int) (zaE hi2 lo2) (m:Int)))|false=>none)
 |_=>none
theorem zgN {base:Nat} {T:World→Prop}:Ev.OrcFn Tryz.prog 100 base T 293 zeW:=by
 refine Ev.oFn_ok (enters_of Tryz.func293 (by kernel_rfl) rfl) fun args hp v hk=> ?_
 unfold zeW at hk
 split at hk
 ·split at hk
  ·rename_i hc
   cases hk
   simp only [Bool.and_eq_true] at hc
   refine ⟨rfl,rfl,fun W _ _=> ?_⟩
   exact zgO _ _ _ _ _ _ W (Ev.blt_ok hc.1.1) (Ev.blt_ok hc.1.2) (Ev.blt_ok hc.2.1) (Ev.blt_ok hc.2.2)
  ·cases hk
 ·cases hk
noncomputable def zcY:Ev.Orc:=Ev.orcWith zdL 293 zeW
theorem zdD (w:World) (hpow:PowTab w) (hbru:BruTab w) (hmax:MaxVar w):Ev.OrcSound Tryz.prog 100 w.heap.size (Below w.heap.size w) zcY:=(zdR w hpow hbru hmax).with zgN
def zeZ:Ev.OrcH:=fun args _=>match args with
 |[.agg ⟨[.int .u64 (.ofNat hi),.int .u64 (.ofNat lo),.int .i64 (.ofNat n)]⟩,.agg ⟨[.int .u64 (.ofNat ph),.int .u64 (.ofNat pl),.int .i64 (.ofNat k)]⟩]=>(match ((Nat.blt hi 18446744073709551616&&Nat.blt lo 18446744073709551616)&&(Nat.blt ph 18446744073709551616&&Nat.blt pl 18446744073709551616))&&(Nat.ble n 128&&Nat.ble k 128) with|true=>some (pfW (ofW (zaE ph pl) (zcB (zaE hi lo) n (zaE ph pl) k)) (zcB (zaE hi lo) n (zaE ph pl) k:Nat))|false=>none)
 |_=>none
theorem zgK {base:Nat} {T:World→Prop}:Ev.OrcFn Tryz.prog 100 base T 295 zeZ:=by
 refine Ev.oFn_ok (enters_of Tryz.func295 (by kernel_rfl) rfl) fun args hp v hk=> ?_
 unfold zeZ at hk
 split at hk
 ·split at hk
  ·rename_i hc
   cases hk
   simp only [Bool.and_eq_true] at hc
   refine ⟨rfl,rfl,fun W _ _=> ?_⟩
   exact zgP _ _ _ _ _ _ W (Ev.blt_ok hc.1.1.1) (Ev.blt_ok hc.1.1.2) (Ev.blt_ok hc.1.2.1) (Ev.blt_ok hc.1.2.2) (Nat.le_of_ble_eq_true hc.2.1) (Nat.le_of_ble_eq_true hc.2.2)
  ·cases hk
 ·cases hk
noncomputable def zbK:Ev.Orc:=Ev.orcWith zcY 295 zeZ
theorem zbY (w:World) (hpow:PowTab w) (hbru:BruTab w) (hmax:MaxVar w):Ev.OrcSound Tryz.prog 100 w.heap.size (Below w.heap.size w) zbK:=(zdD w hpow hbru hmax).with zgK
theorem ziF:Ev.runG Tryz.prog 100 (Ev.orcIn evL zbK) 100000 317 []=some (.bool true):=by kernel_rfl
theorem aw01 (w:World) (hpow:PowTab w) (hbru:BruTab w) (hmax:MaxVar w):Calls Tryz.prog 317 #[] w fun e w'=>e= .returned (.bool true)∧Below w.heap.size w w':=
 zaL ziF rfl w (zbY w hpow hbru hmax)
noncomputable def zhY:Ev.Orc:=Ev.orcAdd (Ev.orcAdd zbK 317 (.bool true)) 316 (.bool true)
theorem ziY:Ev.runG Tryz.prog 100 (Ev.orcIn evL (Ev.orcAdd zbK 317 (.bool true))) 100000 316 []=some (.bool true):=by kernel_rfl
theorem zeB (w:World) (hpow:PowTab w) (hbru:BruTab w) (hmax:MaxVar w):Ev.OrcSound Tryz.prog 100 w.heap.size (Below w.heap.size w) (Ev.orcAdd zbK 317 (.bool true)):=
 (zbY w hpow hbru hmax).add rfl ((enters_of Tryz.func317 (by kernel_rfl) rfl) #[]) fun W _ hT=>aw01 W (zaC hpow hT) (zaA hbru hT) (zaB hmax hT)
theorem Aw01 (w:World) (hpow:PowTab w) (hbru:BruTab w) (hmax:MaxVar w):Calls Tryz.prog 316 #[] w fun e w'=>e= .returned (.bool true)∧Below w.heap.size w w':=
 zaL ziY rfl w (zeB w hpow hbru hmax)
theorem zfI (w:World) (hpow:PowTab w) (hbru:BruTab w) (hmax:MaxVar w):Ev.OrcSound Tryz.prog 100 w.heap.size (Below w.heap.size w) zhY:=
 (zeB w hpow hbru hmax).add rfl ((enters_of Tryz.func316 (by kernel_rfl) rfl) #[]) fun W _ hT=>Aw01 W (zaC hpow hT) (zaA hbru hT) (zaB hmax hT)
theorem zhF:Ev.runG Tryz.prog 100 (Ev.orcIn evL zhY) 100000 315 []=some (.bool true):=by kernel_rfl
theorem aw02 (w:World) (hpow:PowTab w) (hbru:BruTab w) (hmax:MaxVar w):Calls Tryz.prog 315 #[] w fun e w'=>e= .returned (.bool true)∧Below w.heap.size w w':=
 zaL zhF rfl w (zfI w hpow hbru hmax)
noncomputable def zjI:Ev.Orc:=Ev.orcAdd (Ev.orcAdd zhY 315 (.bool true)) 314 (.bool true)
theorem zhL:Ev.runG Tryz.prog 100 (Ev.orcIn evL (Ev.orcAdd zhY 315 (.bool true))) 100000 314 []=some (.bool true):=by kernel_rfl
theorem zdZ (w:World) (hpow:PowTab w) (hbru:BruTab w) (hmax:MaxVar w):Ev.OrcSound Tryz.prog 100 w.heap.size (Below w.heap.size w) (Ev.orcAdd zhY 315 (.bool true)):=
 (zfI w hpow hbru hmax).add rfl ((enters_of Tryz.func315 (by kernel_rfl) rfl) #[]) fun W _ hT=>aw02 W (zaC hpow hT) (zaA hbru hT) (zaB hmax hT)
theorem Aw02 (w:World) (hpow:PowTab w) (hbru:BruTab w) (hmax:MaxVar w):Calls Tryz.prog 314 #[] w fun e w'=>e= .returned (.bool true)∧Below w.heap.size w w':=
 zaL zhL rfl w (zdZ w hpow hbru hmax)
theorem zfF (w:World) (hpow:PowTab w) (hbru:BruTab w) (hmax:MaxVar w):Ev.OrcSound Tryz.prog 100 w.heap.size (Below w.heap.size w) zjI:=
 (zdZ w hpow hbru hmax).add rfl ((enters_of Tryz.func314 (by kernel_rfl) rfl) #[]) fun W _ hT=>Aw02 W (zaC hpow hT) (zaA hbru hT) (zaB hmax hT)
theorem zgV:Ev.runG Tryz.prog 100 (Ev.orcIn evL zjI) 100000 313 []=some (.bool true):=by kernel_rfl
theorem aw03 (w:World) (hpow:PowTab w) (hbru:BruTab w) (hmax:MaxVar w):Calls Tryz.prog 313 #[] w fun e w'=>e= .returned (.bool true)∧Below w.heap.size w w':=
 zaL zgV rfl w (zfF w hpow hbru hmax)
noncomputable def zjH:Ev.Orc:=Ev.orcAdd (Ev.orcAdd zjI 313 (.bool true)) 312 (.bool true)
theorem ziH:Ev.runG Tryz.prog 100 (Ev.orcIn evL (Ev.orcAdd zjI 313 (.bool true))) 100000 312 []=some (.bool true):=by kernel_rfl
theorem zdI (w:World) (hpow:PowTab w) (hbru:BruTab w) (hmax:MaxVar w):Ev.OrcSound Tryz.prog 100 w.heap.size (Below w.heap.size w) (Ev.orcAdd zjI 313 (.bool true)):=
 (zfF w hpow hbru hmax).add rfl ((enters_of Tryz.func313 (by kernel_rfl) rfl) #[]) fun W _ hT=>aw03 W (zaC hpow hT) (zaA hbru hT) (zaB hmax hT)
theorem Aw03 (w:World) (hpow:PowTab w) (hbru:BruTab w) (hmax:MaxVar w):Calls Tryz.prog 312 #[] w fun e w'=>e= .returned (.bool true)∧Below w.heap.size w w':=
 zaL ziH rfl w (zdI w hpow hbru hmax)
theorem zfH (w:World) (hpow:PowTab w) (hbru:BruTab w) (hmax:MaxVar w):Ev.OrcSound Tryz.prog 100 w.heap.size (Below w.heap.size w) zjH:=
 (zdI w hpow hbru hmax).add rfl ((enters_of Tryz.func312 (by kernel_rfl) rfl) #[]) fun W _ hT=>Aw03 W (zaC hpow hT) (zaA hbru hT) (zaB hmax hT)
theorem zhG:Ev.runG Tryz.prog 100 (Ev.orcIn evL zjH) 100000 311 []=some (.bool true):=by kernel_rfl
theorem aw04 (w:World) (hpow:PowTab w) (hbru:BruTab w) (hmax:MaxVar w):Calls Tryz.prog 311 #[] w fun e w'=>e= .returned (.bool true)∧Below w.heap.size w w':=
 zaL zhG rfl w (zfH w hpow hbru hmax)
noncomputable def ziK:Ev.Orc:=Ev.orcAdd (Ev.orcAdd zjH 311 (.bool true)) 310 (.bool true)
theorem ziG:Ev.runG Tryz.prog 100 (Ev.orcIn evL (Ev.orcAdd zjH 311 (.bool true))) 100000 310 []=some (.bool true):=by kernel_rfl
theorem zeG (w:World) (hpow:PowTab w) (hbru:BruTab w) (hmax:MaxVar w):Ev.OrcSound Tryz.prog 100 w.heap.size (Below w.heap.size w) (Ev.orcAdd zjH 311 (.bool true)):=
 (zfH w hpow hbru hmax).add rfl ((enters_of Tryz.func311 (by kernel_rfl) rfl) #[]) fun W _ hT=>aw04 W (zaC hpow hT) (zaA hbru hT) (zaB hmax hT)
theorem Aw04 (w:World) (hpow:PowTab w) (hbru:BruTab w) (hmax:MaxVar w):Calls Tryz.prog 310 #[] w fun e w'=>e= .returned (.bool true)∧Below w.heap.size w w':=
 zaL ziG rfl w (zeG w hpow hbru hmax)
theorem zgC (w:World) (hpow:PowTab w) (hbru:BruTab w) (hmax:MaxVar w):Ev.OrcSound Tryz.prog 100 w.heap.size (Below w.heap.size w) ziK:=
 (zeG w hpow hbru hmax).add rfl ((enters_of Tryz.func310 (by kernel_rfl) rfl) #[]) fun W _ hT=>Aw04 W (zaC hpow hT) (zaA hbru hT) (zaB hmax hT)
theorem ziP:Ev.runG Tryz.prog 100 (Ev.orcIn evL ziK) 100000 309 []=some (.bool true):=by kernel_rfl
theorem aw05 (w:World) (hpow:PowTab w) (hbru:BruTab w) (hmax:MaxVar w):Calls Tryz.prog 309 #[] w fun e w'=>e= .returned (.bool true)∧Below w.heap.size w w':=
 zaL ziP rfl w (zgC w hpow hbru hmax)
noncomputable def zhP:Ev.Orc:=Ev.orcAdd (Ev.orcAdd ziK 309 (.bool true)) 307 (.bool true)
theorem zjF:Ev.runG Tryz.prog 100 (Ev.orcIn evL (Ev.orcAdd ziK 309 (.bool true))) 100000 307 []=some (.bool true):=by kernel_rfl
theorem zdH (w:World) (hpow:PowTab w) (hbru:BruTab w) (hmax:MaxVar w):Ev.OrcSound Tryz.prog 100 w.heap.size (Below w.heap.size w) (Ev.orcAdd ziK 309 (.bool true)):=
 (zgC w hpow hbru hmax).add rfl ((enters_of Tryz.func309 (by kernel_rfl) rfl) #[]) fun W _ hT=>aw05 W (zaC hpow hT) (zaA hbru hT) (zaB hmax hT)
theorem Aw05 (w:World) (hpow:PowTab w) (hbru:BruTab w) (hmax:MaxVar w):Calls Tryz.prog 307 #[] w fun e w'=>e= .returned (.bool true)∧Below w.heap.size w w':=
 zaL zjF rfl w (zdH w hpow hbru hmax)
theorem zfP (w:World) (hpow:PowTab w) (hbru:BruTab w) (hmax:MaxVar w):Ev.OrcSound Tryz.prog 100 w.heap.size (Below w.heap.size w) zhP:=
 (zdH w hpow hbru hmax).add rfl ((enters_of Tryz.func307 (by kernel_rfl) rfl) #[]) fun W _ hT=>Aw05 W (zaC hpow hT) (zaA hbru hT) (zaB hmax hT)
theorem zjC:Ev.runG Tryz.prog 100 (Ev.orcIn evL zhP) 100000 306 []=some (.bool true):=by kernel_rfl
theorem aw06 (w:World) (hpow:PowTab w) (hbru:BruTab w) (hmax:MaxVar w):Calls Tryz.prog 306 #[] w fun e w'=>e= .returned (.bool true)∧Below w.heap.size w w':=
 zaL zjC rfl w (zfP w hpow hbru hmax)
noncomputable def ziD:Ev.Orc:=Ev.orcAdd (Ev.orcAdd zhP 306 (.bool true)) 305 (.bool true)
theorem zjG:Ev.runG Tryz.prog 100 (Ev.orcIn evL (Ev.orcAdd zhP 306 (.bool true))) 100000 305 []=some (.bool true):=by kernel_rfl
theorem zeH (w:World) (hpow:PowTab w) (hbru:BruTab w) (hmax:MaxVar w):Ev.OrcSound Tryz.prog 100 w.heap.size (Below w.heap.size w) (Ev.orcAdd zhP 306 (.bool true)):=
 (zfP w hpow hbru hmax).add rfl ((enters_of Tryz.func306 (by kernel_rfl) rfl) #[]) fun W _ hT=>aw06 W (zaC hpow hT) (zaA hbru hT) (zaB hmax hT)
theorem Aw06 (w:World) (hpow:PowTab w) (hbru:BruTab w) (hmax:MaxVar w):Calls Tryz.prog 305 #[] w fun e w'=>e= .returned (.bool true)∧Below w.heap.size w w':=
 zaL zjG rfl w (zeH w hpow hbru hmax)
theorem zfY (w:World) (hpow:PowTab w) (hbru:BruTab w) (hmax:MaxVar w):Ev.OrcSound Tryz.prog 100 w.heap.size (Below w.heap.size w) ziD:=
 (zeH w hpow hbru hmax).add rfl ((enters_of Tryz.func305 (by kernel_rfl) rfl) #[]) fun W _ hT=>Aw06 W (zaC hpow hT) (zaA hbru hT) (zaB hmax hT)
theorem ziT:Ev.runG Tryz.prog 100 (Ev.orcIn evL ziD) 100000 304 []=some (.bool true):=by kernel_rfl
theorem aw07 (w:World) (hpow:PowTab w) (hbru:BruTab w) (hmax:MaxVar w):Calls Tryz.prog 304 #[] w fun e w'=>e= .returned (.bool true)∧Below w.heap.size w w':=
 zaL ziT rfl w (zfY w hpow hbru hmax)
noncomputable def ziR:Ev.Orc:=Ev.orcAdd (Ev.orcAdd ziD 304 (.bool true)) 303 (.bool true)
theorem zgS:Ev.runG Tryz.prog 100 (Ev.orcIn evL (Ev.orcAdd ziD 304 (.bool true))) 100000 303 []=some (.bool true):=by kernel_rfl
theorem zeC (w:World) (hpow:PowTab w) (hbru:BruTab w) (hmax:MaxVar w):Ev.OrcSound Tryz.prog 100 w.heap.size (Below w.heap.size w) (Ev.orcAdd ziD 304 (.bool true)):=
 (zfY w hpow hbru hmax).add rfl ((enters_of Tryz.func304 (by kernel_rfl) rfl) #[]) fun W _ hT=>aw07 W (zaC hpow hT) (zaA hbru hT) (zaB hmax hT)
theorem Aw07 (w:World) (hpow:PowTab w) (hbru:BruTab w) (hmax:MaxVar w):Calls Tryz.prog 303 #[] w fun e w'=>e= .returned (.bool true)∧Below w.heap.size w w':=
 zaL zgS rfl w (zeC w hpow hbru hmax)
theorem zfO (w:World) (hpow:PowTab w) (hbru:BruTab w) (hmax:MaxVar w):Ev.OrcSound Tryz.prog 100 w.heap.size (Below w.heap.size w) ziR:=
 (zeC w hpow hbru hmax).add rfl ((enters_of Tryz.func303 (by kernel_rfl) rfl) #[]) fun W _ hT=>Aw07 W (zaC hpow hT) (zaA hbru hT) (zaB hmax hT)
theorem ziL:Ev.runG Tryz.prog 100 (Ev.orcIn evL ziR) 100000 297 []=some (.bool true):=by kernel_rfl
theorem aw08 (w:World) (hpow:PowTab w) (hbru:BruTab w) (hmax:MaxVar w):Calls Tryz.prog 297 #[] w fun e w'=>e= .returned (.bool true)∧Below w.heap.size w w':=
 zaL ziL rfl w (zfO w hpow hbru hmax)
noncomputable def ziZ:Ev.Orc:=Ev.orcAdd (Ev.orcAdd ziR 297 (.bool true)) 285 (.bool true)
theorem zhC:Ev.runG Tryz.prog 100 (Ev.orcIn evL (Ev.orcAdd ziR 297 (.bool true))) 100000 285 []=some (.bool true):=by kernel_rfl
theorem zdJ (w:World) (hpow:PowTab w) (hbru:BruTab w) (hmax:MaxVar w):Ev.OrcSound Tryz.prog 100 w.heap.size (Below w.heap.size w) (Ev.orcAdd ziR 297 (.bool true)):=
 (zfO w hpow hbru hmax).add rfl ((enters_of Tryz.func297 (by kernel_rfl) rfl) #[]) fun W _ hT=>aw08 W (zaC hpow hT) (zaA hbru hT) (zaB hmax hT)
theorem Aw08 (w:World) (hpow:PowTab w) (hbru:BruTab w) (hmax:MaxVar w):Calls Tryz.prog 285 #[] w fun e w'=>e= .returned (.bool true)∧Below w.heap.size w w':=
 zaL zhC rfl w (zdJ w hpow hbru hmax)
theorem zfU (w:World) (hpow:PowTab w) (hbru:BruTab w) (hmax:MaxVar w):Ev.OrcSound Tryz.prog 100 w.heap.size (Below w.heap.size w) ziZ:=
 (zdJ w hpow hbru hmax).add rfl ((enters_of Tryz.func285 (by kernel_rfl) rfl) #[]) fun W _ hT=>Aw08 W (zaC hpow hT) (zaA hbru hT) (zaB hmax hT)
theorem zhW:Ev.runG Tryz.prog 100 (Ev.orcIn evL ziZ) 100000 273 []=some (.bool true):=by kernel_rfl
theorem aw09 (w:World) (hpow:PowTab w) (hbru:BruTab w) (hmax:MaxVar w):Calls Tryz.prog 273 #[] w fun e w'=>e= .returned (.bool true)∧Below w.heap.size w w':=
 zaL zhW rfl w (zfU w hpow hbru hmax)
noncomputable def zgZ:Ev.Orc:=Ev.orcAdd (Ev.orcAdd ziZ 273 (.bool true)) 261 (.bool true)
theorem zhX:Ev.runG Tryz.prog 100 (Ev.orcIn evL (Ev.orcAdd ziZ 273 (.bool true))) 100000 261 []=some (.bool true):=by kernel_rfl
theorem zdP (w:World) (hpow:PowTab w) (hbru:BruTab w) (hmax:MaxVar w):Ev.OrcSound Tryz.prog 100 w.heap.size (Below w.heap.size w) (Ev.orcAdd ziZ 273 (.bool true)):=
 (zfU w hpow hbru hmax).add rfl ((enters_of Tryz.func273 (by kernel_rfl) rfl) #[]) fun W _ hT=>aw09 W (zaC hpow hT) (zaA hbru hT) (zaB hmax hT)
theorem Aw09 (w:World) (hpow:PowTab w) (hbru:BruTab w) (hmax:MaxVar w):Calls Tryz.prog 261 #[] w fun e w'=>e= .returned (.bool true)∧Below w.heap.size w w':=
 zaL zhX rfl w (zdP w hpow hbru hmax)
theorem zfR (w:World) (hpow:PowTab w) (hbru:BruTab w) (hmax:MaxVar w):Ev.OrcSound Tryz.prog 100 w.heap.size (Below w.heap.size w) zgZ:=
 (zdP w hpow hbru hmax).add rfl ((enters_of Tryz.func261 (by kernel_rfl) rfl) #[]) fun W _ hT=>Aw09 W (zaC hpow hT) (zaA hbru hT) (zaB hmax hT)
theorem zgU:Ev.runG Tryz.prog 100 (Ev.orcIn evL zgZ) 100000 258 []=some (.bool true):=by kernel_rfl
theorem aw10 (w:World) (hpow:PowTab w) (hbru:BruTab w) (hmax:MaxVar w):Calls Tryz.prog 258 #[] w fun e w'=>e= .returned (.bool true)∧Below w.heap.size w w':=
 zaL zgU rfl w (zfR w hpow hbru hmax)
noncomputable def zhR:Ev.Orc:=Ev.orcAdd (Ev.orcAdd zgZ 258 (.bool true)) 257 (.bool true)
theorem zgW:Ev.runG Tryz.prog 100 (Ev.orcIn evL (Ev.orcAdd zgZ 258 (.bool true))) 100000 257 []=some (.bool true):=by kernel_rfl
theorem zdW (w:World) (hpow:PowTab w) (hbru:BruTab w) (hmax:MaxVar w):Ev.OrcSound Tryz.prog 100 w.heap.size (Below w.heap.size w) (Ev.orcAdd zgZ 258 (.bool true)):=
 (zfR w hpow hbru hmax).add rfl ((enters_of Tryz.func258 (by kernel_rfl) rfl) #[]) fun W _ hT=>aw10 W (zaC hpow hT) (zaA hbru hT) (zaB hmax hT)
theorem Aw10 (w:World) (hpow:PowTab w) (hbru:BruTab w) (hmax:MaxVar w):Calls Tryz.prog 257 #[] w fun e w'=>e= .returned (.bool true)∧Below w.heap.size w w':=
 zaL zgW rfl w (zdW w hpow hbru hmax)
theorem zgA (w:World) (hpow:PowTab w) (hbru:BruTab w) (hmax:MaxVar w):Ev.OrcSound Tryz.prog 100 w.heap.size (Below w.heap.size w) zhR:=
 (zdW w hpow hbru hmax).add rfl ((enters_of Tryz.func257 (by kernel_rfl) rfl) #[]) fun W _ hT=>Aw10 W (zaC hpow hT) (zaA hbru hT) (zaB hmax hT)
theorem zjE:Ev.runG Tryz.prog 100 (Ev.orcIn evL zhR) 100000 256 []=some (.bool true):=by kernel_rfl
theorem aw11 (w:World) (hpow:PowTab w) (hbru:BruTab w) (hmax:MaxVar w):Calls Tryz.prog 256 #[] w fun e w'=>e= .returned (.bool true)∧Below w.heap.size w w':=
 zaL zjE rfl w (zgA w hpow hbru hmax)
noncomputable def zhU:Ev.Orc:=Ev.orcAdd (Ev.orcAdd zhR 256 (.bool true)) 252 (.bool true)
theorem zhV:Ev.runG Tryz.prog 100 (Ev.orcIn evL (Ev.orcAdd zhR 256 (.bool true))) 100000 252 []=some (.bool true):=by kernel_rfl
theorem zeF (w:World) (hpow:PowTab w) (hbru:BruTab w) (hmax:MaxVar w):Ev.OrcSound Tryz.prog 100 w.heap.size (Below w.heap.size w) (Ev.orcAdd zhR 256 (.bool true)):=
 (zgA w hpow hbru hmax).add rfl ((enters_of Tryz.func256 (by kernel_rfl) rfl) #[]) fun W _ hT=>aw11 W (zaC hpow hT) (zaA hbru hT) (zaB hmax hT)
theorem Aw11 (w:World) (hpow:PowTab w) (hbru:BruTab w) (hmax:MaxVar w):Calls Tryz.prog 252 #[] w fun e w'=>e= .returned (.bool true)∧Below w.heap.size w w':=
 zaL zhV rfl w (zeF w hpow hbru hmax)
theorem zfG (w:World) (hpow:PowTab w) (hbru:BruTab w) (hmax:MaxVar w):Ev.OrcSound Tryz.prog 100 w.heap.size (Below w.heap.size w) zhU:=
 (zeF w hpow hbru hmax).add rfl ((enters_of Tryz.func252 (by kernel_rfl) rfl) #[]) fun W _ hT=>Aw11 W (zaC hpow hT) (zaA hbru hT) (zaB hmax hT)
theorem ziJ:Ev.runG Tryz.prog 100 (Ev.orcIn evL zhU) 100000 239 []=some (.bool true):=by kernel_rfl
theorem aw12 (w:World) (hpow:PowTab w) (hbru:BruTab w) (hmax:MaxVar w):Calls Tryz.prog 239 #[] w fun e w'=>e= .returned (.bool true)∧Below w.heap.size w w':=
 zaL ziJ rfl w (zfG w hpow hbru hmax)
noncomputable def ziN:Ev.Orc:=Ev.orcAdd (Ev.orcAdd zhU 239 (.bool true)) 220 (.bool true)
theorem zhN:Ev.runG Tryz.prog 100 (Ev.orcIn evL (Ev.orcAdd zhU 239 (.bool true))) 100000 220 []=some (.bool true):=by kernel_rfl
theorem zeE (w:World) (hpow:PowTab w) (hbru:BruTab w) (hmax:MaxVar w):Ev.OrcSound Tryz.prog 100 w.heap.size (Below w.heap.size w) (Ev.orcAdd zhU 239 (.bool true)):=
 (zfG w hpow hbru hmax).add rfl ((enters_of Tryz.func239 (by kernel_rfl) rfl) #[]) fun W _ hT=>aw12 W (zaC hpow hT) (zaA hbru hT) (zaB hmax hT)
theorem Aw12 (w:World) (hpow:PowTab w) (hbru:BruTab w) (hmax:MaxVar w):Calls Tryz.prog 220 #[] w fun e w'=>e= .returned (.bool true)∧Below w.heap.size w w':=
 zaL zhN rfl w (zeE w hpow hbru hmax)
theorem zfD (w:World) (hpow:PowTab w) (hbru:BruTab w) (hmax:MaxVar w):Ev.OrcSound Tryz.prog 100 w.heap.size (Below w.heap.size w) ziN:=
 (zeE w hpow hbru hmax).add rfl ((enters_of Tryz.func220 (by kernel_rfl) rfl) #[]) fun W _ hT=>Aw12 W (zaC hpow hT) (zaA hbru hT) (zaB hmax hT)
theorem zhS:Ev.runG Tryz.prog 100 (Ev.orcIn evL ziN) 100000 193 []=some (.bool true):=by kernel_rfl
theorem aw13 (w:World) (hpow:PowTab w) (hbru:BruTab w) (hmax:MaxVar w):Calls Tryz.prog 193 #[] w fun e w'=>e= .returned (.bool true)∧Below w.heap.size w w':=
 zaL zhS rfl w (zfD w hpow hbru hmax)
noncomputable def zhD:Ev.Orc:=Ev.orcAdd (Ev.orcAdd ziN 193 (.bool true)) 143 (.bool true)
theorem ziS:Ev.runG Tryz.prog 100 (Ev.orcIn evL (Ev.orcAdd ziN 193 (.bool true))) 100000 143 []=some (.bool true):=by kernel_rfl
theorem zdK (w:World) (hpow:PowTab w) (hbru:BruTab w) (hmax:MaxVar w):Ev.OrcSound Tryz.prog 100 w.heap.size (Below w.heap.size w) (Ev.orcAdd ziN 193 (.bool true)):=
 (zfD w hpow hbru hmax).add rfl ((enters_of Tryz.func193 (by kernel_rfl) rfl) #[]) fun W _ hT=>aw13 W (zaC hpow hT) (zaA hbru hT) (zaB hmax hT)
theorem Aw13 (w:World) (hpow:PowTab w) (hbru:BruTab w) (hmax:MaxVar w):Calls Tryz.prog 143 #[] w fun e w'=>e= .returned (.bool true)∧Below w.heap.size w w':=
 zaL ziS rfl w (zdK w hpow hbru hmax)
theorem zgE (w:World) (hpow:PowTab w) (hbru:BruTab w) (hmax:MaxVar w):Ev.OrcSound Tryz.prog 100 w.heap.size (Below w.heap.size w) zhD:=
 (zdK w hpow hbru hmax).add rfl ((enters_of Tryz.func143 (by kernel_rfl) rfl) #[]) fun W _ hT=>Aw13 W (zaC hpow hT) (zaA hbru hT) (zaB hmax hT)
theorem ziQ:Ev.runG Tryz.prog 100 (Ev.orcIn evL zhD) 100000 93 []=some (.bool true):=by kernel_rfl
theorem aw14 (w:World) (hpow:PowTab w) (hbru:BruTab w) (hmax:MaxVar w):Calls Tryz.prog 93 #[] w fun e w'=>e= .returned (.bool true)∧Below w.heap.size w w':=
 zaL ziQ rfl w (zgE w hpow hbru hmax)
noncomputable def ziU:Ev.Orc:=Ev.orcAdd (Ev.orcAdd zhD 93 (.bool true)) 39 (.bool true)
theorem zhB:Ev.runG Tryz.prog 100 (Ev.orcIn evL (Ev.orcAdd zhD 93 (.bool true))) 100000 39 []=some (.bool true):=by kernel_rfl
theorem zdY (w:World) (hpow:PowTab w) (hbru:BruTab w) (hmax:MaxVar w):Ev.OrcSound Tryz.prog 100 w.heap.size (Below w.heap.size w) (Ev.orcAdd zhD 93 (.bool true)):=
 (zgE w hpow hbru hmax).add rfl ((enters_of Tryz.func93 (by kernel_rfl) rfl) #[]) fun W _ hT=>aw14 W (zaC hpow hT) (zaA hbru hT) (zaB hmax hT)
theorem Aw14 (w:World) (hpow:PowTab w) (hbru:BruTab w) (hmax:MaxVar w):Calls Tryz.prog 39 #[] w fun e w'=>e= .returned (.bool true)∧Below w.heap.size w w':=
 zaL zhB rfl w (zdY w hpow hbru hmax)
theorem zfE (w:World) (hpow:PowTab w) (hbru:BruTab w) (hmax:MaxVar w):Ev.OrcSound Tryz.prog 100 w.heap.size (Below w.heap.size w) ziU:=
 (zdY w hpow hbru hmax).add rfl ((enters_of Tryz.func39 (by kernel_rfl) rfl) #[]) fun W _ hT=>Aw14 W (zaC hpow hT) (zaA hbru hT) (zaB hmax hT)
theorem zgY:Ev.runG Tryz.prog 100 (Ev.orcIn evL ziU) 100000 10 []=some (.bool true):=by kernel_rfl
theorem aw15 (w:World) (hpow:PowTab w) (hbru:BruTab w) (hmax:MaxVar w):Calls Tryz.prog 10 #[] w fun e w'=>e= .returned (.bool true)∧Below w.heap.size w w':=
 zaL zgY rfl w (zfE w hpow hbru hmax)
noncomputable def zgX:Ev.Orc:=Ev.orcAdd (Ev.orcAdd ziU 10 (.bool true)) 158 (.bool true)
theorem zjA:Ev.runG Tryz.prog 100 (Ev.orcIn evL (Ev.orcAdd ziU 10 (.bool true))) 100000 158 []=some (.bool true):=by kernel_rfl
theorem zdX (w:World) (hpow:PowTab w) (hbru:BruTab w) (hmax:MaxVar w):Ev.OrcSound Tryz.prog 100 w.heap.size (Below w.heap.size w) (Ev.orcAdd ziU 10 (.bool true)):=
 (zfE w hpow hbru hmax).add rfl ((enters_of Tryz.func10 (by kernel_rfl) rfl) #[]) fun W _ hT=>aw15 W (zaC hpow hT) (zaA hbru hT) (zaB hmax hT)
theorem Aw15 (w:World) (hpow:PowTab w) (hbru:BruTab w) (hmax:MaxVar w):Calls Tryz.prog 158 #[] w fun e w'=>e= .returned (.bool true)∧Below w.heap.size w w':=
 zaL zjA rfl w (zdX w hpow hbru hmax)
theorem zfN (w:World) (hpow:PowTab w) (hbru:BruTab w) (hmax:MaxVar w):Ev.OrcSound Tryz.prog 100 w.heap.size (Below w.heap.size w) zgX:=
 (zdX w hpow hbru hmax).add rfl ((enters_of Tryz.func158 (by kernel_rfl) rfl) #[]) fun W _ hT=>Aw15 W (zaC hpow hT) (zaA hbru hT) (zaB hmax hT)
theorem ziV:Ev.runG Tryz.prog 100 (Ev.orcIn evL zgX) 100000 109 []=some (.bool true):=by kernel_rfl
theorem aw16 (w:World) (hpow:PowTab w) (hbru:BruTab w) (hmax:MaxVar w):Calls Tryz.prog 109 #[] w fun e w'=>e= .returned (.bool true)∧Below w.heap.size w w':=
 zaL ziV rfl w (zfN w hpow hbru hmax)
noncomputable def orc16:Ev.Orc:=Ev.orcAdd (Ev.orcAdd zgX 109 (.bool true)) 59 (.bool true)
theorem ziX:Ev.runG Tryz.prog 100 (Ev.orcIn evL (Ev.orcAdd zgX 109 (.bool true))) 100000 59 []=some (.bool true):=by kernel_rfl
theorem zdM (w:World) (hpow:PowTab w) (hbru:BruTab w) (hmax:MaxVar w):Ev.OrcSound Tryz.prog 100 w.heap.size (Below w.heap.size w) (Ev.orcAdd zgX 109 (.bool true)):=
 (zfN w hpow hbru hmax).add rfl ((enters_of Tryz.func109 (by kernel_rfl) rfl) #[]) fun W _ hT=>aw16 W (zaC hpow hT) (zaA hbru hT) (zaB hmax hT)
theorem Aw16 (w:World) (hpow:PowTab w) (hbru:BruTab w) (hmax:MaxVar w):Calls Tryz.prog 59 #[] w fun e w'=>e= .returned (.bool true)∧Below w.heap.size w w':=
 zaL ziX rfl w (zdM w hpow hbru hmax)
theorem zkO (w:World) (hpow:PowTab w) (hbru:BruTab w) (hmax:MaxVar w):Ev.OrcSound Tryz.prog 100 w.heap.size (Below w.heap.size w) orc16:=
 (zdM w hpow hbru hmax).add rfl ((enters_of Tryz.func59 (by kernel_rfl) rfl) #[]) fun W _ hT=>Aw16 W (zaC hpow hT) (zaA hbru hT) (zaB hmax hT)
theorem ziW:Ev.runG Tryz.prog 100 (Ev.orcIn evL orc16) 100000 20 []=some (.bool true):=by kernel_rfl
theorem aw17 (w:World) (hpow:PowTab w) (hbru:BruTab w) (hmax:MaxVar w):Calls Tryz.prog 20 #[] w fun e w'=>e= .returned (.bool true)∧Below w.heap.size w w':=
 zaL ziW rfl w (zkO w hpow hbru hmax)
end
end Go.Proofs.YtmjappnpedjlnaaGreatDoor
