/-
  What the law ResolveMeets leans on, and its walk (11 of 46).
-/
import Derived.Test.YtmjappnpedjlnaaGreatDoorEvB
import Derived.Shelf.Abstract
import Derived.Test.YtmjappnpedjlnaaGreatDoorResolveMeetsPkE
import Derived.Test.YtmjappnpedjlnaaGreatDoorResolveMeetsPkJ
namespace Go.Proofs.YtmjappnpedjlnaaGreatDoor
set_option maxRecDepth 100000
set_option maxHeartbeats 16000000
section
open Go.RowKit
noncomputable def ynY:Ev.Orc:=Ev.orcWith (Ev.orcWith (Ev.orcWith (Ev.orcWith (Ev.orcWith (Ev.orcWith (Ev.orcWith (Ev.orcWith (Ev.orcWith (Ev.orcNone) 171 Ev.oReplace) 162 Ev.oJoin) 87 Ev.oItoa) 251 Ev.oTz) 235 Ev.oLen) 249 Ev.oCount) 194 Ev.oIndex) 205 Ev.oNoEscape) 203 Ev.oIndexByte
theorem z1J (w:World) (hpow:PowTab w) (hbru:BruTab w) (hmax:MaxVar w):Ev.OrcSound Tryz.prog 100 w.heap.size (Below w.heap.size w) ynY:=by
 refine Ev.orcNone_sound|>.with ?o0|>.with ?o1|>.with ?o2|>.with ?o3|>.with ?o4|>.with ?o5|>.with ?o6|>.with ?o7|>.with ?o8
 case o0=>exact Ev.oReplace_ok (enters_of Tryz.func171 (by kernel_rfl) rfl) fun s o n W hT h1 h2 h3=>by obtain ⟨m,hm⟩:=zaA hmax hT;exact Tryz.strings_ReplaceAll s o n m W h1 hm h2 h3
 case o1=>exact Ev.oJoin_ok (enters_of Tryz.func162 (by kernel_rfl) rfl) fun bk o c xs sep w h1 h2 h3 h4 h5=>Tryz.strings_Join bk o c xs sep w h1 h2 h3 h4 h5
 case o2=>exact Ev.oItoa_ok (enters_of Tryz.func87 (by kernel_rfl) rfl) fun n W hT h1 h2=>(Tryz.strconv_Itoa n h1 h2 W (zaD hpow hT)).mono (by rintro e w' ⟨rfl,k,os,rfl⟩;exact ⟨rfl,Lib.below_grow _ _ (Nat.le_refl _) _ _⟩)
 case o3=>exact Ev.oTz_ok (enters_of Tryz.func251 (by kernel_rfl) rfl) (fun W hT=>(tz64_8 W (zaC hbru hT)).mono fun _ _ h=>⟨h.1,h.2.symm⟩) (fun W hT=>(z6G W (zaC hbru hT)).mono fun _ _ h=>⟨h.1,h.2.symm⟩)
 case o4=>exact Ev.oLen_ok (enters_of Tryz.func235 (by kernel_rfl) rfl) fun x W h1 h2=>Tryz.bits_Len64 x W h1 h2
 case o5=>exact Ev.oCount_ok Tryz.func249 (by kernel_rfl) (by kernel_rfl) (by kernel_rfl) (by kernel_rfl)
 case o6=>exact Ev.oIndex_ok (enters_of Tryz.func194 (by kernel_rfl) rfl) fun s t W hT h=>by obtain ⟨m,hm⟩:=zaA hmax hT;exact Tryz.stringslite_Index s t m W h hm
 case o7=>exact Ev.oNoEscape_ok Tryz.func205 (by kernel_rfl) (by kernel_rfl) (by kernel_rfl) (by kernel_rfl)
 case o8=>exact Ev.oIndexByte_ok Tryz.func203 (by kernel_rfl) (by kernel_rfl) (by kernel_rfl) (by kernel_rfl)
theorem yjI:(Tryz.prog.funcs.toList.all fun f=> !(f.name== "runtime.NumGoroutine"))=true:=by kernel_rfl
theorem zzQ:Ev.NoNum Tryz.prog:=fun g f h=>by
 have:=List.all_eq_true.1 yjI f (by simpa using Array.mem_of_getElem? h)
 simpa using this
theorem zzV:Tryz.prog.follows .mixedOrders=true:=by kernel_rfl
theorem z0D (w:World):Ev.Stays w.heap.size (Below w.heap.size w):=fun _ _ h k=>k.trans h
def evL:List Nat:=[10,20,29,39,59,74,87,93,109,143,158,162,171,193,194,203,205,220,235,239,249,251,252,256,257,258,261,273,280,285,290,293,295,297,303,304,305,306,307,309,310,311,312,313,314,315,316,317]
theorem zbT {orc:Ev.Orc} {n:Nat} {f:FuncId} {v:Value} (h:Ev.runG Tryz.prog 100 (Ev.orcIn evL orc) n f []=some v) (hv:Ev.pf 100 6 v=true) (w:World) (ho:Ev.OrcSound Tryz.prog 100 w.heap.size (Below w.heap.size w) orc):
  Calls Tryz.prog f #[] w fun e w'=>e= .returned v∧Below w.heap.size w w':=
 Ev.runF_sound (z0D w) zzQ zzV (Ev.orcIn_ok evL ho) (Ev.runG_ok h) rfl hv w rfl (Below.refl _ _)
def memoT:List (List UInt8×Nat×Nat×Nat):=[([48,46,48,46,48,46,48,47,56],0,281470681743360,104),
 ([49,48,46,48,46,48,46,48,47,56],0,281470849515520,104),
 ([49,48,48,46,54,52,46,48,46,48,47,49,48],0,281472363659264,106),
 ([49,50,55,46,48,46,48,46,48,47,56],0,281472812449792,104),
 ([49,54,57,46,50,53,52,46,48,46,48,47,49,54],0,281473533739008,112),
 ([49,55,50,46,49,54,46,48,46,48,47,49,50],0,281473568473088,108),
 ([49,57,50,46,48,46,48,46,48,47,50,52],0,281473902968832,120),
 ([49,57,50,46,48,46,50,46,48,47,50,52],0,281473902969344,120),
 ([49,57,50,46,56,56,46,57,57,46,48,47,50,52],0,281473908761344,120),
 ([49,57,50,46,49,54,56,46,48,46,48,47,49,54],0,281473913978880,112),
 ([49,57,56,46,49,56,46,48,46,48,47,49,53],0,281474004811776,111),
 ([49,57,56,46,53,49,46,49,48,48,46,48,47,50,52],0,281474007000064,120),
 ([50,48,51,46,48,46,49,49,51,46,48,47,50,52],0,281474087547136,120),
 ([50,50,52,46,48,46,48,46,48,47,52],0,281474439839744,100),
 ([50,52,48,46,48,46,48,46,48,47,52],0,281474708275200,100),
 ([58,58,47,49,50,56],0,0,128),
 ([58,58,49,47,49,50,56],0,1,128),
 ([54,52,58,102,102,57,98,58,49,58,58,47,52,56],28428538856144896,0,48),
 ([49,48,48,58,58,47,54,52],72057594037927936,0,64),
 ([50,48,48,49,58,58,47,50,51],2306124484190404608,0,23),
 ([50,48,48,49,58,100,98,56,58,58,47,51,50],2306139568115548160,0,32),
 ([51,102,102,102,58,58,47,50,48],4611404543450677248,0,20),
 ([53,102,48,48,58,58,47,49,54],6845471433603153920,0,16),
 ([102,99,48,48,58,58,47,55],18158513697557839872,0,7),
 ([102,101,56,48,58,58,47,49,48],18338657682652659712,0,10),
 ([102,101,99,48,58,58,47,49,48],18356672081162141696,0,10),
 ([102,102,48,48,58,58,47,56],18374686479671623680,0,8)]
def ykV (x:List UInt8×Nat×Nat×Nat):Value:= .tuple ⟨[.agg ⟨[.int .u64 (.ofNat x.2.1),.int .u64 (.ofNat x.2.2.1),.int .i64 (.ofNat x.2.2.2)]⟩,.bool true]⟩
def isPf (r:Option Value) (a b c:Nat):Bool:=match r with
 |some (.tuple ⟨[.agg ⟨[.int .u64 (.ofNat x),.int .u64 (.ofNat y),.int .i64 (.ofNat z)]⟩,.bool true]⟩)=>Nat.beq x a&&(Nat.beq y b&&Nat.beq z c)
 |_=>false
theorem ylN {r:Option Value} {x:List UInt8×Nat×Nat×Nat} (h:isPf r x.2.1 x.2.2.1 x.2.2.2=true):r=some (ykV x):=by
 unfold isPf at h
 split at h
 ·rw [Bool.and_eq_true,Bool.and_eq_true] at h
  unfold ykV
  rw [Nat.eq_of_beq_eq_true h.1,Nat.eq_of_beq_eq_true h.2.1,Nat.eq_of_beq_eq_true h.2.2]
 ·cases h
theorem ybS:(memoT.all fun x=>isPf (Ev.runG Tryz.prog 100 (Ev.orcIn evL ynY) 100000 290 [.string ⟨x.1.toArray⟩]) x.2.1 x.2.2.1 x.2.2.2)=true:=by kernel_rfl
noncomputable def orcM:Ev.Orc:=Ev.orcWith ynY 290 (Ev.oMemo (memoT.map fun x=>(x.1,ykV x)))
theorem ymZ (w:World) (hpow:PowTab w) (hbru:BruTab w) (hmax:MaxVar w):Ev.OrcSound Tryz.prog 100 w.heap.size (Below w.heap.size w) orcM:=by
 refine (z1J w hpow hbru hmax).with (Ev.oMemo_ok (enters_of Tryz.func290 (by kernel_rfl) rfl) (by kernel_rfl) fun x hx W hW hT=> ?_)
 obtain ⟨y,hy,rfl⟩:=List.mem_map.1 hx
 have h:=ylN (List.all_eq_true.1 ybS y hy)
 have h2:=Ev.runF_sound (z0D W) zzQ zzV (Ev.orcIn_ok evL (z1J W (zaD hpow hT) (zaC hbru hT) (zaA hmax hT))) (Ev.runG_ok h) rfl rfl W rfl (Below.refl _ _)
 simpa using h2
def ybW:Ev.OrcH:=fun args _=>match args with
 |[.agg ⟨[.int .u64 (.ofNat hi),.int .u64 (.ofNat lo),.int .i64 (.ofNat n)]⟩]=>(match Nat.blt hi 18446744073709551616&&Nat.blt lo 18446744073709551616 with|true=>some (.bool (zbX (zaR hi lo) (n:Int)))|false=>none)
 |_=>none
theorem z6M {base:Nat} {T:World→Prop}:Ev.OrcFn Tryz.prog 100 base T 280 ybW:=by
 refine Ev.oFn_ok (enters_of Tryz.func280 (by kernel_rfl) rfl) fun args hp v hk=> ?_
 unfold ybW at hk
 split at hk
 ·split at hk
  ·rename_i hc
   cases hk
   simp only [Bool.and_eq_true] at hc
   refine ⟨rfl,rfl,fun W _ _=> ?_⟩
   exact zdI _ _ _ W (Ev.blt_ok hc.1) (Ev.blt_ok hc.2)
  ·cases hk
 ·cases hk
noncomputable def zuI:Ev.Orc:=Ev.orcWith orcM 280 ybW
theorem zwP (w:World) (hpow:PowTab w) (hbru:BruTab w) (hmax:MaxVar w):Ev.OrcSound Tryz.prog 100 w.heap.size (Below w.heap.size w) zuI:=(ymZ w hpow hbru hmax).with z6M
def zxR:Ev.OrcH:=fun args _=>match args with
 |[.agg ⟨[.int .u64 (.ofNat hi),.int .u64 (.ofNat lo),.int .i64 (.ofNat n)]⟩,.agg ⟨[.int .u64 (.ofNat hi2),.int .u64 (.ofNat lo2),.int .i64 (.ofNat m)]⟩]=>(match (Nat.blt hi 18446744073709551616&&Nat.blt lo 18446744073709551616)&&(Nat.blt hi2 18446744073709551616&&Nat.blt lo2 18446744073709551616) with|true=>some (.bool (zeN (zaR hi lo) (n:Int) (zaR hi2 lo2) (m:Int)))|false=>none)
 |_=>none
theorem z3A {base:Nat} {T:World→Prop}:Ev.OrcFn Tryz.prog 100 base T 293 zxR:=by
 refine Ev.oFn_ok (enters_of Tryz.func293 (by kernel_rfl) rfl) fun args hp v hk=> ?_
 unfold zxR at hk
 split at hk
 ·split at hk
  ·rename_i hc
   cases hk
   simp only [Bool.and_eq_true] at hc
   refine ⟨rfl,rfl,fun W _ _=> ?_⟩
   exact z3R _ _ _ _ _ _ W (Ev.blt_ok hc.1.1) (Ev.blt_ok hc.1.2) (Ev.blt_ok hc.2.1) (Ev.blt_ok hc.2.2)
  ·cases hk
 ·cases hk
noncomputable def zpV:Ev.Orc:=Ev.orcWith zuI 293 zxR
theorem zrH (w:World) (hpow:PowTab w) (hbru:BruTab w) (hmax:MaxVar w):Ev.OrcSound Tryz.prog 100 w.heap.size (Below w.heap.size w) zpV:=(zwP w hpow hbru hmax).with z3A
def zyF:Ev.OrcH:=fun args _=>match args with
 |[.agg ⟨[.int .u64 (.ofNat hi),.int .u64 (.ofNat lo),.int .i64 (.ofNat n)]⟩,.agg ⟨[.int .u64 (.ofNat ph),.int .u64 (.ofNat pl),.int .i64 (.ofNat k)]⟩]=>(match ((Nat.blt hi 18446744073709551616&&Nat.blt lo 18446744073709551616)&&(Nat.blt ph 18446744073709551616&&Nat.blt pl 18446744073709551616))&&(Nat.ble n 128&&Nat.ble k 128) with|true=>some (pfW (ofW (zaR ph pl) (zkY (zaR hi lo) n (zaR ph pl) k)) (zkY (zaR hi lo) n (zaR ph pl) k:Nat))|false=>none)
 |_=>none
theorem z3Y {base:Nat} {T:World→Prop}:Ev.OrcFn Tryz.prog 100 base T 295 zyF:=by
 refine Ev.oFn_ok (enters_of Tryz.func295 (by kernel_rfl) rfl) fun args hp v hk=> ?_
 unfold zyF at hk
 split at hk
 ·split at hk
  ·rename_i hc
   cases hk
   simp only [Bool.and_eq_true] at hc
   refine ⟨rfl,rfl,fun W _ _=> ?_⟩
   exact z5D _ _ _ _ _ _ W (Ev.blt_ok hc.1.1.1) (Ev.blt_ok hc.1.1.2) (Ev.blt_ok hc.1.2.1) (Ev.blt_ok hc.1.2.2) (Nat.le_of_ble_eq_true hc.2.1) (Nat.le_of_ble_eq_true hc.2.2)
  ·cases hk
 ·cases hk
noncomputable def zgM:Ev.Orc:=Ev.orcWith zpV 295 zyF
theorem zkO (w:World) (hpow:PowTab w) (hbru:BruTab w) (hmax:MaxVar w):Ev.OrcSound Tryz.prog 100 w.heap.size (Below w.heap.size w) zgM:=(zrH w hpow hbru hmax).with z3Y
theorem z6K:Ev.runG Tryz.prog 100 (Ev.orcIn evL zgM) 100000 317 []=some (.bool true):=by kernel_rfl
theorem aw01 (w:World) (hpow:PowTab w) (hbru:BruTab w) (hmax:MaxVar w):Calls Tryz.prog 317 #[] w fun e w'=>e= .returned (.bool true)∧Below w.heap.size w w':=
 zbT z6K rfl w (zkO w hpow hbru hmax)
noncomputable def yeR:Ev.Orc:=Ev.orcAdd (Ev.orcAdd zgM 317 (.bool true)) 316 (.bool true)
theorem z9Y:Ev.runG Tryz.prog 100 (Ev.orcIn evL (Ev.orcAdd zgM 317 (.bool true))) 100000 316 []=some (.bool true):=by kernel_rfl
theorem zwJ (w:World) (hpow:PowTab w) (hbru:BruTab w) (hmax:MaxVar w):Ev.OrcSound Tryz.prog 100 w.heap.size (Below w.heap.size w) (Ev.orcAdd zgM 317 (.bool true)):=
 (zkO w hpow hbru hmax).add rfl ((enters_of Tryz.func317 (by kernel_rfl) rfl) #[]) fun W _ hT=>aw01 W (zaD hpow hT) (zaC hbru hT) (zaA hmax hT)
theorem Aw01 (w:World) (hpow:PowTab w) (hbru:BruTab w) (hmax:MaxVar w):Calls Tryz.prog 316 #[] w fun e w'=>e= .returned (.bool true)∧Below w.heap.size w w':=
 zbT z9Y rfl w (zwJ w hpow hbru hmax)
theorem z0I (w:World) (hpow:PowTab w) (hbru:BruTab w) (hmax:MaxVar w):Ev.OrcSound Tryz.prog 100 w.heap.size (Below w.heap.size w) yeR:=
 (zwJ w hpow hbru hmax).add rfl ((enters_of Tryz.func316 (by kernel_rfl) rfl) #[]) fun W _ hT=>Aw01 W (zaD hpow hT) (zaC hbru hT) (zaA hmax hT)
theorem yeS:Ev.runG Tryz.prog 100 (Ev.orcIn evL yeR) 100000 315 []=some (.bool true):=by kernel_rfl
theorem aw02 (w:World) (hpow:PowTab w) (hbru:BruTab w) (hmax:MaxVar w):Calls Tryz.prog 315 #[] w fun e w'=>e= .returned (.bool true)∧Below w.heap.size w w':=
 zbT yeS rfl w (z0I w hpow hbru hmax)
noncomputable def z7G:Ev.Orc:=Ev.orcAdd (Ev.orcAdd yeR 315 (.bool true)) 314 (.bool true)
theorem z8X:Ev.runG Tryz.prog 100 (Ev.orcIn evL (Ev.orcAdd yeR 315 (.bool true))) 100000 314 []=some (.bool true):=by kernel_rfl
theorem zuK (w:World) (hpow:PowTab w) (hbru:BruTab w) (hmax:MaxVar w):Ev.OrcSound Tryz.prog 100 w.heap.size (Below w.heap.size w) (Ev.orcAdd yeR 315 (.bool true)):=
 (z0I w hpow hbru hmax).add rfl ((enters_of Tryz.func315 (by kernel_rfl) rfl) #[]) fun W _ hT=>aw02 W (zaD hpow hT) (zaC hbru hT) (zaA hmax hT)
theorem Aw02 (w:World) (hpow:PowTab w) (hbru:BruTab w) (hmax:MaxVar w):Calls Tryz.prog 314 #[] w fun e w'=>e= .returned (.bool true)∧Below w.heap.size w w':=
 zbT z8X rfl w (zuK w hpow hbru hmax)
theorem z1B (w:World) (hpow:PowTab w) (hbru:BruTab w) (hmax:MaxVar w):Ev.OrcSound Tryz.prog 100 w.heap.size (Below w.heap.size w) z7G:=
 (zuK w hpow hbru hmax).add rfl ((enters_of Tryz.func314 (by kernel_rfl) rfl) #[]) fun W _ hT=>Aw02 W (zaD hpow hT) (zaC hbru hT) (zaA hmax hT)
theorem ycZ:Ev.runG Tryz.prog 100 (Ev.orcIn evL z7G) 100000 313 []=some (.bool true):=by kernel_rfl
theorem aw03 (w:World) (hpow:PowTab w) (hbru:BruTab w) (hmax:MaxVar w):Calls Tryz.prog 313 #[] w fun e w'=>e= .returned (.bool true)∧Below w.heap.size w w':=
 zbT ycZ rfl w (z1B w hpow hbru hmax)
noncomputable def z9M:Ev.Orc:=Ev.orcAdd (Ev.orcAdd z7G 313 (.bool true)) 312 (.bool true)
theorem z9F:Ev.runG Tryz.prog 100 (Ev.orcIn evL (Ev.orcAdd z7G 313 (.bool true))) 100000 312 []=some (.bool true):=by kernel_rfl
theorem zwE (w:World) (hpow:PowTab w) (hbru:BruTab w) (hmax:MaxVar w):Ev.OrcSound Tryz.prog 100 w.heap.size (Below w.heap.size w) (Ev.orcAdd z7G 313 (.bool true)):=
 (z1B w hpow hbru hmax).add rfl ((enters_of Tryz.func313 (by kernel_rfl) rfl) #[]) fun W _ hT=>aw03 W (zaD hpow hT) (zaC hbru hT) (zaA hmax hT)
theorem Aw03 (w:World) (hpow:PowTab w) (hbru:BruTab w) (hmax:MaxVar w):Calls Tryz.prog 312 #[] w fun e w'=>e= .returned (.bool true)∧Below w.heap.size w w':=
 zbT z9F rfl w (zwE w hpow hbru hmax)
theorem z0A (w:World) (hpow:PowTab w) (hbru:BruTab w) (hmax:MaxVar w):Ev.OrcSound Tryz.prog 100 w.heap.size (Below w.heap.size w) z9M:=
 (zwE w hpow hbru hmax).add rfl ((enters_of Tryz.func312 (by kernel_rfl) rfl) #[]) fun W _ hT=>Aw03 W (zaD hpow hT) (zaC hbru hT) (zaA hmax hT)
theorem ydC:Ev.runG Tryz.prog 100 (Ev.orcIn evL z9M) 100000 311 []=some (.bool true):=by kernel_rfl
theorem aw04 (w:World) (hpow:PowTab w) (hbru:BruTab w) (hmax:MaxVar w):Calls Tryz.prog 311 #[] w fun e w'=>e= .returned (.bool true)∧Below w.heap.size w w':=
 zbT ydC rfl w (z0A w hpow hbru hmax)
noncomputable def ydB:Ev.Orc:=Ev.orcAdd (Ev.orcAdd z9M 311 (.bool true)) 310 (.bool true)
theorem z9J:Ev.runG Tryz.prog 100 (Ev.orcIn evL (Ev.orcAdd z9M 311 (.bool true))) 100000 310 []=some (.bool true):=by kernel_rfl
theorem zwY (w:World) (hpow:PowTab w) (hbru:BruTab w) (hmax:MaxVar w):Ev.OrcSound Tryz.prog 100 w.heap.size (Below w.heap.size w) (Ev.orcAdd z9M 311 (.bool true)):=
 (z0A w hpow hbru hmax).add rfl ((enters_of Tryz.func311 (by kernel_rfl) rfl) #[]) fun W _ hT=>aw04 W (zaD hpow hT) (zaC hbru hT) (zaA hmax hT)
theorem Aw04 (w:World) (hpow:PowTab w) (hbru:BruTab w) (hmax:MaxVar w):Calls Tryz.prog 310 #[] w fun e w'=>e= .returned (.bool true)∧Below w.heap.size w w':=
 zbT z9J rfl w (zwY w hpow hbru hmax)
theorem z0W (w:World) (hpow:PowTab w) (hbru:BruTab w) (hmax:MaxVar w):Ev.OrcSound Tryz.prog 100 w.heap.size (Below w.heap.size w) ydB:=
 (zwY w hpow hbru hmax).add rfl ((enters_of Tryz.func310 (by kernel_rfl) rfl) #[]) fun W _ hT=>Aw04 W (zaD hpow hT) (zaC hbru hT) (zaA hmax hT)
theorem yeF:Ev.runG Tryz.prog 100 (Ev.orcIn evL ydB) 100000 309 []=some (.bool true):=by kernel_rfl
theorem aw05 (w:World) (hpow:PowTab w) (hbru:BruTab w) (hmax:MaxVar w):Calls Tryz.prog 309 #[] w fun e w'=>e= .returned (.bool true)∧Below w.heap.size w w':=
 zbT yeF rfl w (z0W w hpow hbru hmax)
noncomputable def yaN:Ev.Orc:=Ev.orcAdd (Ev.orcAdd ydB 309 (.bool true)) 307 (.bool true)
theorem ydY:Ev.runG Tryz.prog 100 (Ev.orcIn evL (Ev.orcAdd ydB 309 (.bool true))) 100000 307 []=some (.bool true):=by kernel_rfl
theorem zuR (w:World) (hpow:PowTab w) (hbru:BruTab w) (hmax:MaxVar w):Ev.OrcSound Tryz.prog 100 w.heap.size (Below w.heap.size w) (Ev.orcAdd ydB 309 (.bool true)):=
 (z0W w hpow hbru hmax).add rfl ((enters_of Tryz.func309 (by kernel_rfl) rfl) #[]) fun W _ hT=>aw05 W (zaD hpow hT) (zaC hbru hT) (zaA hmax hT)
theorem Aw05 (w:World) (hpow:PowTab w) (hbru:BruTab w) (hmax:MaxVar w):Calls Tryz.prog 307 #[] w fun e w'=>e= .returned (.bool true)∧Below w.heap.size w w':=
 zbT ydY rfl w (zuR w hpow hbru hmax)
theorem zzP (w:World) (hpow:PowTab w) (hbru:BruTab w) (hmax:MaxVar w):Ev.OrcSound Tryz.prog 100 w.heap.size (Below w.heap.size w) yaN:=
 (zuR w hpow hbru hmax).add rfl ((enters_of Tryz.func307 (by kernel_rfl) rfl) #[]) fun W _ hT=>Aw05 W (zaD hpow hT) (zaC hbru hT) (zaA hmax hT)
theorem yfA:Ev.runG Tryz.prog 100 (Ev.orcIn evL yaN) 100000 306 []=some (.bool true):=by kernel_rfl
theorem aw06 (w:World) (hpow:PowTab w) (hbru:BruTab w) (hmax:MaxVar w):Calls Tryz.prog 306 #[] w fun e w'=>e= .returned (.bool true)∧Below w.heap.size w w':=
 zbT yfA rfl w (zzP w hpow hbru hmax)
noncomputable def z8A:Ev.Orc:=Ev.orcAdd (Ev.orcAdd yaN 306 (.bool true)) 305 (.bool true)
theorem z9W:Ev.runG Tryz.prog 100 (Ev.orcIn evL (Ev.orcAdd yaN 306 (.bool true))) 100000 305 []=some (.bool true):=by kernel_rfl
theorem zuU (w:World) (hpow:PowTab w) (hbru:BruTab w) (hmax:MaxVar w):Ev.OrcSound Tryz.prog 100 w.heap.size (Below w.heap.size w) (Ev.orcAdd yaN 306 (.bool true)):=
 (zzP w hpow hbru hmax).add rfl ((enters_of Tryz.func306 (by kernel_rfl) rfl) #[]) fun W _ hT=>aw06 W (zaD hpow hT) (zaC hbru hT) (zaA hmax hT)
theorem Aw06 (w:World) (hpow:PowTab w) (hbru:BruTab w) (hmax:MaxVar w):Calls Tryz.prog 305 #[] w fun e w'=>e= .returned (.bool true)∧Below w.heap.size w w':=
 zbT z9W rfl w (zuU w hpow hbru hmax)
theorem z2E (w:World) (hpow:PowTab w) (hbru:BruTab w) (hmax:MaxVar w):Ev.OrcSound Tryz.prog 100 w.heap.size (Below w.heap.size w) z8A:=
 (zuU w hpow hbru hmax).add rfl ((enters_of Tryz.func305 (by kernel_rfl) rfl) #[]) fun W _ hT=>Aw06 W (zaD hpow hT) (zaC hbru hT) (zaA hmax hT)
theorem ybD:Ev.runG Tryz.prog 100 (Ev.orcIn evL z8A) 100000 304 []=some (.bool true):=by kernel_rfl
theorem aw07 (w:World) (hpow:PowTab w) (hbru:BruTab w) (hmax:MaxVar w):Calls Tryz.prog 304 #[] w fun e w'=>e= .returned (.bool true)∧Below w.heap.size w w':=
 zbT ybD rfl w (z2E w hpow hbru hmax)
noncomputable def z8I:Ev.Orc:=Ev.orcAdd (Ev.orcAdd z8A 304 (.bool true)) 303 (.bool true)
theorem ydP:Ev.runG Tryz.prog 100 (Ev.orcIn evL (Ev.orcAdd z8A 304 (.bool true))) 100000 303 []=some (.bool true):=by kernel_rfl
theorem zwA (w:World) (hpow:PowTab w) (hbru:BruTab w) (hmax:MaxVar w):Ev.OrcSound Tryz.prog 100 w.heap.size (Below w.heap.size w) (Ev.orcAdd z8A 304 (.bool true)):=
 (z2E w hpow hbru hmax).add rfl ((enters_of Tryz.func304 (by kernel_rfl) rfl) #[]) fun W _ hT=>aw07 W (zaD hpow hT) (zaC hbru hT) (zaA hmax hT)
theorem Aw07 (w:World) (hpow:PowTab w) (hbru:BruTab w) (hmax:MaxVar w):Calls Tryz.prog 303 #[] w fun e w'=>e= .returned (.bool true)∧Below w.heap.size w w':=
 zbT ydP rfl w (zwA w hpow hbru hmax)
theorem zzX (w:World) (hpow:PowTab w) (hbru:BruTab w) (hmax:MaxVar w):Ev.OrcSound Tryz.prog 100 w.heap.size (Below w.heap.size w) z8I:=
 (zwA w hpow hbru hmax).add rfl ((enters_of Tryz.func303 (by kernel_rfl) rfl) #[]) fun W _ hT=>Aw07 W (zaD hpow hT) (zaC hbru hT) (zaA hmax hT)
theorem ycR:Ev.runG Tryz.prog 100 (Ev.orcIn evL z8I) 100000 297 []=some (.bool true):=by kernel_rfl
theorem aw08 (w:World) (hpow:PowTab w) (hbru:BruTab w) (hmax:MaxVar w):Calls Tryz.prog 297 #[] w fun e w'=>e= .returned (.bool true)∧Below w.heap.size w w':=
 zbT ycR rfl w (zzX w hpow hbru hmax)
noncomputable def yaH:Ev.Orc:=Ev.orcAdd (Ev.orcAdd z8I 297 (.bool true)) 285 (.bool true)
theorem yaL:Ev.runG Tryz.prog 100 (Ev.orcIn evL (Ev.orcAdd z8I 297 (.bool true))) 100000 285 []=some (.bool true):=by kernel_rfl
theorem ztJ (w:World) (hpow:PowTab w) (hbru:BruTab w) (hmax:MaxVar w):Ev.OrcSound Tryz.prog 100 w.heap.size (Below w.heap.size w) (Ev.orcAdd z8I 297 (.bool true)):=
 (zzX w hpow hbru hmax).add rfl ((enters_of Tryz.func297 (by kernel_rfl) rfl) #[]) fun W _ hT=>aw08 W (zaD hpow hT) (zaC hbru hT) (zaA hmax hT)
theorem Aw08 (w:World) (hpow:PowTab w) (hbru:BruTab w) (hmax:MaxVar w):Calls Tryz.prog 285 #[] w fun e w'=>e= .returned (.bool true)∧Below w.heap.size w w':=
 zbT yaL rfl w (ztJ w hpow hbru hmax)
theorem z0Y (w:World) (hpow:PowTab w) (hbru:BruTab w) (hmax:MaxVar w):Ev.OrcSound Tryz.prog 100 w.heap.size (Below w.heap.size w) yaH:=
 (ztJ w hpow hbru hmax).add rfl ((enters_of Tryz.func285 (by kernel_rfl) rfl) #[]) fun W _ hT=>Aw08 W (zaD hpow hT) (zaC hbru hT) (zaA hmax hT)
theorem ybI:Ev.runG Tryz.prog 100 (Ev.orcIn evL yaH) 100000 273 []=some (.bool true):=by kernel_rfl
theorem aw09 (w:World) (hpow:PowTab w) (hbru:BruTab w) (hmax:MaxVar w):Calls Tryz.prog 273 #[] w fun e w'=>e= .returned (.bool true)∧Below w.heap.size w w':=
 zbT ybI rfl w (z0Y w hpow hbru hmax)
noncomputable def z8J:Ev.Orc:=Ev.orcAdd (Ev.orcAdd yaH 273 (.bool true)) 261 (.bool true)
theorem yeN:Ev.runG Tryz.prog 100 (Ev.orcIn evL (Ev.orcAdd yaH 273 (.bool true))) 100000 261 []=some (.bool true):=by kernel_rfl
theorem ztX (w:World) (hpow:PowTab w) (hbru:BruTab w) (hmax:MaxVar w):Ev.OrcSound Tryz.prog 100 w.heap.size (Below w.heap.size w) (Ev.orcAdd yaH 273 (.bool true)):=
 (z0Y w hpow hbru hmax).add rfl ((enters_of Tryz.func273 (by kernel_rfl) rfl) #[]) fun W _ hT=>aw09 W (zaD hpow hT) (zaC hbru hT) (zaA hmax hT)
theorem Aw09 (w:World) (hpow:PowTab w) (hbru:BruTab w) (hmax:MaxVar w):Calls Tryz.prog 261 #[] w fun e w'=>e= .returned (.bool true)∧Below w.heap.size w w':=
 zbT yeN rfl w (ztX w hpow hbru hmax)
theorem z2M (w:World) (hpow:PowTab w) (hbru:BruTab w) (hmax:MaxVar w):Ev.OrcSound Tryz.prog 100 w.heap.size (Below w.heap.size w) z8J:=
 (ztX w hpow hbru hmax).add rfl ((enters_of Tryz.func261 (by kernel_rfl) rfl) #[]) fun W _ hT=>Aw09 W (zaD hpow hT) (zaC hbru hT) (zaA hmax hT)
theorem z6V:Ev.runG Tryz.prog 100 (Ev.orcIn evL z8J) 100000 258 []=some (.bool true):=by kernel_rfl
theorem aw10 (w:World) (hpow:PowTab w) (hbru:BruTab w) (hmax:MaxVar w):Calls Tryz.prog 258 #[] w fun e w'=>e= .returned (.bool true)∧Below w.heap.size w w':=
 zbT z6V rfl w (z2M w hpow hbru hmax)
noncomputable def yaE:Ev.Orc:=Ev.orcAdd (Ev.orcAdd z8J 258 (.bool true)) 257 (.bool true)
theorem z8V:Ev.runG Tryz.prog 100 (Ev.orcIn evL (Ev.orcAdd z8J 258 (.bool true))) 100000 257 []=some (.bool true):=by kernel_rfl
theorem zuY (w:World) (hpow:PowTab w) (hbru:BruTab w) (hmax:MaxVar w):Ev.OrcSound Tryz.prog 100 w.heap.size (Below w.heap.size w) (Ev.orcAdd z8J 258 (.bool true)):=
 (z2M w hpow hbru hmax).add rfl ((enters_of Tryz.func258 (by kernel_rfl) rfl) #[]) fun W _ hT=>aw10 W (zaD hpow hT) (zaC hbru hT) (zaA hmax hT)
theorem Aw10 (w:World) (hpow:PowTab w) (hbru:BruTab w) (hmax:MaxVar w):Calls Tryz.prog 257 #[] w fun e w'=>e= .returned (.bool true)∧Below w.heap.size w w':=
 zbT z8V rfl w (zuY w hpow hbru hmax)
theorem zzO (w:World) (hpow:PowTab w) (hbru:BruTab w) (hmax:MaxVar w):Ev.OrcSound Tryz.prog 100 w.heap.size (Below w.heap.size w) yaE:=
 (zuY w hpow hbru hmax).add rfl ((enters_of Tryz.func257 (by kernel_rfl) rfl) #[]) fun W _ hT=>Aw10 W (zaD hpow hT) (zaC hbru hT) (zaA hmax hT)
theorem yeG:Ev.runG Tryz.prog 100 (Ev.orcIn evL yaE) 100000 256 []=some (.bool true):=by kernel_rfl
theorem aw11 (w:World) (hpow:PowTab w) (hbru:BruTab w) (hmax:MaxVar w):Calls Tryz.prog 256 #[] w fun e w'=>e= .returned (.bool true)∧Below w.heap.size w w':=
 zbT yeG rfl w (zzO w hpow hbru hmax)
noncomputable def yeV:Ev.Orc:=Ev.orcAdd (Ev.orcAdd yaE 256 (.bool true)) 252 (.bool true)
theorem z6W:Ev.runG Tryz.prog 100 (Ev.orcIn evL (Ev.orcAdd yaE 256 (.bool true))) 100000 252 []=some (.bool true):=by kernel_rfl
theorem zuX (w:World) (hpow:PowTab w) (hbru:BruTab w) (hmax:MaxVar w):Ev.OrcSound Tryz.prog 100 w.heap.size (Below w.heap.size w) (Ev.orcAdd yaE 256 (.bool true)):=
 (zzO w hpow hbru hmax).add rfl ((enters_of Tryz.func256 (by kernel_rfl) rfl) #[]) fun W _ hT=>aw11 W (zaD hpow hT) (zaC hbru hT) (zaA hmax hT)
theorem Aw11 (w:World) (hpow:PowTab w) (hbru:BruTab w) (hmax:MaxVar w):Calls Tryz.prog 252 #[] w fun e w'=>e= .returned (.bool true)∧Below w.heap.size w w':=
 zbT z6W rfl w (zuX w hpow hbru hmax)
theorem z0F (w:World) (hpow:PowTab w) (hbru:BruTab w) (hmax:MaxVar w):Ev.OrcSound Tryz.prog 100 w.heap.size (Below w.heap.size w) yeV:=
 (zuX w hpow hbru hmax).add rfl ((enters_of Tryz.func252 (by kernel_rfl) rfl) #[]) fun W _ hT=>Aw11 W (zaD hpow hT) (zaC hbru hT) (zaA hmax hT)
theorem yeP:Ev.runG Tryz.prog 100 (Ev.orcIn evL yeV) 100000 239 []=some (.bool true):=by kernel_rfl
theorem aw12 (w:World) (hpow:PowTab w) (hbru:BruTab w) (hmax:MaxVar w):Calls Tryz.prog 239 #[] w fun e w'=>e= .returned (.bool true)∧Below w.heap.size w w':=
 zbT yeP rfl w (z0F w hpow hbru hmax)
noncomputable def ybU:Ev.Orc:=Ev.orcAdd (Ev.orcAdd yeV 239 (.bool true)) 220 (.bool true)
theorem ycF:Ev.runG Tryz.prog 100 (Ev.orcIn evL (Ev.orcAdd yeV 239 (.bool true))) 100000 220 []=some (.bool true):=by kernel_rfl
theorem zwK (w:World) (hpow:PowTab w) (hbru:BruTab w) (hmax:MaxVar w):Ev.OrcSound Tryz.prog 100 w.heap.size (Below w.heap.size w) (Ev.orcAdd yeV 239 (.bool true)):=
 (z0F w hpow hbru hmax).add rfl ((enters_of Tryz.func239 (by kernel_rfl) rfl) #[]) fun W _ hT=>aw12 W (zaD hpow hT) (zaC hbru hT) (zaA hmax hT)
theorem Aw12 (w:World) (hpow:PowTab w) (hbru:BruTab w) (hmax:MaxVar w):Calls Tryz.prog 220 #[] w fun e w'=>e= .returned (.bool true)∧Below w.heap.size w w':=
 zbT ycF rfl w (zwK w hpow hbru hmax)
theorem z1M (w:World) (hpow:PowTab w) (hbru:BruTab w) (hmax:MaxVar w):Ev.OrcSound Tryz.prog 100 w.heap.size (Below w.heap.size w) ybU:=
 (zwK w hpow hbru hmax).add rfl ((enters_of Tryz.func220 (by kernel_rfl) rfl) #[]) fun W _ hT=>Aw12 W (zaD hpow hT) (zaC hbru hT) (zaA hmax hT)
theorem yaJ:Ev.runG Tryz.prog 100 (Ev.orcIn evL ybU) 100000 193 []=some (.bool true):=by kernel_rfl
theorem aw13 (w:World) (hpow:PowTab w) (hbru:BruTab w) (hmax:MaxVar w):Calls Tryz.prog 193 #[] w fun e w'=>e= .returned (.bool true)∧Below w.heap.size w w':=
 zbT yaJ rfl w (z1M w hpow hbru hmax)
noncomputable def ydG:Ev.Orc:=Ev.orcAdd (Ev.orcAdd ybU 193 (.bool true)) 143 (.bool true)
theorem yaW:Ev.runG Tryz.prog 100 (Ev.orcIn evL (Ev.orcAdd ybU 193 (.bool true))) 100000 143 []=some (.bool true):=by kernel_rfl
theorem ztN (w:World) (hpow:PowTab w) (hbru:BruTab w) (hmax:MaxVar w):Ev.OrcSound Tryz.prog 100 w.heap.size (Below w.heap.size w) (Ev.orcAdd ybU 193 (.bool true)):=
 (z1M w hpow hbru hmax).add rfl ((enters_of Tryz.func193 (by kernel_rfl) rfl) #[]) fun W _ hT=>aw13 W (zaD hpow hT) (zaC hbru hT) (zaA hmax hT)
theorem Aw13 (w:World) (hpow:PowTab w) (hbru:BruTab w) (hmax:MaxVar w):Calls Tryz.prog 143 #[] w fun e w'=>e= .returned (.bool true)∧Below w.heap.size w w':=
 zbT yaW rfl w (ztN w hpow hbru hmax)
theorem z0E (w:World) (hpow:PowTab w) (hbru:BruTab w) (hmax:MaxVar w):Ev.OrcSound Tryz.prog 100 w.heap.size (Below w.heap.size w) ydG:=
 (ztN w hpow hbru hmax).add rfl ((enters_of Tryz.func143 (by kernel_rfl) rfl) #[]) fun W _ hT=>Aw13 W (zaD hpow hT) (zaC hbru hT) (zaA hmax hT)
theorem yeM:Ev.runG Tryz.prog 100 (Ev.orcIn evL ydG) 100000 93 []=some (.bool true):=by kernel_rfl
theorem aw14 (w:World) (hpow:PowTab w) (hbru:BruTab w) (hmax:MaxVar w):Calls Tryz.prog 93 #[] w fun e w'=>e= .returned (.bool true)∧Below w.heap.size w w':=
 zbT yeM rfl w (z0E w hpow hbru hmax)
noncomputable def z9H:Ev.Orc:=Ev.orcAdd (Ev.orcAdd ydG 93 (.bool true)) 39 (.bool true)
theorem ybH:Ev.runG Tryz.prog 100 (Ev.orcIn evL (Ev.orcAdd ydG 93 (.bool true))) 100000 39 []=some (.bool true):=by kernel_rfl
theorem zwM (w:World) (hpow:PowTab w) (hbru:BruTab w) (hmax:MaxVar w):Ev.OrcSound Tryz.prog 100 w.heap.size (Below w.heap.size w) (Ev.orcAdd ydG 93 (.bool true)):=
 (z0E w hpow hbru hmax).add rfl ((enters_of Tryz.func93 (by kernel_rfl) rfl) #[]) fun W _ hT=>aw14 W (zaD hpow hT) (zaC hbru hT) (zaA hmax hT)
theorem Aw14 (w:World) (hpow:PowTab w) (hbru:BruTab w) (hmax:MaxVar w):Calls Tryz.prog 39 #[] w fun e w'=>e= .returned (.bool true)∧Below w.heap.size w w':=
 zbT ybH rfl w (zwM w hpow hbru hmax)
theorem z1I (w:World) (hpow:PowTab w) (hbru:BruTab w) (hmax:MaxVar w):Ev.OrcSound Tryz.prog 100 w.heap.size (Below w.heap.size w) z9H:=
 (zwM w hpow hbru hmax).add rfl ((enters_of Tryz.func39 (by kernel_rfl) rfl) #[]) fun W _ hT=>Aw14 W (zaD hpow hT) (zaC hbru hT) (zaA hmax hT)
theorem z9S:Ev.runG Tryz.prog 100 (Ev.orcIn evL z9H) 100000 10 []=some (.bool true):=by kernel_rfl
theorem aw15 (w:World) (hpow:PowTab w) (hbru:BruTab w) (hmax:MaxVar w):Calls Tryz.prog 10 #[] w fun e w'=>e= .returned (.bool true)∧Below w.heap.size w w':=
 zbT z9S rfl w (z1I w hpow hbru hmax)
noncomputable def z9R:Ev.Orc:=Ev.orcAdd (Ev.orcAdd z9H 10 (.bool true)) 158 (.bool true)
theorem ycQ:Ev.runG Tryz.prog 100 (Ev.orcIn evL (Ev.orcAdd z9H 10 (.bool true))) 100000 158 []=some (.bool true):=by kernel_rfl
theorem zvR (w:World) (hpow:PowTab w) (hbru:BruTab w) (hmax:MaxVar w):Ev.OrcSound Tryz.prog 100 w.heap.size (Below w.heap.size w) (Ev.orcAdd z9H 10 (.bool true)):=
 (z1I w hpow hbru hmax).add rfl ((enters_of Tryz.func10 (by kernel_rfl) rfl) #[]) fun W _ hT=>aw15 W (zaD hpow hT) (zaC hbru hT) (zaA hmax hT)
theorem Aw15 (w:World) (hpow:PowTab w) (hbru:BruTab w) (hmax:MaxVar w):Calls Tryz.prog 158 #[] w fun e w'=>e= .returned (.bool true)∧Below w.heap.size w w':=
 zbT ycQ rfl w (zvR w hpow hbru hmax)
theorem z0T (w:World) (hpow:PowTab w) (hbru:BruTab w) (hmax:MaxVar w):Ev.OrcSound Tryz.prog 100 w.heap.size (Below w.heap.size w) z9R:=
 (zvR w hpow hbru hmax).add rfl ((enters_of Tryz.func158 (by kernel_rfl) rfl) #[]) fun W _ hT=>Aw15 W (zaD hpow hT) (zaC hbru hT) (zaA hmax hT)
theorem z9E:Ev.runG Tryz.prog 100 (Ev.orcIn evL z9R) 100000 109 []=some (.bool true):=by kernel_rfl
theorem aw16 (w:World) (hpow:PowTab w) (hbru:BruTab w) (hmax:MaxVar w):Calls Tryz.prog 109 #[] w fun e w'=>e= .returned (.bool true)∧Below w.heap.size w w':=
 zbT z9E rfl w (z0T w hpow hbru hmax)
noncomputable def orc16:Ev.Orc:=Ev.orcAdd (Ev.orcAdd z9R 109 (.bool true)) 59 (.bool true)
theorem ycH:Ev.runG Tryz.prog 100 (Ev.orcIn evL (Ev.orcAdd z9R 109 (.bool true))) 100000 59 []=some (.bool true):=by kernel_rfl
theorem zwC (w:World) (hpow:PowTab w) (hbru:BruTab w) (hmax:MaxVar w):Ev.OrcSound Tryz.prog 100 w.heap.size (Below w.heap.size w) (Ev.orcAdd z9R 109 (.bool true)):=
 (z0T w hpow hbru hmax).add rfl ((enters_of Tryz.func109 (by kernel_rfl) rfl) #[]) fun W _ hT=>aw16 W (zaD hpow hT) (zaC hbru hT) (zaA hmax hT)
theorem Aw16 (w:World) (hpow:PowTab w) (hbru:BruTab w) (hmax:MaxVar w):Calls Tryz.prog 59 #[] w fun e w'=>e= .returned (.bool true)∧Below w.heap.size w w':=
 zbT ycH rfl w (zwC w hpow hbru hmax)
theorem yiQ (w:World) (hpow:PowTab w) (hbru:BruTab w) (hmax:MaxVar w):Ev.OrcSound Tryz.prog 100 w.heap.size (Below w.heap.size w) orc16:=
 (zwC w hpow hbru hmax).add rfl ((enters_of Tryz.func59 (by kernel_rfl) rfl) #[]) fun W _ hT=>Aw16 W (zaD hpow hT) (zaC hbru hT) (zaA hmax hT)
theorem ycW:Ev.runG Tryz.prog 100 (Ev.orcIn evL orc16) 100000 20 []=some (.bool true):=by kernel_rfl
theorem aw17 (w:World) (hpow:PowTab w) (hbru:BruTab w) (hmax:MaxVar w):Calls Tryz.prog 20 #[] w fun e w'=>e= .returned (.bool true)∧Below w.heap.size w w':=
 zbT ycW rfl w (yiQ w hpow hbru hmax)
end
end Go.Proofs.YtmjappnpedjlnaaGreatDoor
