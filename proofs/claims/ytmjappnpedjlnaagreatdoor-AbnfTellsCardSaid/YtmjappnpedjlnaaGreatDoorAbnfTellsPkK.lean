/-
  What the law AbnfTells leans on, and its walk (11 of 27).
-/
import Derived.Test.YtmjappnpedjlnaaGreatDoorEvB
import Derived.Shelf.Abstract
import Derived.Test.YtmjappnpedjlnaaGreatDoorAbnfTellsPkE
import Derived.Test.YtmjappnpedjlnaaGreatDoorAbnfTellsPkJ
namespace Go.Proofs.YtmjappnpedjlnaaGreatDoor
set_option maxRecDepth 100000
set_option maxHeartbeats 16000000
section
open Go.RowKit
noncomputable def zwO:Ev.Orc:=Ev.orcWith (Ev.orcWith (Ev.orcWith (Ev.orcWith (Ev.orcWith (Ev.orcWith (Ev.orcWith (Ev.orcWith (Ev.orcWith (Ev.orcNone) 171 Ev.oReplace) 162 Ev.oJoin) 87 Ev.oItoa) 251 Ev.oTz) 235 Ev.oLen) 249 Ev.oCount) 194 Ev.oIndex) 205 Ev.oNoEscape) 203 Ev.oIndexByte
theorem znJ (w:World) (hpow:PowTab w) (hbru:BruTab w) (hmax:MaxVar w):Ev.OrcSound Tryz.prog 100 w.heap.size (Below w.heap.size w) zwO:=by
 refine Ev.orcNone_sound|>.with ?o0|>.with ?o1|>.with ?o2|>.with ?o3|>.with ?o4|>.with ?o5|>.with ?o6|>.with ?o7|>.with ?o8
 case o0=>exact Ev.oReplace_ok (enters_of Tryz.func171 (by kernel_rfl) rfl) fun s o n W hT h1 h2 h3=>by obtain ⟨m,hm⟩:=zaC hmax hT;exact Tryz.strings_ReplaceAll s o n m W h1 hm h2 h3
 case o1=>exact Ev.oJoin_ok (enters_of Tryz.func162 (by kernel_rfl) rfl) fun bk o c xs sep w h1 h2 h3 h4 h5=>Tryz.strings_Join bk o c xs sep w h1 h2 h3 h4 h5
 case o2=>exact Ev.oItoa_ok (enters_of Tryz.func87 (by kernel_rfl) rfl) fun n W hT h1 h2=>(Tryz.strconv_Itoa n h1 h2 W (zaE hpow hT)).mono (by rintro e w' ⟨rfl,k,os,rfl⟩;exact ⟨rfl,Lib.below_grow _ _ (Nat.le_refl _) _ _⟩)
 case o3=>exact Ev.oTz_ok (enters_of Tryz.func251 (by kernel_rfl) rfl) (fun W hT=>(tz64_8 W (zaD hbru hT)).mono fun _ _ h=>⟨h.1,h.2.symm⟩) (fun W hT=>(zvW W (zaD hbru hT)).mono fun _ _ h=>⟨h.1,h.2.symm⟩)
 case o4=>exact Ev.oLen_ok (enters_of Tryz.func235 (by kernel_rfl) rfl) fun x W h1 h2=>Tryz.bits_Len64 x W h1 h2
 case o5=>exact Ev.oCount_ok Tryz.func249 (by kernel_rfl) (by kernel_rfl) (by kernel_rfl) (by kernel_rfl)
 case o6=>exact Ev.oIndex_ok (enters_of Tryz.func194 (by kernel_rfl) rfl) fun s t W hT h=>by obtain ⟨m,hm⟩:=zaC hmax hT;exact Tryz.stringslite_Index s t m W h hm
 case o7=>exact Ev.oNoEscape_ok Tryz.func205 (by kernel_rfl) (by kernel_rfl) (by kernel_rfl) (by kernel_rfl)
 case o8=>exact Ev.oIndexByte_ok Tryz.func203 (by kernel_rfl) (by kernel_rfl) (by kernel_rfl) (by kernel_rfl)
theorem ztW:(Tryz.prog.funcs.toList.all fun f=> !(f.name== "runtime.NumGoroutine"))=true:=by kernel_rfl
theorem zmS:Ev.NoNum Tryz.prog:=fun g f h=>by
 have:=List.all_eq_true.1 ztW f (by simpa using Array.mem_of_getElem? h)
 simpa using this
theorem zoE:Tryz.prog.follows .mixedOrders=true:=by kernel_rfl
theorem znU (w:World):Ev.Stays w.heap.size (Below w.heap.size w):=fun _ _ h k=>k.trans h
def evL:List Nat:=[10,20,29,39,59,74,87,93,109,143,158,162,171,193,194,203,205,220,235,239,249,251,252,256,257,258,261,273,280,285,290,293,295,297,303,304,305,306,307,309,310,311,312,313,314,315,316,317]
theorem zbP {orc:Ev.Orc} {n:Nat} {f:FuncId} {v:Value} (h:Ev.runG Tryz.prog 100 (Ev.orcIn evL orc) n f []=some v) (hv:Ev.pf 100 6 v=true) (w:World) (ho:Ev.OrcSound Tryz.prog 100 w.heap.size (Below w.heap.size w) orc):
  Calls Tryz.prog f #[] w fun e w'=>e= .returned v∧Below w.heap.size w w':=
 Ev.runF_sound (znU w) zmS zoE (Ev.orcIn_ok evL ho) (Ev.runG_ok h) rfl hv w rfl (Below.refl _ _)
def memoT:List (List UInt8×Nat×Nat×Nat):=[([48,46,48,46,48,46,48,47,56],0,281470681743360,104),
 ([49,48,46,48,46,48,46,48,47,56],0,281470849515520,104),
 ([49,48,48,46,54,52,46,48,46,48,47,49,48],0,281472363659264,106),
 ([49,50,55,46,48,46,48,46,48,47,56],0,281472812449792,104),
 ([49,54,57,46,50,53,52,46,48,46,48,47,49,54],0,281473533739008,112),
 ([49,55,50,46,49,54,46,48,46,48,47,49,50],0,281473568473088,108),
 ([49,57,50,46,48,46,48,46,48,47,50,52],0,281473902968832,120),
 ([49,57,50,46,48,46,50,46,48,47,50,52],0,281473902969344,120),
 ([49,57,50,46,56,56,46,57,57,46,48,47,50,52],0,281473908761344,120),
 ([49,57,50,46,49,54,56,46,48,46,48,47,49,54],0,281473913978880,112),
 ([49,57,56,46,49,56,46,48,46,48,47,49,53],0,281474004811776,111),
 ([49,57,56,46,53,49,46,49,48,48,46,48,47,50,52],0,281474007000064,120),
 ([50,48,51,46,48,46,49,49,51,46,48,47,50,52],0,281474087547136,120),
 ([50,50,52,46,48,46,48,46,48,47,52],0,281474439839744,100),
 ([50,52,48,46,48,46,48,46,48,47,52],0,281474708275200,100),
 ([58,58,47,49,50,56],0,0,128),
 ([58,58,49,47,49,50,56],0,1,128),
 ([54,52,58,102,102,57,98,58,49,58,58,47,52,56],28428538856144896,0,48),
 ([49,48,48,58,58,47,54,52],72057594037927936,0,64),
 ([50,48,48,49,58,58,47,50,51],2306124484190404608,0,23),
 ([50,48,48,49,58,100,98,56,58,58,47,51,50],2306139568115548160,0,32),
 ([51,102,102,102,58,58,47,50,48],4611404543450677248,0,20),
 ([53,102,48,48,58,58,47,49,54],6845471433603153920,0,16),
 ([102,99,48,48,58,58,47,55],18158513697557839872,0,7),
 ([102,101,56,48,58,58,47,49,48],18338657682652659712,0,10),
 ([102,101,99,48,58,58,47,49,48],18356672081162141696,0,10),
 ([102,102,48,48,58,58,47,56],18374686479671623680,0,8)]
def zwL (x:List UInt8×Nat×Nat×Nat):Value:= .tuple ⟨[.agg ⟨[.int .u64 (.ofNat x.2.1),.int .u64 (.ofNat x.2.2.1),.int .i64 (.ofNat x.2.2.2)]⟩,.bool true]⟩
def isPf (r:Option Value) (a b c:Nat):Bool:=match r with
 |some (.tuple ⟨[.agg ⟨[.int .u64 (.ofNat x),.int .u64 (.ofNat y),.int .i64 (.ofNat z)]⟩,.bool true]⟩)=>Nat.beq x a&&(Nat.beq y b&&Nat.beq z c)
 |_=>false
theorem zvV {r:Option Value} {x:List UInt8×Nat×Nat×Nat} (h:isPf r x.2.1 x.2.2.1 x.2.2.2=true):r=some (zwL x):=by
 unfold isPf at h
 split at h
 ·rw [Bool.and_eq_true,Bool.and_eq_true] at h
  unfold zwL
  rw [Nat.eq_of_beq_eq_true h.1,Nat.eq_of_beq_eq_true h.2.1,Nat.eq_of_beq_eq_true h.2.2]
 ·cases h
theorem zsY:(memoT.all fun x=>isPf (Ev.runG Tryz.prog 100 (Ev.orcIn evL zwO) 100000 290 [.string ⟨x.1.toArray⟩]) x.2.1 x.2.2.1 x.2.2.2)=true:=by kernel_rfl
noncomputable def orcM:Ev.Orc:=Ev.orcWith zwO 290 (Ev.oMemo (memoT.map fun x=>(x.1,zwL x)))
theorem zvP (w:World) (hpow:PowTab w) (hbru:BruTab w) (hmax:MaxVar w):Ev.OrcSound Tryz.prog 100 w.heap.size (Below w.heap.size w) orcM:=by
 refine (znJ w hpow hbru hmax).with (Ev.oMemo_ok (enters_of Tryz.func290 (by kernel_rfl) rfl) (by kernel_rfl) fun x hx W hW hT=> ?_)
 obtain ⟨y,hy,rfl⟩:=List.mem_map.1 hx
 have h:=zvV (List.all_eq_true.1 zsY y hy)
 have h2:=Ev.runF_sound (znU W) zmS zoE (Ev.orcIn_ok evL (znJ W (zaE hpow hT) (zaD hbru hT) (zaC hmax hT))) (Ev.runG_ok h) rfl rfl W rfl (Below.refl _ _)
 simpa using h2
def zsQ:Ev.OrcH:=fun args _=>match args with
 |[.agg ⟨[.int .u64 (.ofNat hi),.int .u64 (.ofNat lo),.int .i64 (.ofNat n)]⟩]=>(match Nat.blt hi 18446744073709551616&&Nat.blt lo 18446744073709551616 with|true=>some (.bool (zbM (zaL hi lo) (n:Int)))|false=>none)
 |_=>none
theorem zpW {base:Nat} {T:World→Prop}:Ev.OrcFn Tryz.prog 100 base T 280 zsQ:=by
 refine Ev.oFn_ok (enters_of Tryz.func280 (by kernel_rfl) rfl) fun args hp v hk=> ?_
 unfold zsQ at hk
 split at hk
 ·split at hk
  ·rename_i hc
   cases hk
   simp only [Bool.and_eq_true] at hc
   refine ⟨rfl,rfl,fun W _ _=> ?_⟩
   exact zcC _ _ _ W (Ev.blt_ok hc.1) (Ev.blt_ok hc.2)
  ·cases hk
 ·cases hk
noncomputable def zlK:Ev.Orc:=Ev.orcWith orcM 280 zsQ
theorem zkM (w:World) (hpow:PowTab w) (hbru:BruTab w) (hmax:MaxVar w):Ev.OrcSound Tryz.prog 100 w.heap.size (Below w.heap.size w) zlK:=(zvP w hpow hbru hmax).with zpW
def zlX:Ev.OrcH:=fun args _=>match args with
 |[.agg ⟨[.int .u64 (.ofNat hi),.int .u64 (.ofNat lo),.int .i64 (.ofNat n)]⟩,.agg ⟨[.int .u64 (.ofNat hi2),.int .u64 (.ofNat lo2),.int .i64 (.ofNat m)]⟩]=>(match (Nat.blt hi 18446744073709551616&&Nat.blt lo 18446744073709551616)&&(Nat.blt hi2 18446744073709551616&&Nat.blt lo2 18446744073709551616) with|true=>some (.bool (zcX (zaL hi lo) (n:Int) (zaL hi2 lo2) (m:Int)))|false=>none)
 |_=>none
theorem zoT {base:Nat} {T:World→Prop}:Ev.OrcFn Tryz.prog 100 base T 293 zlX:=by
 refine Ev.oFn_ok (enters_of Tryz.func293 (by kernel_rfl) rfl) fun args hp v hk=> ?_
 unfold zlX at hk
 split at hk
 ·split at hk
  ·rename_i hc
   cases hk
   simp only [Bool.and_eq_true] at hc
   refine ⟨rfl,rfl,fun W _ _=> ?_⟩
   exact zoN _ _ _ _ _ _ W (Ev.blt_ok hc.1.1) (Ev.blt_ok hc.1.2) (Ev.blt_ok hc.2.1) (Ev.blt_ok hc.2.2)
  ·cases hk
 ·cases hk
noncomputable def ziN:Ev.Orc:=Ev.orcWith zlK 293 zlX
theorem zjE (w:World) (hpow:PowTab w) (hbru:BruTab w) (hmax:MaxVar w):Ev.OrcSound Tryz.prog 100 w.heap.size (Below w.heap.size w) ziN:=(zkM w hpow hbru hmax).with zoT
def zlQ:Ev.OrcH:=fun args _=>match args with
 |[.agg ⟨[.int .u64 (.ofNat hi),.int .u64 (.ofNat lo),.int .i64 (.ofNat n)]⟩,.agg ⟨[.int .u64 (.ofNat ph),.int .u64 (.ofNat pl),.int .i64 (.ofNat k)]⟩]=>(match ((Nat.blt hi 18446744073709551616&&Nat.blt lo 18446744073709551616)&&(Nat.blt ph 18446744073709551616&&Nat.blt pl 18446744073709551616))&&(Nat.ble n 128&&Nat.ble k 128) with|true=>some (pfW (ofW (zaL ph pl) (zfV (zaL hi lo) n (zaL ph pl) k)) (zfV (zaL hi lo) n (zaL ph pl) k:Nat))|false=>none)
 |_=>none
theorem zpD {base:Nat} {T:World→Prop}:Ev.OrcFn Tryz.prog 100 base T 295 zlQ:=by
 refine Ev.oFn_ok (enters_of Tryz.func295 (by kernel_rfl) rfl) fun args hp v hk=> ?_
 unfold zlQ at hk
 split at hk
 ·split at hk
  ·rename_i hc
   cases hk
   simp only [Bool.and_eq_true] at hc
   refine ⟨rfl,rfl,fun W _ _=> ?_⟩
   exact zoR _ _ _ _ _ _ W (Ev.blt_ok hc.1.1.1) (Ev.blt_ok hc.1.1.2) (Ev.blt_ok hc.1.2.1) (Ev.blt_ok hc.1.2.2) (Nat.le_of_ble_eq_true hc.2.1) (Nat.le_of_ble_eq_true hc.2.2)
  ·cases hk
 ·cases hk
noncomputable def zdT:Ev.Orc:=Ev.orcWith ziN 295 zlQ
theorem zfT (w:World) (hpow:PowTab w) (hbru:BruTab w) (hmax:MaxVar w):Ev.OrcSound Tryz.prog 100 w.heap.size (Below w.heap.size w) zdT:=(zjE w hpow hbru hmax).with zpD
theorem zrB:Ev.runG Tryz.prog 100 (Ev.orcIn evL zdT) 100000 317 []=some (.bool true):=by kernel_rfl
theorem aw01 (w:World) (hpow:PowTab w) (hbru:BruTab w) (hmax:MaxVar w):Calls Tryz.prog 317 #[] w fun e w'=>e= .returned (.bool true)∧Below w.heap.size w w':=
 zbP zrB rfl w (zfT w hpow hbru hmax)
noncomputable def zsL:Ev.Orc:=Ev.orcAdd (Ev.orcAdd zdT 317 (.bool true)) 316 (.bool true)
theorem zqW:Ev.runG Tryz.prog 100 (Ev.orcIn evL (Ev.orcAdd zdT 317 (.bool true))) 100000 316 []=some (.bool true):=by kernel_rfl
theorem zlB (w:World) (hpow:PowTab w) (hbru:BruTab w) (hmax:MaxVar w):Ev.OrcSound Tryz.prog 100 w.heap.size (Below w.heap.size w) (Ev.orcAdd zdT 317 (.bool true)):=
 (zfT w hpow hbru hmax).add rfl ((enters_of Tryz.func317 (by kernel_rfl) rfl) #[]) fun W _ hT=>aw01 W (zaE hpow hT) (zaD hbru hT) (zaC hmax hT)
theorem Aw01 (w:World) (hpow:PowTab w) (hbru:BruTab w) (hmax:MaxVar w):Calls Tryz.prog 316 #[] w fun e w'=>e= .returned (.bool true)∧Below w.heap.size w w':=
 zbP zqW rfl w (zlB w hpow hbru hmax)
theorem zoA (w:World) (hpow:PowTab w) (hbru:BruTab w) (hmax:MaxVar w):Ev.OrcSound Tryz.prog 100 w.heap.size (Below w.heap.size w) zsL:=
 (zlB w hpow hbru hmax).add rfl ((enters_of Tryz.func316 (by kernel_rfl) rfl) #[]) fun W _ hT=>Aw01 W (zaE hpow hT) (zaD hbru hT) (zaC hmax hT)
theorem zqH:Ev.runG Tryz.prog 100 (Ev.orcIn evL zsL) 100000 315 []=some (.bool true):=by kernel_rfl
theorem aw02 (w:World) (hpow:PowTab w) (hbru:BruTab w) (hmax:MaxVar w):Calls Tryz.prog 315 #[] w fun e w'=>e= .returned (.bool true)∧Below w.heap.size w w':=
 zbP zqH rfl w (zoA w hpow hbru hmax)
noncomputable def zqP:Ev.Orc:=Ev.orcAdd (Ev.orcAdd zsL 315 (.bool true)) 314 (.bool true)
theorem zsU:Ev.runG Tryz.prog 100 (Ev.orcIn evL (Ev.orcAdd zsL 315 (.bool true))) 100000 314 []=some (.bool true):=by kernel_rfl
theorem zkS (w:World) (hpow:PowTab w) (hbru:BruTab w) (hmax:MaxVar w):Ev.OrcSound Tryz.prog 100 w.heap.size (Below w.heap.size w) (Ev.orcAdd zsL 315 (.bool true)):=
 (zoA w hpow hbru hmax).add rfl ((enters_of Tryz.func315 (by kernel_rfl) rfl) #[]) fun W _ hT=>aw02 W (zaE hpow hT) (zaD hbru hT) (zaC hmax hT)
theorem Aw02 (w:World) (hpow:PowTab w) (hbru:BruTab w) (hmax:MaxVar w):Calls Tryz.prog 314 #[] w fun e w'=>e= .returned (.bool true)∧Below w.heap.size w w':=
 zbP zsU rfl w (zkS w hpow hbru hmax)
theorem znW (w:World) (hpow:PowTab w) (hbru:BruTab w) (hmax:MaxVar w):Ev.OrcSound Tryz.prog 100 w.heap.size (Below w.heap.size w) zqP:=
 (zkS w hpow hbru hmax).add rfl ((enters_of Tryz.func314 (by kernel_rfl) rfl) #[]) fun W _ hT=>Aw02 W (zaE hpow hT) (zaD hbru hT) (zaC hmax hT)
theorem zrQ:Ev.runG Tryz.prog 100 (Ev.orcIn evL zqP) 100000 313 []=some (.bool true):=by kernel_rfl
theorem aw03 (w:World) (hpow:PowTab w) (hbru:BruTab w) (hmax:MaxVar w):Calls Tryz.prog 313 #[] w fun e w'=>e= .returned (.bool true)∧Below w.heap.size w w':=
 zbP zrQ rfl w (znW w hpow hbru hmax)
noncomputable def zsG:Ev.Orc:=Ev.orcAdd (Ev.orcAdd zqP 313 (.bool true)) 312 (.bool true)
theorem zpV:Ev.runG Tryz.prog 100 (Ev.orcIn evL (Ev.orcAdd zqP 313 (.bool true))) 100000 312 []=some (.bool true):=by kernel_rfl
theorem zkZ (w:World) (hpow:PowTab w) (hbru:BruTab w) (hmax:MaxVar w):Ev.OrcSound Tryz.prog 100 w.heap.size (Below w.heap.size w) (Ev.orcAdd zqP 313 (.bool true)):=
 (znW w hpow hbru hmax).add rfl ((enters_of Tryz.func313 (by kernel_rfl) rfl) #[]) fun W _ hT=>aw03 W (zaE hpow hT) (zaD hbru hT) (zaC hmax hT)
theorem Aw03 (w:World) (hpow:PowTab w) (hbru:BruTab w) (hmax:MaxVar w):Calls Tryz.prog 312 #[] w fun e w'=>e= .returned (.bool true)∧Below w.heap.size w w':=
 zbP zpV rfl w (zkZ w hpow hbru hmax)
theorem znF (w:World) (hpow:PowTab w) (hbru:BruTab w) (hmax:MaxVar w):Ev.OrcSound Tryz.prog 100 w.heap.size (Below w.heap.size w) zsG:=
 (zkZ w hpow hbru hmax).add rfl ((enters_of Tryz.func312 (by kernel_rfl) rfl) #[]) fun W _ hT=>Aw03 W (zaE hpow hT) (zaD hbru hT) (zaC hmax hT)
theorem zsC:Ev.runG Tryz.prog 100 (Ev.orcIn evL zsG) 100000 311 []=some (.bool true):=by kernel_rfl
theorem aw04 (w:World) (hpow:PowTab w) (hbru:BruTab w) (hmax:MaxVar w):Calls Tryz.prog 311 #[] w fun e w'=>e= .returned (.bool true)∧Below w.heap.size w w':=
 zbP zsC rfl w (znF w hpow hbru hmax)
noncomputable def zsE:Ev.Orc:=Ev.orcAdd (Ev.orcAdd zsG 311 (.bool true)) 310 (.bool true)
theorem zqM:Ev.runG Tryz.prog 100 (Ev.orcIn evL (Ev.orcAdd zsG 311 (.bool true))) 100000 310 []=some (.bool true):=by kernel_rfl
theorem zlA (w:World) (hpow:PowTab w) (hbru:BruTab w) (hmax:MaxVar w):Ev.OrcSound Tryz.prog 100 w.heap.size (Below w.heap.size w) (Ev.orcAdd zsG 311 (.bool true)):=
 (znF w hpow hbru hmax).add rfl ((enters_of Tryz.func311 (by kernel_rfl) rfl) #[]) fun W _ hT=>aw04 W (zaE hpow hT) (zaD hbru hT) (zaC hmax hT)
theorem Aw04 (w:World) (hpow:PowTab w) (hbru:BruTab w) (hmax:MaxVar w):Calls Tryz.prog 310 #[] w fun e w'=>e= .returned (.bool true)∧Below w.heap.size w w':=
 zbP zqM rfl w (zlA w hpow hbru hmax)
theorem zoD (w:World) (hpow:PowTab w) (hbru:BruTab w) (hmax:MaxVar w):Ev.OrcSound Tryz.prog 100 w.heap.size (Below w.heap.size w) zsE:=
 (zlA w hpow hbru hmax).add rfl ((enters_of Tryz.func310 (by kernel_rfl) rfl) #[]) fun W _ hT=>Aw04 W (zaE hpow hT) (zaD hbru hT) (zaC hmax hT)
theorem zpU:Ev.runG Tryz.prog 100 (Ev.orcIn evL zsE) 100000 309 []=some (.bool true):=by kernel_rfl
theorem aw05 (w:World) (hpow:PowTab w) (hbru:BruTab w) (hmax:MaxVar w):Calls Tryz.prog 309 #[] w fun e w'=>e= .returned (.bool true)∧Below w.heap.size w w':=
 zbP zpU rfl w (zoD w hpow hbru hmax)
noncomputable def zrN:Ev.Orc:=Ev.orcAdd (Ev.orcAdd zsE 309 (.bool true)) 307 (.bool true)
theorem zsI:Ev.runG Tryz.prog 100 (Ev.orcIn evL (Ev.orcAdd zsE 309 (.bool true))) 100000 307 []=some (.bool true):=by kernel_rfl
theorem zkV (w:World) (hpow:PowTab w) (hbru:BruTab w) (hmax:MaxVar w):Ev.OrcSound Tryz.prog 100 w.heap.size (Below w.heap.size w) (Ev.orcAdd zsE 309 (.bool true)):=
 (zoD w hpow hbru hmax).add rfl ((enters_of Tryz.func309 (by kernel_rfl) rfl) #[]) fun W _ hT=>aw05 W (zaE hpow hT) (zaD hbru hT) (zaC hmax hT)
theorem Aw05 (w:World) (hpow:PowTab w) (hbru:BruTab w) (hmax:MaxVar w):Calls Tryz.prog 307 #[] w fun e w'=>e= .returned (.bool true)∧Below w.heap.size w w':=
 zbP zsI rfl w (zkV w hpow hbru hmax)
theorem znK (w:World) (hpow:PowTab w) (hbru:BruTab w) (hmax:MaxVar w):Ev.OrcSound Tryz.prog 100 w.heap.size (Below w.heap.size w) zrN:=
 (zkV w hpow hbru hmax).add rfl ((enters_of Tryz.func307 (by kernel_rfl) rfl) #[]) fun W _ hT=>Aw05 W (zaE hpow hT) (zaD hbru hT) (zaC hmax hT)
theorem zsT:Ev.runG Tryz.prog 100 (Ev.orcIn evL zrN) 100000 306 []=some (.bool true):=by kernel_rfl
theorem aw06 (w:World) (hpow:PowTab w) (hbru:BruTab w) (hmax:MaxVar w):Calls Tryz.prog 306 #[] w fun e w'=>e= .returned (.bool true)∧Below w.heap.size w w':=
 zbP zsT rfl w (znK w hpow hbru hmax)
noncomputable def zrK:Ev.Orc:=Ev.orcAdd (Ev.orcAdd zrN 306 (.bool true)) 305 (.bool true)
theorem zrG:Ev.runG Tryz.prog 100 (Ev.orcIn evL (Ev.orcAdd zrN 306 (.bool true))) 100000 305 []=some (.bool true):=by kernel_rfl
theorem zkK (w:World) (hpow:PowTab w) (hbru:BruTab w) (hmax:MaxVar w):Ev.OrcSound Tryz.prog 100 w.heap.size (Below w.heap.size w) (Ev.orcAdd zrN 306 (.bool true)):=
 (znK w hpow hbru hmax).add rfl ((enters_of Tryz.func306 (by kernel_rfl) rfl) #[]) fun W _ hT=>aw06 W (zaE hpow hT) (zaD hbru hT) (zaC hmax hT)
theorem Aw06 (w:World) (hpow:PowTab w) (hbru:BruTab w) (hmax:MaxVar w):Calls Tryz.prog 305 #[] w fun e w'=>e= .returned (.bool true)∧Below w.heap.size w w':=
 zbP zrG rfl w (zkK w hpow hbru hmax)
theorem znR (w:World) (hpow:PowTab w) (hbru:BruTab w) (hmax:MaxVar w):Ev.OrcSound Tryz.prog 100 w.heap.size (Below w.heap.size w) zrK:=
 (zkK w hpow hbru hmax).add rfl ((enters_of Tryz.func305 (by kernel_rfl) rfl) #[]) fun W _ hT=>Aw06 W (zaE hpow hT) (zaD hbru hT) (zaC hmax hT)
theorem zpX:Ev.runG Tryz.prog 100 (Ev.orcIn evL zrK) 100000 304 []=some (.bool true):=by kernel_rfl
theorem aw07 (w:World) (hpow:PowTab w) (hbru:BruTab w) (hmax:MaxVar w):Calls Tryz.prog 304 #[] w fun e w'=>e= .returned (.bool true)∧Below w.heap.size w w':=
 zbP zpX rfl w (znR w hpow hbru hmax)
noncomputable def zsZ:Ev.Orc:=Ev.orcAdd (Ev.orcAdd zrK 304 (.bool true)) 303 (.bool true)
theorem zsV:Ev.runG Tryz.prog 100 (Ev.orcIn evL (Ev.orcAdd zrK 304 (.bool true))) 100000 303 []=some (.bool true):=by kernel_rfl
theorem zkH (w:World) (hpow:PowTab w) (hbru:BruTab w) (hmax:MaxVar w):Ev.OrcSound Tryz.prog 100 w.heap.size (Below w.heap.size w) (Ev.orcAdd zrK 304 (.bool true)):=
 (znR w hpow hbru hmax).add rfl ((enters_of Tryz.func304 (by kernel_rfl) rfl) #[]) fun W _ hT=>aw07 W (zaE hpow hT) (zaD hbru hT) (zaC hmax hT)
theorem Aw07 (w:World) (hpow:PowTab w) (hbru:BruTab w) (hmax:MaxVar w):Calls Tryz.prog 303 #[] w fun e w'=>e= .returned (.bool true)∧Below w.heap.size w w':=
 zbP zsV rfl w (zkH w hpow hbru hmax)
theorem znI (w:World) (hpow:PowTab w) (hbru:BruTab w) (hmax:MaxVar w):Ev.OrcSound Tryz.prog 100 w.heap.size (Below w.heap.size w) zsZ:=
 (zkH w hpow hbru hmax).add rfl ((enters_of Tryz.func303 (by kernel_rfl) rfl) #[]) fun W _ hT=>Aw07 W (zaE hpow hT) (zaD hbru hT) (zaC hmax hT)
theorem zsJ:Ev.runG Tryz.prog 100 (Ev.orcIn evL zsZ) 100000 297 []=some (.bool true):=by kernel_rfl
theorem aw08 (w:World) (hpow:PowTab w) (hbru:BruTab w) (hmax:MaxVar w):Calls Tryz.prog 297 #[] w fun e w'=>e= .returned (.bool true)∧Below w.heap.size w w':=
 zbP zsJ rfl w (znI w hpow hbru hmax)
noncomputable def zqY:Ev.Orc:=Ev.orcAdd (Ev.orcAdd zsZ 297 (.bool true)) 285 (.bool true)
theorem zrA:Ev.runG Tryz.prog 100 (Ev.orcIn evL (Ev.orcAdd zsZ 297 (.bool true))) 100000 285 []=some (.bool true):=by kernel_rfl
theorem zlJ (w:World) (hpow:PowTab w) (hbru:BruTab w) (hmax:MaxVar w):Ev.OrcSound Tryz.prog 100 w.heap.size (Below w.heap.size w) (Ev.orcAdd zsZ 297 (.bool true)):=
 (znI w hpow hbru hmax).add rfl ((enters_of Tryz.func297 (by kernel_rfl) rfl) #[]) fun W _ hT=>aw08 W (zaE hpow hT) (zaD hbru hT) (zaC hmax hT)
theorem Aw08 (w:World) (hpow:PowTab w) (hbru:BruTab w) (hmax:MaxVar w):Calls Tryz.prog 285 #[] w fun e w'=>e= .returned (.bool true)∧Below w.heap.size w w':=
 zbP zrA rfl w (zlJ w hpow hbru hmax)
theorem znC (w:World) (hpow:PowTab w) (hbru:BruTab w) (hmax:MaxVar w):Ev.OrcSound Tryz.prog 100 w.heap.size (Below w.heap.size w) zqY:=
 (zlJ w hpow hbru hmax).add rfl ((enters_of Tryz.func285 (by kernel_rfl) rfl) #[]) fun W _ hT=>Aw08 W (zaE hpow hT) (zaD hbru hT) (zaC hmax hT)
theorem zrR:Ev.runG Tryz.prog 100 (Ev.orcIn evL zqY) 100000 273 []=some (.bool true):=by kernel_rfl
theorem aw09 (w:World) (hpow:PowTab w) (hbru:BruTab w) (hmax:MaxVar w):Calls Tryz.prog 273 #[] w fun e w'=>e= .returned (.bool true)∧Below w.heap.size w w':=
 zbP zrR rfl w (znC w hpow hbru hmax)
noncomputable def zqC:Ev.Orc:=Ev.orcAdd (Ev.orcAdd zqY 273 (.bool true)) 261 (.bool true)
theorem zpR:Ev.runG Tryz.prog 100 (Ev.orcIn evL (Ev.orcAdd zqY 273 (.bool true))) 100000 261 []=some (.bool true):=by kernel_rfl
theorem zkG (w:World) (hpow:PowTab w) (hbru:BruTab w) (hmax:MaxVar w):Ev.OrcSound Tryz.prog 100 w.heap.size (Below w.heap.size w) (Ev.orcAdd zqY 273 (.bool true)):=
 (znC w hpow hbru hmax).add rfl ((enters_of Tryz.func273 (by kernel_rfl) rfl) #[]) fun W _ hT=>aw09 W (zaE hpow hT) (zaD hbru hT) (zaC hmax hT)
theorem Aw09 (w:World) (hpow:PowTab w) (hbru:BruTab w) (hmax:MaxVar w):Calls Tryz.prog 261 #[] w fun e w'=>e= .returned (.bool true)∧Below w.heap.size w w':=
 zbP zpR rfl w (zkG w hpow hbru hmax)
theorem znY (w:World) (hpow:PowTab w) (hbru:BruTab w) (hmax:MaxVar w):Ev.OrcSound Tryz.prog 100 w.heap.size (Below w.heap.size w) zqC:=
 (zkG w hpow hbru hmax).add rfl ((enters_of Tryz.func261 (by kernel_rfl) rfl) #[]) fun W _ hT=>Aw09 W (zaE hpow hT) (zaD hbru hT) (zaC hmax hT)
theorem zrM:Ev.runG Tryz.prog 100 (Ev.orcIn evL zqC) 100000 258 []=some (.bool true):=by kernel_rfl
theorem aw10 (w:World) (hpow:PowTab w) (hbru:BruTab w) (hmax:MaxVar w):Calls Tryz.prog 258 #[] w fun e w'=>e= .returned (.bool true)∧Below w.heap.size w w':=
 zbP zrM rfl w (znY w hpow hbru hmax)
noncomputable def zqK:Ev.Orc:=Ev.orcAdd (Ev.orcAdd zqC 258 (.bool true)) 257 (.bool true)
theorem zsP:Ev.runG Tryz.prog 100 (Ev.orcIn evL (Ev.orcAdd zqC 258 (.bool true))) 100000 257 []=some (.bool true):=by kernel_rfl
theorem zkX (w:World) (hpow:PowTab w) (hbru:BruTab w) (hmax:MaxVar w):Ev.OrcSound Tryz.prog 100 w.heap.size (Below w.heap.size w) (Ev.orcAdd zqC 258 (.bool true)):=
 (znY w hpow hbru hmax).add rfl ((enters_of Tryz.func258 (by kernel_rfl) rfl) #[]) fun W _ hT=>aw10 W (zaE hpow hT) (zaD hbru hT) (zaC hmax hT)
theorem Aw10 (w:World) (hpow:PowTab w) (hbru:BruTab w) (hmax:MaxVar w):Calls Tryz.prog 257 #[] w fun e w'=>e= .returned (.bool true)∧Below w.heap.size w w':=
 zbP zsP rfl w (zkX w hpow hbru hmax)
theorem zoH (w:World) (hpow:PowTab w) (hbru:BruTab w) (hmax:MaxVar w):Ev.OrcSound Tryz.prog 100 w.heap.size (Below w.heap.size w) zqK:=
 (zkX w hpow hbru hmax).add rfl ((enters_of Tryz.func257 (by kernel_rfl) rfl) #[]) fun W _ hT=>Aw10 W (zaE hpow hT) (zaD hbru hT) (zaC hmax hT)
theorem zrX:Ev.runG Tryz.prog 100 (Ev.orcIn evL zqK) 100000 256 []=some (.bool true):=by kernel_rfl
theorem aw11 (w:World) (hpow:PowTab w) (hbru:BruTab w) (hmax:MaxVar w):Calls Tryz.prog 256 #[] w fun e w'=>e= .returned (.bool true)∧Below w.heap.size w w':=
 zbP zrX rfl w (zoH w hpow hbru hmax)
noncomputable def zsK:Ev.Orc:=Ev.orcAdd (Ev.orcAdd zqK 256 (.bool true)) 252 (.bool true)
theorem zsF:Ev.runG Tryz.prog 100 (Ev.orcIn evL (Ev.orcAdd zqK 256 (.bool true))) 100000 252 []=some (.bool true):=by kernel_rfl
theorem zjZ (w:World) (hpow:PowTab w) (hbru:BruTab w) (hmax:MaxVar w):Ev.OrcSound Tryz.prog 100 w.heap.size (Below w.heap.size w) (Ev.orcAdd zqK 256 (.bool true)):=
 (zoH w hpow hbru hmax).add rfl ((enters_of Tryz.func256 (by kernel_rfl) rfl) #[]) fun W _ hT=>aw11 W (zaE hpow hT) (zaD hbru hT) (zaC hmax hT)
theorem Aw11 (w:World) (hpow:PowTab w) (hbru:BruTab w) (hmax:MaxVar w):Calls Tryz.prog 252 #[] w fun e w'=>e= .returned (.bool true)∧Below w.heap.size w w':=
 zbP zsF rfl w (zjZ w hpow hbru hmax)
theorem znG (w:World) (hpow:PowTab w) (hbru:BruTab w) (hmax:MaxVar w):Ev.OrcSound Tryz.prog 100 w.heap.size (Below w.heap.size w) zsK:=
 (zjZ w hpow hbru hmax).add rfl ((enters_of Tryz.func252 (by kernel_rfl) rfl) #[]) fun W _ hT=>Aw11 W (zaE hpow hT) (zaD hbru hT) (zaC hmax hT)
theorem zrU:Ev.runG Tryz.prog 100 (Ev.orcIn evL zsK) 100000 239 []=some (.bool true):=by kernel_rfl
theorem aw12 (w:World) (hpow:PowTab w) (hbru:BruTab w) (hmax:MaxVar w):Calls Tryz.prog 239 #[] w fun e w'=>e= .returned (.bool true)∧Below w.heap.size w w':=
 zbP zrU rfl w (znG w hpow hbru hmax)
noncomputable def zsR:Ev.Orc:=Ev.orcAdd (Ev.orcAdd zsK 239 (.bool true)) 220 (.bool true)
theorem zqU:Ev.runG Tryz.prog 100 (Ev.orcIn evL (Ev.orcAdd zsK 239 (.bool true))) 100000 220 []=some (.bool true):=by kernel_rfl
theorem zkL (w:World) (hpow:PowTab w) (hbru:BruTab w) (hmax:MaxVar w):Ev.OrcSound Tryz.prog 100 w.heap.size (Below w.heap.size w) (Ev.orcAdd zsK 239 (.bool true)):=
 (znG w hpow hbru hmax).add rfl ((enters_of Tryz.func239 (by kernel_rfl) rfl) #[]) fun W _ hT=>aw12 W (zaE hpow hT) (zaD hbru hT) (zaC hmax hT)
theorem Aw12 (w:World) (hpow:PowTab w) (hbru:BruTab w) (hmax:MaxVar w):Calls Tryz.prog 220 #[] w fun e w'=>e= .returned (.bool true)∧Below w.heap.size w w':=
 zbP zqU rfl w (zkL w hpow hbru hmax)
theorem znS (w:World) (hpow:PowTab w) (hbru:BruTab w) (hmax:MaxVar w):Ev.OrcSound Tryz.prog 100 w.heap.size (Below w.heap.size w) zsR:=
 (zkL w hpow hbru hmax).add rfl ((enters_of Tryz.func220 (by kernel_rfl) rfl) #[]) fun W _ hT=>Aw12 W (zaE hpow hT) (zaD hbru hT) (zaC hmax hT)
theorem zrZ:Ev.runG Tryz.prog 100 (Ev.orcIn evL zsR) 100000 193 []=some (.bool true):=by kernel_rfl
theorem aw13 (w:World) (hpow:PowTab w) (hbru:BruTab w) (hmax:MaxVar w):Calls Tryz.prog 193 #[] w fun e w'=>e= .returned (.bool true)∧Below w.heap.size w w':=
 zbP zrZ rfl w (znS w hpow hbru hmax)
noncomputable def zsD:Ev.Orc:=Ev.orcAdd (Ev.orcAdd zsR 193 (.bool true)) 143 (.bool true)
theorem zsW:Ev.runG Tryz.prog 100 (Ev.orcIn evL (Ev.orcAdd zsR 193 (.bool true))) 100000 143 []=some (.bool true):=by kernel_rfl
theorem zjY (w:World) (hpow:PowTab w) (hbru:BruTab w) (hmax:MaxVar w):Ev.OrcSound Tryz.prog 100 w.heap.size (Below w.heap.size w) (Ev.orcAdd zsR 193 (.bool true)):=
 (znS w hpow hbru hmax).add rfl ((enters_of Tryz.func193 (by kernel_rfl) rfl) #[]) fun W _ hT=>aw13 W (zaE hpow hT) (zaD hbru hT) (zaC hmax hT)
theorem Aw13 (w:World) (hpow:PowTab w) (hbru:BruTab w) (hmax:MaxVar w):Calls Tryz.prog 143 #[] w fun e w'=>e= .returned (.bool true)∧Below w.heap.size w w':=
 zbP zsW rfl w (zjY w hpow hbru hmax)
theorem zoG (w:World) (hpow:PowTab w) (hbru:BruTab w) (hmax:MaxVar w):Ev.OrcSound Tryz.prog 100 w.heap.size (Below w.heap.size w) zsD:=
 (zjY w hpow hbru hmax).add rfl ((enters_of Tryz.func143 (by kernel_rfl) rfl) #[]) fun W _ hT=>Aw13 W (zaE hpow hT) (zaD hbru hT) (zaC hmax hT)
theorem zrV:Ev.runG Tryz.prog 100 (Ev.orcIn evL zsD) 100000 93 []=some (.bool true):=by kernel_rfl
theorem aw14 (w:World) (hpow:PowTab w) (hbru:BruTab w) (hmax:MaxVar w):Calls Tryz.prog 93 #[] w fun e w'=>e= .returned (.bool true)∧Below w.heap.size w w':=
 zbP zrV rfl w (zoG w hpow hbru hmax)
noncomputable def orc14:Ev.Orc:=Ev.orcAdd (Ev.orcAdd zsD 93 (.bool true)) 39 (.bool true)
theorem zqD:Ev.runG Tryz.prog 100 (Ev.orcIn evL (Ev.orcAdd zsD 93 (.bool true))) 100000 39 []=some (.bool true):=by kernel_rfl
theorem zkB (w:World) (hpow:PowTab w) (hbru:BruTab w) (hmax:MaxVar w):Ev.OrcSound Tryz.prog 100 w.heap.size (Below w.heap.size w) (Ev.orcAdd zsD 93 (.bool true)):=
 (zoG w hpow hbru hmax).add rfl ((enters_of Tryz.func93 (by kernel_rfl) rfl) #[]) fun W _ hT=>aw14 W (zaE hpow hT) (zaD hbru hT) (zaC hmax hT)
theorem Aw14 (w:World) (hpow:PowTab w) (hbru:BruTab w) (hmax:MaxVar w):Calls Tryz.prog 39 #[] w fun e w'=>e= .returned (.bool true)∧Below w.heap.size w w':=
 zbP zqD rfl w (zkB w hpow hbru hmax)
theorem zuC (w:World) (hpow:PowTab w) (hbru:BruTab w) (hmax:MaxVar w):Ev.OrcSound Tryz.prog 100 w.heap.size (Below w.heap.size w) orc14:=
 (zkB w hpow hbru hmax).add rfl ((enters_of Tryz.func39 (by kernel_rfl) rfl) #[]) fun W _ hT=>Aw14 W (zaE hpow hT) (zaD hbru hT) (zaC hmax hT)
theorem zqG:Ev.runG Tryz.prog 100 (Ev.orcIn evL orc14) 100000 10 []=some (.bool true):=by kernel_rfl
theorem aw15 (w:World) (hpow:PowTab w) (hbru:BruTab w) (hmax:MaxVar w):Calls Tryz.prog 10 #[] w fun e w'=>e= .returned (.bool true)∧Below w.heap.size w w':=
 zbP zqG rfl w (zuC w hpow hbru hmax)
end
end Go.Proofs.YtmjappnpedjlnaaGreatDoor
