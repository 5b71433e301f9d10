/-
  What the law AbnfBack leans on, and its walk (11 of 27).
-/
import Derived.Test.YtppgdppmheiocaaGreatDoorEvB
import Derived.Shelf.Abstract
import Derived.Test.YtppgdppmheiocaaGreatDoorAbnfBackPkE
import Derived.Test.YtppgdppmheiocaaGreatDoorAbnfBackPkJ
namespace Go.Proofs.YtppgdppmheiocaaGreatDoor
set_option maxRecDepth 100000
set_option maxHeartbeats 16000000
section
open Go.RowKit
noncomputable def ztP:Ev.Orc:=Ev.orcWith (Ev.orcWith (Ev.orcWith (Ev.orcWith (Ev.orcWith (Ev.orcWith (Ev.orcWith (Ev.orcWith (Ev.orcWith (Ev.orcNone) 155 Ev.oReplace) 33 Ev.oJoin) 131 Ev.oItoa) 227 Ev.oTz) 220 Ev.oLen) 134 Ev.oCount) 135 Ev.oIndex) 132 Ev.oNoEscape) 148 Ev.oIndexByte
theorem zlS (w:World) (hpow:PowTab w) (hbru:BruTab w) (hmax:MaxVar w):Ev.OrcSound Tryz.prog 100 w.heap.size (Below w.heap.size w) ztP:=by
 refine Ev.orcNone_sound|>.with ?o0|>.with ?o1|>.with ?o2|>.with ?o3|>.with ?o4|>.with ?o5|>.with ?o6|>.with ?o7|>.with ?o8
 case o0=>exact Ev.oReplace_ok (enters_of Tryz.func155 (by kernel_rfl) rfl) fun s o n W hT h1 h2 h3=>by obtain ⟨m,hm⟩:=zaA hmax hT;exact Tryz.strings_ReplaceAll s o n m W h1 hm h2 h3
 case o1=>exact Ev.oJoin_ok (enters_of Tryz.func33 (by kernel_rfl) rfl) fun bk o c xs sep w h1 h2 h3 h4 h5=>Tryz.strings_Join bk o c xs sep w h1 h2 h3 h4 h5
 case o2=>exact Ev.oItoa_ok (enters_of Tryz.func131 (by kernel_rfl) rfl) fun n W hT h1 h2=>(Tryz.strconv_Itoa n h1 h2 W (zaD hpow hT)).mono (by rintro e w' ⟨rfl,k,os,rfl⟩;exact ⟨rfl,Lib.below_grow _ _ (Nat.le_refl _) _ _⟩)
 case o3=>exact Ev.oTz_ok (enters_of Tryz.func227 (by kernel_rfl) rfl) (fun W hT=>(tz64_8 W (zaC hbru hT)).mono fun _ _ h=>⟨h.1,h.2.symm⟩) (fun W hT=>(ztA W (zaC hbru hT)).mono fun _ _ h=>⟨h.1,h.2.symm⟩)
 case o4=>exact Ev.oLen_ok (enters_of Tryz.func220 (by kernel_rfl) rfl) fun x W h1 h2=>Tryz.bits_Len64 x W h1 h2
 case o5=>exact Ev.oCount_ok Tryz.func134 (by kernel_rfl) (by kernel_rfl) (by kernel_rfl) (by kernel_rfl)
 case o6=>exact Ev.oIndex_ok (enters_of Tryz.func135 (by kernel_rfl) rfl) fun s t W hT h=>by obtain ⟨m,hm⟩:=zaA hmax hT;exact Tryz.stringslite_Index s t m W h hm
 case o7=>exact Ev.oNoEscape_ok Tryz.func132 (by kernel_rfl) (by kernel_rfl) (by kernel_rfl) (by kernel_rfl)
 case o8=>exact Ev.oIndexByte_ok Tryz.func148 (by kernel_rfl) (by kernel_rfl) (by kernel_rfl) (by kernel_rfl)
theorem zrT:(Tryz.prog.funcs.toList.all fun f=> !(f.name== "runtime.NumGoroutine"))=true:=by kernel_rfl
theorem zkP:Ev.NoNum Tryz.prog:=fun g f h=>by
 have:=List.all_eq_true.1 zrT f (by simpa using Array.mem_of_getElem? h)
 simpa using this
theorem zkJ:Tryz.prog.follows .mixedOrders=true:=by kernel_rfl
theorem zlG (w:World):Ev.Stays w.heap.size (Below w.heap.size w):=fun _ _ h k=>k.trans h
def evL:List Nat:=[10,23,33,34,58,69,105,131,132,134,135,137,148,155,159,182,207,220,224,227,228,229,232,243,249,254,258,261,263,265,271,272,273,274,275,277,278,279,280,281,282,283,284,285]
theorem zbA {orc:Ev.Orc} {n:Nat} {f:FuncId} {v:Value} (h:Ev.runG Tryz.prog 100 (Ev.orcIn evL orc) n f []=some v) (hv:Ev.pf 100 6 v=true) (w:World) (ho:Ev.OrcSound Tryz.prog 100 w.heap.size (Below w.heap.size w) orc):
  Calls Tryz.prog f #[] w fun e w'=>e= .returned v∧Below w.heap.size w w':=
 Ev.runF_sound (zlG w) zkP zkJ (Ev.orcIn_ok evL ho) (Ev.runG_ok h) rfl hv w rfl (Below.refl _ _)
def memoT:List (List UInt8×Nat×Nat×Nat):=[([48,46,48,46,48,46,48,47,56],0,281470681743360,104),
 ([49,48,46,48,46,48,46,48,47,56],0,281470849515520,104),
 ([49,48,48,46,54,52,46,48,46,48,47,49,48],0,281472363659264,106),
 ([49,50,55,46,48,46,48,46,48,47,56],0,281472812449792,104),
 ([49,54,57,46,50,53,52,46,48,46,48,47,49,54],0,281473533739008,112),
 ([49,55,50,46,49,54,46,48,46,48,47,49,50],0,281473568473088,108),
 ([49,57,50,46,48,46,48,46,48,47,50,52],0,281473902968832,120),
 ([49,57,50,46,48,46,50,46,48,47,50,52],0,281473902969344,120),
 ([49,57,50,46,56,56,46,57,57,46,48,47,50,52],0,281473908761344,120),
 ([49,57,50,46,49,54,56,46,48,46,48,47,49,54],0,281473913978880,112),
 ([49,57,56,46,49,56,46,48,46,48,47,49,53],0,281474004811776,111),
 ([49,57,56,46,53,49,46,49,48,48,46,48,47,50,52],0,281474007000064,120),
 ([50,48,51,46,48,46,49,49,51,46,48,47,50,52],0,281474087547136,120),
 ([50,50,52,46,48,46,48,46,48,47,52],0,281474439839744,100),
 ([50,52,48,46,48,46,48,46,48,47,52],0,281474708275200,100),
 ([58,58,47,49,50,56],0,0,128),
 ([58,58,49,47,49,50,56],0,1,128),
 ([54,52,58,102,102,57,98,58,49,58,58,47,52,56],28428538856144896,0,48),
 ([49,48,48,58,58,47,54,52],72057594037927936,0,64),
 ([50,48,48,49,58,58,47,50,51],2306124484190404608,0,23),
 ([50,48,48,49,58,100,98,56,58,58,47,51,50],2306139568115548160,0,32),
 ([51,102,102,102,58,58,47,50,48],4611404543450677248,0,20),
 ([53,102,48,48,58,58,47,49,54],6845471433603153920,0,16),
 ([102,99,48,48,58,58,47,55],18158513697557839872,0,7),
 ([102,101,56,48,58,58,47,49,48],18338657682652659712,0,10),
 ([102,101,99,48,58,58,47,49,48],18356672081162141696,0,10),
 ([102,102,48,48,58,58,47,56],18374686479671623680,0,8)]
def ztJ (x:List UInt8×Nat×Nat×Nat):Value:= .tuple ⟨[.agg ⟨[.int .u64 (.ofNat x.2.1),.int .u64 (.ofNat x.2.2.1),.int .i64 (.ofNat x.2.2.2)]⟩,.bool true]⟩
def isPf (r:Option Value) (a b c:Nat):Bool:=match r with
 |some (.tuple ⟨[.agg ⟨[.int .u64 (.ofNat x),.int .u64 (.ofNat y),.int .i64 (.ofNat z)]⟩,.bool true]⟩)=>Nat.beq x a&&(Nat.beq y b&&Nat.beq z c)
 |_=>false
theorem zuF {r:Option Value} {x:List UInt8×Nat×Nat×Nat} (h:isPf r x.2.1 x.2.2.1 x.2.2.2=true):r=some (ztJ x):=by
 unfold isPf at h
 split at h
 ·rw [Bool.and_eq_true,Bool.and_eq_true] at h
  unfold ztJ
  rw [Nat.eq_of_beq_eq_true h.1,Nat.eq_of_beq_eq_true h.2.1,Nat.eq_of_beq_eq_true h.2.2]
 ·cases h
theorem znZ:(memoT.all fun x=>isPf (Ev.runG Tryz.prog 100 (Ev.orcIn evL ztP) 100000 258 [.string ⟨x.1.toArray⟩]) x.2.1 x.2.2.1 x.2.2.2)=true:=by kernel_rfl
noncomputable def orcM:Ev.Orc:=Ev.orcWith ztP 258 (Ev.oMemo (memoT.map fun x=>(x.1,ztJ x)))
theorem zuA (w:World) (hpow:PowTab w) (hbru:BruTab w) (hmax:MaxVar w):Ev.OrcSound Tryz.prog 100 w.heap.size (Below w.heap.size w) orcM:=by
 refine (zlS w hpow hbru hmax).with (Ev.oMemo_ok (enters_of Tryz.func258 (by kernel_rfl) rfl) (by kernel_rfl) fun x hx W hW hT=> ?_)
 obtain ⟨y,hy,rfl⟩:=List.mem_map.1 hx
 have h:=zuF (List.all_eq_true.1 znZ y hy)
 have h2:=Ev.runF_sound (zlG W) zkP zkJ (Ev.orcIn_ok evL (zlS W (zaD hpow hT) (zaC hbru hT) (zaA hmax hT))) (Ev.runG_ok h) rfl rfl W rfl (Below.refl _ _)
 simpa using h2
def zpK:Ev.OrcH:=fun args _=>match args with
 |[.agg ⟨[.int .u64 (.ofNat hi),.int .u64 (.ofNat lo),.int .i64 (.ofNat n)]⟩]=>(match Nat.blt hi 18446744073709551616&&Nat.blt lo 18446744073709551616 with|true=>some (.bool (zaW (zaI hi lo) (n:Int)))|false=>none)
 |_=>none
theorem zpP {base:Nat} {T:World→Prop}:Ev.OrcFn Tryz.prog 100 base T 249 zpK:=by
 refine Ev.oFn_ok (enters_of Tryz.func249 (by kernel_rfl) rfl) fun args hp v hk=> ?_
 unfold zpK at hk
 split at hk
 ·split at hk
  ·rename_i hc
   cases hk
   simp only [Bool.and_eq_true] at hc
   refine ⟨rfl,rfl,fun W _ _=> ?_⟩
   exact zbL _ _ _ W (Ev.blt_ok hc.1) (Ev.blt_ok hc.2)
  ·cases hk
 ·cases hk
noncomputable def ziK:Ev.Orc:=Ev.orcWith orcM 249 zpK
theorem zhT (w:World) (hpow:PowTab w) (hbru:BruTab w) (hmax:MaxVar w):Ev.OrcSound Tryz.prog 100 w.heap.size (Below w.heap.size w) ziK:=(zuA w hpow hbru hmax).with zpP
def zjN:Ev.OrcH:=fun args _=>match args with
 |[.agg ⟨[.int .u64 (.ofNat hi),.int .u64 (.ofNat lo),.int .i64 (.ofNat n)]⟩,.agg ⟨[.int .u64 (.ofNat hi2),.int .u64 (.ofNat lo2),.int .i64 (.ofNat m)]⟩]=>(match (Nat.blt hi 18446744073709551616&&Nat.blt lo 18446744073709551616)&&(Nat.blt hi2 18446744073709551616&&Nat.blt lo2 18446744073709551616) with|true=>some (.bool (zcC (zaI hi lo) (n:Int) (zaI hi2 lo2) (m:Int)))|false=>none)
 |_=>none
theorem zmR {base:Nat} {T:World→Prop}:Ev.OrcFn Tryz.prog 100 base T 261 zjN:=by
 refine Ev.oFn_ok (enters_of Tryz.func261 (by kernel_rfl) rfl) fun args hp v hk=> ?_
 unfold zjN at hk
 split at hk
 ·split at hk
  ·rename_i hc
   cases hk
   simp only [Bool.and_eq_true] at hc
   refine ⟨rfl,rfl,fun W _ _=> ?_⟩
   exact zmH _ _ _ _ _ _ W (Ev.blt_ok hc.1.1) (Ev.blt_ok hc.1.2) (Ev.blt_ok hc.2.1) (Ev.blt_ok hc.2.2)
  ·cases hk
 ·cases hk
noncomputable def zgJ:Ev.Orc:=Ev.orcWith ziK 261 zjN
theorem zhL (w:World) (hpow:PowTab w) (hbru:BruTab w) (hmax:MaxVar w):Ev.OrcSound Tryz.prog 100 w.heap.size (Below w.heap.size w) zgJ:=(zhT w hpow hbru hmax).with zmR
def zkA:Ev.OrcH:=fun args _=>match args with
 |[.agg ⟨[.int .u64 (.ofNat hi),.int .u64 (.ofNat lo),.int .i64 (.ofNat n)]⟩,.agg ⟨[.int .u64 (.ofNat ph),.int .u64 (.ofNat pl),.int .i64 (.ofNat k)]⟩]=>(match ((Nat.blt hi 18446744073709551616&&Nat.blt lo 18446744073709551616)&&(Nat.blt ph 18446744073709551616&&Nat.blt pl 18446744073709551616))&&(Nat.ble n 128&&Nat.ble k 128) with|true=>some (pfW (ofW (zaI ph pl) (zeN (zaI hi lo) n (zaI ph pl) k)) (zeN (zaI hi lo) n (zaI ph pl) k:Nat))|false=>none)
 |_=>none
theorem zmZ {base:Nat} {T:World→Prop}:Ev.OrcFn Tryz.prog 100 base T 263 zkA:=by
 refine Ev.oFn_ok (enters_of Tryz.func263 (by kernel_rfl) rfl) fun args hp v hk=> ?_
 unfold zkA at hk
 split at hk
 ·split at hk
  ·rename_i hc
   cases hk
   simp only [Bool.and_eq_true] at hc
   refine ⟨rfl,rfl,fun W _ _=> ?_⟩
   exact zmQ _ _ _ _ _ _ W (Ev.blt_ok hc.1.1.1) (Ev.blt_ok hc.1.1.2) (Ev.blt_ok hc.1.2.1) (Ev.blt_ok hc.1.2.2) (Nat.le_of_ble_eq_true hc.2.1) (Nat.le_of_ble_eq_true hc.2.2)
  ·cases hk
 ·cases hk
noncomputable def zcT:Ev.Orc:=Ev.orcWith zgJ 263 zkA
theorem zeJ (w:World) (hpow:PowTab w) (hbru:BruTab w) (hmax:MaxVar w):Ev.OrcSound Tryz.prog 100 w.heap.size (Below w.heap.size w) zcT:=(zhL w hpow hbru hmax).with zmZ
theorem zoZ:Ev.runG Tryz.prog 100 (Ev.orcIn evL zcT) 100000 285 []=some (.bool true):=by kernel_rfl
theorem aw01 (w:World) (hpow:PowTab w) (hbru:BruTab w) (hmax:MaxVar w):Calls Tryz.prog 285 #[] w fun e w'=>e= .returned (.bool true)∧Below w.heap.size w w':=
 zbA zoZ rfl w (zeJ w hpow hbru hmax)
noncomputable def znU:Ev.Orc:=Ev.orcAdd (Ev.orcAdd zcT 285 (.bool true)) 284 (.bool true)
theorem zoJ:Ev.runG Tryz.prog 100 (Ev.orcIn evL (Ev.orcAdd zcT 285 (.bool true))) 100000 284 []=some (.bool true):=by kernel_rfl
theorem zhZ (w:World) (hpow:PowTab w) (hbru:BruTab w) (hmax:MaxVar w):Ev.OrcSound Tryz.prog 100 w.heap.size (Below w.heap.size w) (Ev.orcAdd zcT 285 (.bool true)):=
 (zeJ w hpow hbru hmax).add rfl ((enters_of Tryz.func285 (by kernel_rfl) rfl) #[]) fun W _ hT=>aw01 W (zaD hpow hT) (zaC hbru hT) (zaA hmax hT)
theorem Aw01 (w:World) (hpow:PowTab w) (hbru:BruTab w) (hmax:MaxVar w):Calls Tryz.prog 284 #[] w fun e w'=>e= .returned (.bool true)∧Below w.heap.size w w':=
 zbA zoJ rfl w (zhZ w hpow hbru hmax)
theorem zkL (w:World) (hpow:PowTab w) (hbru:BruTab w) (hmax:MaxVar w):Ev.OrcSound Tryz.prog 100 w.heap.size (Below w.heap.size w) znU:=
 (zhZ w hpow hbru hmax).add rfl ((enters_of Tryz.func284 (by kernel_rfl) rfl) #[]) fun W _ hT=>Aw01 W (zaD hpow hT) (zaC hbru hT) (zaA hmax hT)
theorem zpT:Ev.runG Tryz.prog 100 (Ev.orcIn evL znU) 100000 283 []=some (.bool true):=by kernel_rfl
theorem aw02 (w:World) (hpow:PowTab w) (hbru:BruTab w) (hmax:MaxVar w):Calls Tryz.prog 283 #[] w fun e w'=>e= .returned (.bool true)∧Below w.heap.size w w':=
 zbA zpT rfl w (zkL w hpow hbru hmax)
noncomputable def znI:Ev.Orc:=Ev.orcAdd (Ev.orcAdd znU 283 (.bool true)) 282 (.bool true)
theorem zoA:Ev.runG Tryz.prog 100 (Ev.orcIn evL (Ev.orcAdd znU 283 (.bool true))) 100000 282 []=some (.bool true):=by kernel_rfl
theorem ziP (w:World) (hpow:PowTab w) (hbru:BruTab w) (hmax:MaxVar w):Ev.OrcSound Tryz.prog 100 w.heap.size (Below w.heap.size w) (Ev.orcAdd znU 283 (.bool true)):=
 (zkL w hpow hbru hmax).add rfl ((enters_of Tryz.func283 (by kernel_rfl) rfl) #[]) fun W _ hT=>aw02 W (zaD hpow hT) (zaC hbru hT) (zaA hmax hT)
theorem Aw02 (w:World) (hpow:PowTab w) (hbru:BruTab w) (hmax:MaxVar w):Calls Tryz.prog 282 #[] w fun e w'=>e= .returned (.bool true)∧Below w.heap.size w w':=
 zbA zoA rfl w (ziP w hpow hbru hmax)
theorem zkQ (w:World) (hpow:PowTab w) (hbru:BruTab w) (hmax:MaxVar w):Ev.OrcSound Tryz.prog 100 w.heap.size (Below w.heap.size w) znI:=
 (ziP w hpow hbru hmax).add rfl ((enters_of Tryz.func282 (by kernel_rfl) rfl) #[]) fun W _ hT=>Aw02 W (zaD hpow hT) (zaC hbru hT) (zaA hmax hT)
theorem zpD:Ev.runG Tryz.prog 100 (Ev.orcIn evL znI) 100000 281 []=some (.bool true):=by kernel_rfl
theorem aw03 (w:World) (hpow:PowTab w) (hbru:BruTab w) (hmax:MaxVar w):Calls Tryz.prog 281 #[] w fun e w'=>e= .returned (.bool true)∧Below w.heap.size w w':=
 zbA zpD rfl w (zkQ w hpow hbru hmax)
noncomputable def zqF:Ev.Orc:=Ev.orcAdd (Ev.orcAdd znI 281 (.bool true)) 280 (.bool true)
theorem znT:Ev.runG Tryz.prog 100 (Ev.orcIn evL (Ev.orcAdd znI 281 (.bool true))) 100000 280 []=some (.bool true):=by kernel_rfl
theorem zjA (w:World) (hpow:PowTab w) (hbru:BruTab w) (hmax:MaxVar w):Ev.OrcSound Tryz.prog 100 w.heap.size (Below w.heap.size w) (Ev.orcAdd znI 281 (.bool true)):=
 (zkQ w hpow hbru hmax).add rfl ((enters_of Tryz.func281 (by kernel_rfl) rfl) #[]) fun W _ hT=>aw03 W (zaD hpow hT) (zaC hbru hT) (zaA hmax hT)
theorem Aw03 (w:World) (hpow:PowTab w) (hbru:BruTab w) (hmax:MaxVar w):Calls Tryz.prog 280 #[] w fun e w'=>e= .returned (.bool true)∧Below w.heap.size w w':=
 zbA znT rfl w (zjA w hpow hbru hmax)
theorem zkW (w:World) (hpow:PowTab w) (hbru:BruTab w) (hmax:MaxVar w):Ev.OrcSound Tryz.prog 100 w.heap.size (Below w.heap.size w) zqF:=
 (zjA w hpow hbru hmax).add rfl ((enters_of Tryz.func280 (by kernel_rfl) rfl) #[]) fun W _ hT=>Aw03 W (zaD hpow hT) (zaC hbru hT) (zaA hmax hT)
theorem zoB:Ev.runG Tryz.prog 100 (Ev.orcIn evL zqF) 100000 279 []=some (.bool true):=by kernel_rfl
theorem aw04 (w:World) (hpow:PowTab w) (hbru:BruTab w) (hmax:MaxVar w):Calls Tryz.prog 279 #[] w fun e w'=>e= .returned (.bool true)∧Below w.heap.size w w':=
 zbA zoB rfl w (zkW w hpow hbru hmax)
noncomputable def znS:Ev.Orc:=Ev.orcAdd (Ev.orcAdd zqF 279 (.bool true)) 278 (.bool true)
theorem zqH:Ev.runG Tryz.prog 100 (Ev.orcIn evL (Ev.orcAdd zqF 279 (.bool true))) 100000 278 []=some (.bool true):=by kernel_rfl
theorem zjH (w:World) (hpow:PowTab w) (hbru:BruTab w) (hmax:MaxVar w):Ev.OrcSound Tryz.prog 100 w.heap.size (Below w.heap.size w) (Ev.orcAdd zqF 279 (.bool true)):=
 (zkW w hpow hbru hmax).add rfl ((enters_of Tryz.func279 (by kernel_rfl) rfl) #[]) fun W _ hT=>aw04 W (zaD hpow hT) (zaC hbru hT) (zaA hmax hT)
theorem Aw04 (w:World) (hpow:PowTab w) (hbru:BruTab w) (hmax:MaxVar w):Calls Tryz.prog 278 #[] w fun e w'=>e= .returned (.bool true)∧Below w.heap.size w w':=
 zbA zqH rfl w (zjH w hpow hbru hmax)
theorem zlP (w:World) (hpow:PowTab w) (hbru:BruTab w) (hmax:MaxVar w):Ev.OrcSound Tryz.prog 100 w.heap.size (Below w.heap.size w) znS:=
 (zjH w hpow hbru hmax).add rfl ((enters_of Tryz.func278 (by kernel_rfl) rfl) #[]) fun W _ hT=>Aw04 W (zaD hpow hT) (zaC hbru hT) (zaA hmax hT)
theorem zqG:Ev.runG Tryz.prog 100 (Ev.orcIn evL znS) 100000 277 []=some (.bool true):=by kernel_rfl
theorem aw05 (w:World) (hpow:PowTab w) (hbru:BruTab w) (hmax:MaxVar w):Calls Tryz.prog 277 #[] w fun e w'=>e= .returned (.bool true)∧Below w.heap.size w w':=
 zbA zqG rfl w (zlP w hpow hbru hmax)
noncomputable def zqL:Ev.Orc:=Ev.orcAdd (Ev.orcAdd znS 277 (.bool true)) 275 (.bool true)
theorem zqK:Ev.runG Tryz.prog 100 (Ev.orcIn evL (Ev.orcAdd znS 277 (.bool true))) 100000 275 []=some (.bool true):=by kernel_rfl
theorem ziQ (w:World) (hpow:PowTab w) (hbru:BruTab w) (hmax:MaxVar w):Ev.OrcSound Tryz.prog 100 w.heap.size (Below w.heap.size w) (Ev.orcAdd znS 277 (.bool true)):=
 (zlP w hpow hbru hmax).add rfl ((enters_of Tryz.func277 (by kernel_rfl) rfl) #[]) fun W _ hT=>aw05 W (zaD hpow hT) (zaC hbru hT) (zaA hmax hT)
theorem Aw05 (w:World) (hpow:PowTab w) (hbru:BruTab w) (hmax:MaxVar w):Calls Tryz.prog 275 #[] w fun e w'=>e= .returned (.bool true)∧Below w.heap.size w w':=
 zbA zqK rfl w (ziQ w hpow hbru hmax)
theorem zlB (w:World) (hpow:PowTab w) (hbru:BruTab w) (hmax:MaxVar w):Ev.OrcSound Tryz.prog 100 w.heap.size (Below w.heap.size w) zqL:=
 (ziQ w hpow hbru hmax).add rfl ((enters_of Tryz.func275 (by kernel_rfl) rfl) #[]) fun W _ hT=>Aw05 W (zaD hpow hT) (zaC hbru hT) (zaA hmax hT)
theorem zoV:Ev.runG Tryz.prog 100 (Ev.orcIn evL zqL) 100000 274 []=some (.bool true):=by kernel_rfl
theorem aw06 (w:World) (hpow:PowTab w) (hbru:BruTab w) (hmax:MaxVar w):Calls Tryz.prog 274 #[] w fun e w'=>e= .returned (.bool true)∧Below w.heap.size w w':=
 zbA zoV rfl w (zlB w hpow hbru hmax)
noncomputable def zpU:Ev.Orc:=Ev.orcAdd (Ev.orcAdd zqL 274 (.bool true)) 273 (.bool true)
theorem znC:Ev.runG Tryz.prog 100 (Ev.orcIn evL (Ev.orcAdd zqL 274 (.bool true))) 100000 273 []=some (.bool true):=by kernel_rfl
theorem zjI (w:World) (hpow:PowTab w) (hbru:BruTab w) (hmax:MaxVar w):Ev.OrcSound Tryz.prog 100 w.heap.size (Below w.heap.size w) (Ev.orcAdd zqL 274 (.bool true)):=
 (zlB w hpow hbru hmax).add rfl ((enters_of Tryz.func274 (by kernel_rfl) rfl) #[]) fun W _ hT=>aw06 W (zaD hpow hT) (zaC hbru hT) (zaA hmax hT)
theorem Aw06 (w:World) (hpow:PowTab w) (hbru:BruTab w) (hmax:MaxVar w):Calls Tryz.prog 273 #[] w fun e w'=>e= .returned (.bool true)∧Below w.heap.size w w':=
 zbA znC rfl w (zjI w hpow hbru hmax)
theorem zkK (w:World) (hpow:PowTab w) (hbru:BruTab w) (hmax:MaxVar w):Ev.OrcSound Tryz.prog 100 w.heap.size (Below w.heap.size w) zpU:=
 (zjI w hpow hbru hmax).add rfl ((enters_of Tryz.func273 (by kernel_rfl) rfl) #[]) fun W _ hT=>Aw06 W (zaD hpow hT) (zaC hbru hT) (zaA hmax hT)
theorem zoO:Ev.runG Tryz.prog 100 (Ev.orcIn evL zpU) 100000 272 []=some (.bool true):=by kernel_rfl
theorem aw07 (w:World) (hpow:PowTab w) (hbru:BruTab w) (hmax:MaxVar w):Calls Tryz.prog 272 #[] w fun e w'=>e= .returned (.bool true)∧Below w.heap.size w w':=
 zbA zoO rfl w (zkK w hpow hbru hmax)
noncomputable def zoD:Ev.Orc:=Ev.orcAdd (Ev.orcAdd zpU 272 (.bool true)) 271 (.bool true)
theorem zpY:Ev.runG Tryz.prog 100 (Ev.orcIn evL (Ev.orcAdd zpU 272 (.bool true))) 100000 271 []=some (.bool true):=by kernel_rfl
theorem ziA (w:World) (hpow:PowTab w) (hbru:BruTab w) (hmax:MaxVar w):Ev.OrcSound Tryz.prog 100 w.heap.size (Below w.heap.size w) (Ev.orcAdd zpU 272 (.bool true)):=
 (zkK w hpow hbru hmax).add rfl ((enters_of Tryz.func272 (by kernel_rfl) rfl) #[]) fun W _ hT=>aw07 W (zaD hpow hT) (zaC hbru hT) (zaA hmax hT)
theorem Aw07 (w:World) (hpow:PowTab w) (hbru:BruTab w) (hmax:MaxVar w):Calls Tryz.prog 271 #[] w fun e w'=>e= .returned (.bool true)∧Below w.heap.size w w':=
 zbA zpY rfl w (ziA w hpow hbru hmax)
theorem zlC (w:World) (hpow:PowTab w) (hbru:BruTab w) (hmax:MaxVar w):Ev.OrcSound Tryz.prog 100 w.heap.size (Below w.heap.size w) zoD:=
 (ziA w hpow hbru hmax).add rfl ((enters_of Tryz.func271 (by kernel_rfl) rfl) #[]) fun W _ hT=>Aw07 W (zaD hpow hT) (zaC hbru hT) (zaA hmax hT)
theorem znN:Ev.runG Tryz.prog 100 (Ev.orcIn evL zoD) 100000 265 []=some (.bool true):=by kernel_rfl
theorem aw08 (w:World) (hpow:PowTab w) (hbru:BruTab w) (hmax:MaxVar w):Calls Tryz.prog 265 #[] w fun e w'=>e= .returned (.bool true)∧Below w.heap.size w w':=
 zbA znN rfl w (zlC w hpow hbru hmax)
noncomputable def zoS:Ev.Orc:=Ev.orcAdd (Ev.orcAdd zoD 265 (.bool true)) 254 (.bool true)
theorem zpR:Ev.runG Tryz.prog 100 (Ev.orcIn evL (Ev.orcAdd zoD 265 (.bool true))) 100000 254 []=some (.bool true):=by kernel_rfl
theorem ziX (w:World) (hpow:PowTab w) (hbru:BruTab w) (hmax:MaxVar w):Ev.OrcSound Tryz.prog 100 w.heap.size (Below w.heap.size w) (Ev.orcAdd zoD 265 (.bool true)):=
 (zlC w hpow hbru hmax).add rfl ((enters_of Tryz.func265 (by kernel_rfl) rfl) #[]) fun W _ hT=>aw08 W (zaD hpow hT) (zaC hbru hT) (zaA hmax hT)
theorem Aw08 (w:World) (hpow:PowTab w) (hbru:BruTab w) (hmax:MaxVar w):Calls Tryz.prog 254 #[] w fun e w'=>e= .returned (.bool true)∧Below w.heap.size w w':=
 zbA zpR rfl w (ziX w hpow hbru hmax)
theorem zlH (w:World) (hpow:PowTab w) (hbru:BruTab w) (hmax:MaxVar w):Ev.OrcSound Tryz.prog 100 w.heap.size (Below w.heap.size w) zoS:=
 (ziX w hpow hbru hmax).add rfl ((enters_of Tryz.func254 (by kernel_rfl) rfl) #[]) fun W _ hT=>Aw08 W (zaD hpow hT) (zaC hbru hT) (zaA hmax hT)
theorem zpC:Ev.runG Tryz.prog 100 (Ev.orcIn evL zoS) 100000 243 []=some (.bool true):=by kernel_rfl
theorem aw09 (w:World) (hpow:PowTab w) (hbru:BruTab w) (hmax:MaxVar w):Calls Tryz.prog 243 #[] w fun e w'=>e= .returned (.bool true)∧Below w.heap.size w w':=
 zbA zpC rfl w (zlH w hpow hbru hmax)
noncomputable def znQ:Ev.Orc:=Ev.orcAdd (Ev.orcAdd zoS 243 (.bool true)) 232 (.bool true)
theorem zqD:Ev.runG Tryz.prog 100 (Ev.orcIn evL (Ev.orcAdd zoS 243 (.bool true))) 100000 232 []=some (.bool true):=by kernel_rfl
theorem zhY (w:World) (hpow:PowTab w) (hbru:BruTab w) (hmax:MaxVar w):Ev.OrcSound Tryz.prog 100 w.heap.size (Below w.heap.size w) (Ev.orcAdd zoS 243 (.bool true)):=
 (zlH w hpow hbru hmax).add rfl ((enters_of Tryz.func243 (by kernel_rfl) rfl) #[]) fun W _ hT=>aw09 W (zaD hpow hT) (zaC hbru hT) (zaA hmax hT)
theorem Aw09 (w:World) (hpow:PowTab w) (hbru:BruTab w) (hmax:MaxVar w):Calls Tryz.prog 232 #[] w fun e w'=>e= .returned (.bool true)∧Below w.heap.size w w':=
 zbA zqD rfl w (zhY w hpow hbru hmax)
theorem zlI (w:World) (hpow:PowTab w) (hbru:BruTab w) (hmax:MaxVar w):Ev.OrcSound Tryz.prog 100 w.heap.size (Below w.heap.size w) znQ:=
 (zhY w hpow hbru hmax).add rfl ((enters_of Tryz.func232 (by kernel_rfl) rfl) #[]) fun W _ hT=>Aw09 W (zaD hpow hT) (zaC hbru hT) (zaA hmax hT)
theorem zqO:Ev.runG Tryz.prog 100 (Ev.orcIn evL znQ) 100000 229 []=some (.bool true):=by kernel_rfl
theorem aw10 (w:World) (hpow:PowTab w) (hbru:BruTab w) (hmax:MaxVar w):Calls Tryz.prog 229 #[] w fun e w'=>e= .returned (.bool true)∧Below w.heap.size w w':=
 zbA zqO rfl w (zlI w hpow hbru hmax)
noncomputable def zpW:Ev.Orc:=Ev.orcAdd (Ev.orcAdd znQ 229 (.bool true)) 228 (.bool true)
theorem znM:Ev.runG Tryz.prog 100 (Ev.orcIn evL (Ev.orcAdd znQ 229 (.bool true))) 100000 228 []=some (.bool true):=by kernel_rfl
theorem zhP (w:World) (hpow:PowTab w) (hbru:BruTab w) (hmax:MaxVar w):Ev.OrcSound Tryz.prog 100 w.heap.size (Below w.heap.size w) (Ev.orcAdd znQ 229 (.bool true)):=
 (zlI w hpow hbru hmax).add rfl ((enters_of Tryz.func229 (by kernel_rfl) rfl) #[]) fun W _ hT=>aw10 W (zaD hpow hT) (zaC hbru hT) (zaA hmax hT)
theorem Aw10 (w:World) (hpow:PowTab w) (hbru:BruTab w) (hmax:MaxVar w):Calls Tryz.prog 228 #[] w fun e w'=>e= .returned (.bool true)∧Below w.heap.size w w':=
 zbA znM rfl w (zhP w hpow hbru hmax)
theorem zlE (w:World) (hpow:PowTab w) (hbru:BruTab w) (hmax:MaxVar w):Ev.OrcSound Tryz.prog 100 w.heap.size (Below w.heap.size w) zpW:=
 (zhP w hpow hbru hmax).add rfl ((enters_of Tryz.func228 (by kernel_rfl) rfl) #[]) fun W _ hT=>Aw10 W (zaD hpow hT) (zaC hbru hT) (zaA hmax hT)
theorem znG:Ev.runG Tryz.prog 100 (Ev.orcIn evL zpW) 100000 224 []=some (.bool true):=by kernel_rfl
theorem aw11 (w:World) (hpow:PowTab w) (hbru:BruTab w) (hmax:MaxVar w):Calls Tryz.prog 224 #[] w fun e w'=>e= .returned (.bool true)∧Below w.heap.size w w':=
 zbA znG rfl w (zlE w hpow hbru hmax)
noncomputable def zoM:Ev.Orc:=Ev.orcAdd (Ev.orcAdd zpW 224 (.bool true)) 207 (.bool true)
theorem zoP:Ev.runG Tryz.prog 100 (Ev.orcIn evL (Ev.orcAdd zpW 224 (.bool true))) 100000 207 []=some (.bool true):=by kernel_rfl
theorem ziO (w:World) (hpow:PowTab w) (hbru:BruTab w) (hmax:MaxVar w):Ev.OrcSound Tryz.prog 100 w.heap.size (Below w.heap.size w) (Ev.orcAdd zpW 224 (.bool true)):=
 (zlE w hpow hbru hmax).add rfl ((enters_of Tryz.func224 (by kernel_rfl) rfl) #[]) fun W _ hT=>aw11 W (zaD hpow hT) (zaC hbru hT) (zaA hmax hT)
theorem Aw11 (w:World) (hpow:PowTab w) (hbru:BruTab w) (hmax:MaxVar w):Calls Tryz.prog 207 #[] w fun e w'=>e= .returned (.bool true)∧Below w.heap.size w w':=
 zbA zoP rfl w (ziO w hpow hbru hmax)
theorem zkY (w:World) (hpow:PowTab w) (hbru:BruTab w) (hmax:MaxVar w):Ev.OrcSound Tryz.prog 100 w.heap.size (Below w.heap.size w) zoM:=
 (ziO w hpow hbru hmax).add rfl ((enters_of Tryz.func207 (by kernel_rfl) rfl) #[]) fun W _ hT=>Aw11 W (zaD hpow hT) (zaC hbru hT) (zaA hmax hT)
theorem zpG:Ev.runG Tryz.prog 100 (Ev.orcIn evL zoM) 100000 182 []=some (.bool true):=by kernel_rfl
theorem aw12 (w:World) (hpow:PowTab w) (hbru:BruTab w) (hmax:MaxVar w):Calls Tryz.prog 182 #[] w fun e w'=>e= .returned (.bool true)∧Below w.heap.size w w':=
 zbA zpG rfl w (zkY w hpow hbru hmax)
noncomputable def zoY:Ev.Orc:=Ev.orcAdd (Ev.orcAdd zoM 182 (.bool true)) 159 (.bool true)
theorem zpF:Ev.runG Tryz.prog 100 (Ev.orcIn evL (Ev.orcAdd zoM 182 (.bool true))) 100000 159 []=some (.bool true):=by kernel_rfl
theorem ziW (w:World) (hpow:PowTab w) (hbru:BruTab w) (hmax:MaxVar w):Ev.OrcSound Tryz.prog 100 w.heap.size (Below w.heap.size w) (Ev.orcAdd zoM 182 (.bool true)):=
 (zkY w hpow hbru hmax).add rfl ((enters_of Tryz.func182 (by kernel_rfl) rfl) #[]) fun W _ hT=>aw12 W (zaD hpow hT) (zaC hbru hT) (zaA hmax hT)
theorem Aw12 (w:World) (hpow:PowTab w) (hbru:BruTab w) (hmax:MaxVar w):Calls Tryz.prog 159 #[] w fun e w'=>e= .returned (.bool true)∧Below w.heap.size w w':=
 zbA zpF rfl w (ziW w hpow hbru hmax)
theorem zkV (w:World) (hpow:PowTab w) (hbru:BruTab w) (hmax:MaxVar w):Ev.OrcSound Tryz.prog 100 w.heap.size (Below w.heap.size w) zoY:=
 (ziW w hpow hbru hmax).add rfl ((enters_of Tryz.func159 (by kernel_rfl) rfl) #[]) fun W _ hT=>Aw12 W (zaD hpow hT) (zaC hbru hT) (zaA hmax hT)
theorem znP:Ev.runG Tryz.prog 100 (Ev.orcIn evL zoY) 100000 137 []=some (.bool true):=by kernel_rfl
theorem aw13 (w:World) (hpow:PowTab w) (hbru:BruTab w) (hmax:MaxVar w):Calls Tryz.prog 137 #[] w fun e w'=>e= .returned (.bool true)∧Below w.heap.size w w':=
 zbA znP rfl w (zkV w hpow hbru hmax)
noncomputable def zpE:Ev.Orc:=Ev.orcAdd (Ev.orcAdd zoY 137 (.bool true)) 105 (.bool true)
theorem zoW:Ev.runG Tryz.prog 100 (Ev.orcIn evL (Ev.orcAdd zoY 137 (.bool true))) 100000 105 []=some (.bool true):=by kernel_rfl
theorem ziZ (w:World) (hpow:PowTab w) (hbru:BruTab w) (hmax:MaxVar w):Ev.OrcSound Tryz.prog 100 w.heap.size (Below w.heap.size w) (Ev.orcAdd zoY 137 (.bool true)):=
 (zkV w hpow hbru hmax).add rfl ((enters_of Tryz.func137 (by kernel_rfl) rfl) #[]) fun W _ hT=>aw13 W (zaD hpow hT) (zaC hbru hT) (zaA hmax hT)
theorem Aw13 (w:World) (hpow:PowTab w) (hbru:BruTab w) (hmax:MaxVar w):Calls Tryz.prog 105 #[] w fun e w'=>e= .returned (.bool true)∧Below w.heap.size w w':=
 zbA zoW rfl w (ziZ w hpow hbru hmax)
theorem zkX (w:World) (hpow:PowTab w) (hbru:BruTab w) (hmax:MaxVar w):Ev.OrcSound Tryz.prog 100 w.heap.size (Below w.heap.size w) zpE:=
 (ziZ w hpow hbru hmax).add rfl ((enters_of Tryz.func105 (by kernel_rfl) rfl) #[]) fun W _ hT=>Aw13 W (zaD hpow hT) (zaC hbru hT) (zaA hmax hT)
theorem zqE:Ev.runG Tryz.prog 100 (Ev.orcIn evL zpE) 100000 69 []=some (.bool true):=by kernel_rfl
theorem aw14 (w:World) (hpow:PowTab w) (hbru:BruTab w) (hmax:MaxVar w):Calls Tryz.prog 69 #[] w fun e w'=>e= .returned (.bool true)∧Below w.heap.size w w':=
 zbA zqE rfl w (zkX w hpow hbru hmax)
noncomputable def orc14:Ev.Orc:=Ev.orcAdd (Ev.orcAdd zpE 69 (.bool true)) 34 (.bool true)
theorem zpL:Ev.runG Tryz.prog 100 (Ev.orcIn evL (Ev.orcAdd zpE 69 (.bool true))) 100000 34 []=some (.bool true):=by kernel_rfl
theorem ziU (w:World) (hpow:PowTab w) (hbru:BruTab w) (hmax:MaxVar w):Ev.OrcSound Tryz.prog 100 w.heap.size (Below w.heap.size w) (Ev.orcAdd zpE 69 (.bool true)):=
 (zkX w hpow hbru hmax).add rfl ((enters_of Tryz.func69 (by kernel_rfl) rfl) #[]) fun W _ hT=>aw14 W (zaD hpow hT) (zaC hbru hT) (zaA hmax hT)
theorem Aw14 (w:World) (hpow:PowTab w) (hbru:BruTab w) (hmax:MaxVar w):Calls Tryz.prog 34 #[] w fun e w'=>e= .returned (.bool true)∧Below w.heap.size w w':=
 zbA zpL rfl w (ziU w hpow hbru hmax)
theorem zsA (w:World) (hpow:PowTab w) (hbru:BruTab w) (hmax:MaxVar w):Ev.OrcSound Tryz.prog 100 w.heap.size (Below w.heap.size w) orc14:=
 (ziU w hpow hbru hmax).add rfl ((enters_of Tryz.func34 (by kernel_rfl) rfl) #[]) fun W _ hT=>Aw14 W (zaD hpow hT) (zaC hbru hT) (zaA hmax hT)
theorem zqC:Ev.runG Tryz.prog 100 (Ev.orcIn evL orc14) 100000 10 []=some (.bool true):=by kernel_rfl
theorem aw15 (w:World) (hpow:PowTab w) (hbru:BruTab w) (hmax:MaxVar w):Calls Tryz.prog 10 #[] w fun e w'=>e= .returned (.bool true)∧Below w.heap.size w w':=
 zbA zqC rfl w (zsA w hpow hbru hmax)
end
end Go.Proofs.YtppgdppmheiocaaGreatDoor
