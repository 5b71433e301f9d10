/-
  What the law AuthorityStrict leans on, and its walk (11 of 35).
-/
import Derived.Test.YtmjappnpedjlnaaGreatDoorEvB
import Derived.Shelf.Abstract
import Derived.Test.YtmjappnpedjlnaaGreatDoorAuthorityStrictPkE
import Derived.Test.YtmjappnpedjlnaaGreatDoorAuthorityStrictPkJ
namespace Go.Proofs.YtmjappnpedjlnaaGreatDoor
set_option maxRecDepth 100000
set_option maxHeartbeats 16000000
section
open Go.RowKit
noncomputable def zyW:Ev.Orc:=Ev.orcWith (Ev.orcWith (Ev.orcWith (Ev.orcWith (Ev.orcWith (Ev.orcWith (Ev.orcWith (Ev.orcWith (Ev.orcWith (Ev.orcNone) 171 Ev.oReplace) 162 Ev.oJoin) 87 Ev.oItoa) 251 Ev.oTz) 235 Ev.oLen) 249 Ev.oCount) 194 Ev.oIndex) 205 Ev.oNoEscape) 203 Ev.oIndexByte
theorem zpT (w:World) (hpow:PowTab w) (hbru:BruTab w) (hmax:MaxVar w):Ev.OrcSound Tryz.prog 100 w.heap.size (Below w.heap.size w) zyW:=by
 refine Ev.orcNone_sound|>.with ?o0|>.with ?o1|>.with ?o2|>.with ?o3|>.with ?o4|>.with ?o5|>.with ?o6|>.with ?o7|>.with ?o8
 case o0=>exact Ev.oReplace_ok (enters_of Tryz.func171 (by kernel_rfl) rfl) fun s o n W hT h1 h2 h3=>by obtain ⟨m,hm⟩:=zaC hmax hT;exact Tryz.strings_ReplaceAll s o n m W h1 hm h2 h3
 case o1=>exact Ev.oJoin_ok (enters_of Tryz.func162 (by kernel_rfl) rfl) fun bk o c xs sep w h1 h2 h3 h4 h5=>Tryz.strings_Join bk o c xs sep w h1 h2 h3 h4 h5
 case o2=>exact Ev.oItoa_ok (enters_of Tryz.func87 (by kernel_rfl) rfl) fun n W hT h1 h2=>(Tryz.strconv_Itoa n h1 h2 W (zaF hpow hT)).mono (by rintro e w' ⟨rfl,k,os,rfl⟩;exact ⟨rfl,Lib.below_grow _ _ (Nat.le_refl _) _ _⟩)
 case o3=>exact Ev.oTz_ok (enters_of Tryz.func251 (by kernel_rfl) rfl) (fun W hT=>(tz64_8 W (zaD hbru hT)).mono fun _ _ h=>⟨h.1,h.2.symm⟩) (fun W hT=>(zyL W (zaD hbru hT)).mono fun _ _ h=>⟨h.1,h.2.symm⟩)
 case o4=>exact Ev.oLen_ok (enters_of Tryz.func235 (by kernel_rfl) rfl) fun x W h1 h2=>Tryz.bits_Len64 x W h1 h2
 case o5=>exact Ev.oCount_ok Tryz.func249 (by kernel_rfl) (by kernel_rfl) (by kernel_rfl) (by kernel_rfl)
 case o6=>exact Ev.oIndex_ok (enters_of Tryz.func194 (by kernel_rfl) rfl) fun s t W hT h=>by obtain ⟨m,hm⟩:=zaC hmax hT;exact Tryz.stringslite_Index s t m W h hm
 case o7=>exact Ev.oNoEscape_ok Tryz.func205 (by kernel_rfl) (by kernel_rfl) (by kernel_rfl) (by kernel_rfl)
 case o8=>exact Ev.oIndexByte_ok Tryz.func203 (by kernel_rfl) (by kernel_rfl) (by kernel_rfl) (by kernel_rfl)
theorem zwS:(Tryz.prog.funcs.toList.all fun f=> !(f.name== "runtime.NumGoroutine"))=true:=by kernel_rfl
theorem zoX:Ev.NoNum Tryz.prog:=fun g f h=>by
 have:=List.all_eq_true.1 zwS f (by simpa using Array.mem_of_getElem? h)
 simpa using this
theorem zoT:Tryz.prog.follows .mixedOrders=true:=by kernel_rfl
theorem zoL (w:World):Ev.Stays w.heap.size (Below w.heap.size w):=fun _ _ h k=>k.trans h
def evL:List Nat:=[10,20,29,39,59,74,87,93,109,143,158,162,171,193,194,203,205,220,235,239,249,251,252,256,257,258,261,273,280,285,290,293,295,297,303,304,305,306,307,309,310,311,312,313,314,315,316,317]
theorem zbD {orc:Ev.Orc} {n:Nat} {f:FuncId} {v:Value} (h:Ev.runG Tryz.prog 100 (Ev.orcIn evL orc) n f []=some v) (hv:Ev.pf 100 6 v=true) (w:World) (ho:Ev.OrcSound Tryz.prog 100 w.heap.size (Below w.heap.size w) orc):
  Calls Tryz.prog f #[] w fun e w'=>e= .returned v∧Below w.heap.size w w':=
 Ev.runF_sound (zoL w) zoX zoT (Ev.orcIn_ok evL ho) (Ev.runG_ok h) rfl hv w rfl (Below.refl _ _)
def memoT:List (List UInt8×Nat×Nat×Nat):=[([48,46,48,46,48,46,48,47,56],0,281470681743360,104),
 ([49,48,46,48,46,48,46,48,47,56],0,281470849515520,104),
 ([49,48,48,46,54,52,46,48,46,48,47,49,48],0,281472363659264,106),
 ([49,50,55,46,48,46,48,46,48,47,56],0,281472812449792,104),
 ([49,54,57,46,50,53,52,46,48,46,48,47,49,54],0,281473533739008,112),
 ([49,55,50,46,49,54,46,48,46,48,47,49,50],0,281473568473088,108),
 ([49,57,50,46,48,46,48,46,48,47,50,52],0,281473902968832,120),
 ([49,57,50,46,48,46,50,46,48,47,50,52],0,281473902969344,120),
 ([49,57,50,46,56,56,46,57,57,46,48,47,50,52],0,281473908761344,120),
 ([49,57,50,46,49,54,56,46,48,46,48,47,49,54],0,281473913978880,112),
 ([49,57,56,46,49,56,46,48,46,48,47,49,53],0,281474004811776,111),
 ([49,57,56,46,53,49,46,49,48,48,46,48,47,50,52],0,281474007000064,120),
 ([50,48,51,46,48,46,49,49,51,46,48,47,50,52],0,281474087547136,120),
 ([50,50,52,46,48,46,48,46,48,47,52],0,281474439839744,100),
 ([50,52,48,46,48,46,48,46,48,47,52],0,281474708275200,100),
 ([58,58,47,49,50,56],0,0,128),
 ([58,58,49,47,49,50,56],0,1,128),
 ([54,52,58,102,102,57,98,58,49,58,58,47,52,56],28428538856144896,0,48),
 ([49,48,48,58,58,47,54,52],72057594037927936,0,64),
 ([50,48,48,49,58,58,47,50,51],2306124484190404608,0,23),
 ([50,48,48,49,58,100,98,56,58,58,47,51,50],2306139568115548160,0,32),
 ([51,102,102,102,58,58,47,50,48],4611404543450677248,0,20),
 ([53,102,48,48,58,58,47,49,54],6845471433603153920,0,16),
 ([102,99,48,48,58,58,47,55],18158513697557839872,0,7),
 ([102,101,56,48,58,58,47,49,48],18338657682652659712,0,10),
 ([102,101,99,48,58,58,47,49,48],18356672081162141696,0,10),
 ([102,102,48,48,58,58,47,56],18374686479671623680,0,8)]
def zyX (x:List UInt8×Nat×Nat×Nat):Value:= .tuple ⟨[.agg ⟨[.int .u64 (.ofNat x.2.1),.int .u64 (.ofNat x.2.2.1),.int .i64 (.ofNat x.2.2.2)]⟩,.bool true]⟩
def isPf (r:Option Value) (a b c:Nat):Bool:=match r with
 |some (.tuple ⟨[.agg ⟨[.int .u64 (.ofNat x),.int .u64 (.ofNat y),.int .i64 (.ofNat z)]⟩,.bool true]⟩)=>Nat.beq x a&&(Nat.beq y b&&Nat.beq z c)
 |_=>false
theorem zyI {r:Option Value} {x:List UInt8×Nat×Nat×Nat} (h:isPf r x.2.1 x.2.2.1 x.2.2.2=true):r=some (zyX x):=by
 unfold isPf at h
 split at h
 ·rw [Bool.and_eq_true,Bool.and_eq_true] at h
  unfold zyX
  rw [Nat.eq_of_beq_eq_true h.1,Nat.eq_of_beq_eq_true h.2.1,Nat.eq_of_beq_eq_true h.2.2]
 ·cases h
theorem zvJ:(memoT.all fun x=>isPf (Ev.runG Tryz.prog 100 (Ev.orcIn evL zyW) 100000 290 [.string ⟨x.1.toArray⟩]) x.2.1 x.2.2.1 x.2.2.2)=true:=by kernel_rfl
noncomputable def orcM:Ev.Orc:=Ev.orcWith zyW 290 (Ev.oMemo (memoT.map fun x=>(x.1,zyX x)))
theorem zyO (w:World) (hpow:PowTab w) (hbru:BruTab w) (hmax:MaxVar w):Ev.OrcSound Tryz.prog 100 w.heap.size (Below w.heap.size w) orcM:=by
 refine (zpT w hpow hbru hmax).with (Ev.oMemo_ok (enters_of Tryz.func290 (by kernel_rfl) rfl) (by kernel_rfl) fun x hx W hW hT=> ?_)
 obtain ⟨y,hy,rfl⟩:=List.mem_map.1 hx
 have h:=zyI (List.all_eq_true.1 zvJ y hy)
 have h2:=Ev.runF_sound (zoL W) zoX zoT (Ev.orcIn_ok evL (zpT W (zaF hpow hT) (zaD hbru hT) (zaC hmax hT))) (Ev.runG_ok h) rfl rfl W rfl (Below.refl _ _)
 simpa using h2
def zuJ:Ev.OrcH:=fun args _=>match args with
 |[.agg ⟨[.int .u64 (.ofNat hi),.int .u64 (.ofNat lo),.int .i64 (.ofNat n)]⟩]=>(match Nat.blt hi 18446744073709551616&&Nat.blt lo 18446744073709551616 with|true=>some (.bool (zbI (zaK hi lo) (n:Int)))|false=>none)
 |_=>none
theorem zsC {base:Nat} {T:World→Prop}:Ev.OrcFn Tryz.prog 100 base T 280 zuJ:=by
 refine Ev.oFn_ok (enters_of Tryz.func280 (by kernel_rfl) rfl) fun args hp v hk=> ?_
 unfold zuJ at hk
 split at hk
 ·split at hk
  ·rename_i hc
   cases hk
   simp only [Bool.and_eq_true] at hc
   refine ⟨rfl,rfl,fun W _ _=> ?_⟩
   exact zcM _ _ _ W (Ev.blt_ok hc.1) (Ev.blt_ok hc.2)
  ·cases hk
 ·cases hk
noncomputable def zlN:Ev.Orc:=Ev.orcWith orcM 280 zuJ
theorem zlC (w:World) (hpow:PowTab w) (hbru:BruTab w) (hmax:MaxVar w):Ev.OrcSound Tryz.prog 100 w.heap.size (Below w.heap.size w) zlN:=(zyO w hpow hbru hmax).with zsC
def znR:Ev.OrcH:=fun args _=>match args with
 |[.agg ⟨[.int .u64 (.ofNat hi),.int .u64 (.ofNat lo),.int .i64 (.ofNat n)]⟩,.agg ⟨[.int .u64 (.ofNat hi2),.int .u64 (.ofNat lo2),.int .i64 (.ofNat m)]⟩]=>(match (Nat.blt hi 18446744073709551616&&Nat.blt lo 18446744073709551616)&&(Nat.blt hi2 18446744073709551616&&Nat.blt lo2 18446744073709551616) with|true=>some (.bool (zdG (zaK hi lo) (n:Int) (zaK hi2 lo2) (m:Int)))|false=>none)
 |_=>none
theorem zrF {base:Nat} {T:World→Prop}:Ev.OrcFn Tryz.prog 100 base T 293 znR:=by
 refine Ev.oFn_ok (enters_of Tryz.func293 (by kernel_rfl) rfl) fun args hp v hk=> ?_
 unfold znR at hk
 split at hk
 ·split at hk
  ·rename_i hc
   cases hk
   simp only [Bool.and_eq_true] at hc
   refine ⟨rfl,rfl,fun W _ _=> ?_⟩
   exact zqR _ _ _ _ _ _ W (Ev.blt_ok hc.1.1) (Ev.blt_ok hc.1.2) (Ev.blt_ok hc.2.1) (Ev.blt_ok hc.2.2)
  ·cases hk
 ·cases hk
noncomputable def zjN:Ev.Orc:=Ev.orcWith zlN 293 znR
theorem zkJ (w:World) (hpow:PowTab w) (hbru:BruTab w) (hmax:MaxVar w):Ev.OrcSound Tryz.prog 100 w.heap.size (Below w.heap.size w) zjN:=(zlC w hpow hbru hmax).with zrF
def znV:Ev.OrcH:=fun args _=>match args with
 |[.agg ⟨[.int .u64 (.ofNat hi),.int .u64 (.ofNat lo),.int .i64 (.ofNat n)]⟩,.agg ⟨[.int .u64 (.ofNat ph),.int .u64 (.ofNat pl),.int .i64 (.ofNat k)]⟩]=>(match ((Nat.blt hi 18446744073709551616&&Nat.blt lo 18446744073709551616)&&(Nat.blt ph 18446744073709551616&&Nat.blt pl 18446744073709551616))&&(Nat.ble n 128&&Nat.ble k 128) with|true=>some (pfW (ofW (zaK ph pl) (zfZ (zaK hi lo) n (zaK ph pl) k)) (zfZ (zaK hi lo) n (zaK ph pl) k:Nat))|false=>none)
 |_=>none
theorem zqM {base:Nat} {T:World→Prop}:Ev.OrcFn Tryz.prog 100 base T 295 znV:=by
 refine Ev.oFn_ok (enters_of Tryz.func295 (by kernel_rfl) rfl) fun args hp v hk=> ?_
 unfold znV at hk
 split at hk
 ·split at hk
  ·rename_i hc
   cases hk
   simp only [Bool.and_eq_true] at hc
   refine ⟨rfl,rfl,fun W _ _=> ?_⟩
   exact zqH _ _ _ _ _ _ W (Ev.blt_ok hc.1.1.1) (Ev.blt_ok hc.1.1.2) (Ev.blt_ok hc.1.2.1) (Ev.blt_ok hc.1.2.2) (Nat.le_of_ble_eq_true hc.2.1) (Nat.le_of_ble_eq_true hc.2.2)
  ·cases hk
 ·cases hk
noncomputable def zeF:Ev.Orc:=Ev.orcWith zjN 295 znV
theorem zgP (w:World) (hpow:PowTab w) (hbru:BruTab w) (hmax:MaxVar w):Ev.OrcSound Tryz.prog 100 w.heap.size (Below w.heap.size w) zeF:=(zkJ w hpow hbru hmax).with zqM
theorem zsD:Ev.runG Tryz.prog 100 (Ev.orcIn evL zeF) 100000 317 []=some (.bool true):=by kernel_rfl
theorem aw01 (w:World) (hpow:PowTab w) (hbru:BruTab w) (hmax:MaxVar w):Calls Tryz.prog 317 #[] w fun e w'=>e= .returned (.bool true)∧Below w.heap.size w w':=
 zbD zsD rfl w (zgP w hpow hbru hmax)
noncomputable def zrT:Ev.Orc:=Ev.orcAdd (Ev.orcAdd zeF 317 (.bool true)) 316 (.bool true)
theorem zuU:Ev.runG Tryz.prog 100 (Ev.orcIn evL (Ev.orcAdd zeF 317 (.bool true))) 100000 316 []=some (.bool true):=by kernel_rfl
theorem zlH (w:World) (hpow:PowTab w) (hbru:BruTab w) (hmax:MaxVar w):Ev.OrcSound Tryz.prog 100 w.heap.size (Below w.heap.size w) (Ev.orcAdd zeF 317 (.bool true)):=
 (zgP w hpow hbru hmax).add rfl ((enters_of Tryz.func317 (by kernel_rfl) rfl) #[]) fun W _ hT=>aw01 W (zaF hpow hT) (zaD hbru hT) (zaC hmax hT)
theorem Aw01 (w:World) (hpow:PowTab w) (hbru:BruTab w) (hmax:MaxVar w):Calls Tryz.prog 316 #[] w fun e w'=>e= .returned (.bool true)∧Below w.heap.size w w':=
 zbD zuU rfl w (zlH w hpow hbru hmax)
theorem zpD (w:World) (hpow:PowTab w) (hbru:BruTab w) (hmax:MaxVar w):Ev.OrcSound Tryz.prog 100 w.heap.size (Below w.heap.size w) zrT:=
 (zlH w hpow hbru hmax).add rfl ((enters_of Tryz.func316 (by kernel_rfl) rfl) #[]) fun W _ hT=>Aw01 W (zaF hpow hT) (zaD hbru hT) (zaC hmax hT)
theorem zvL:Ev.runG Tryz.prog 100 (Ev.orcIn evL zrT) 100000 315 []=some (.bool true):=by kernel_rfl
theorem aw02 (w:World) (hpow:PowTab w) (hbru:BruTab w) (hmax:MaxVar w):Calls Tryz.prog 315 #[] w fun e w'=>e= .returned (.bool true)∧Below w.heap.size w w':=
 zbD zvL rfl w (zpD w hpow hbru hmax)
noncomputable def ztE:Ev.Orc:=Ev.orcAdd (Ev.orcAdd zrT 315 (.bool true)) 314 (.bool true)
theorem ztK:Ev.runG Tryz.prog 100 (Ev.orcIn evL (Ev.orcAdd zrT 315 (.bool true))) 100000 314 []=some (.bool true):=by kernel_rfl
theorem zmW (w:World) (hpow:PowTab w) (hbru:BruTab w) (hmax:MaxVar w):Ev.OrcSound Tryz.prog 100 w.heap.size (Below w.heap.size w) (Ev.orcAdd zrT 315 (.bool true)):=
 (zpD w hpow hbru hmax).add rfl ((enters_of Tryz.func315 (by kernel_rfl) rfl) #[]) fun W _ hT=>aw02 W (zaF hpow hT) (zaD hbru hT) (zaC hmax hT)
theorem Aw02 (w:World) (hpow:PowTab w) (hbru:BruTab w) (hmax:MaxVar w):Calls Tryz.prog 314 #[] w fun e w'=>e= .returned (.bool true)∧Below w.heap.size w w':=
 zbD ztK rfl w (zmW w hpow hbru hmax)
theorem zoN (w:World) (hpow:PowTab w) (hbru:BruTab w) (hmax:MaxVar w):Ev.OrcSound Tryz.prog 100 w.heap.size (Below w.heap.size w) ztE:=
 (zmW w hpow hbru hmax).add rfl ((enters_of Tryz.func314 (by kernel_rfl) rfl) #[]) fun W _ hT=>Aw02 W (zaF hpow hT) (zaD hbru hT) (zaC hmax hT)
theorem zsN:Ev.runG Tryz.prog 100 (Ev.orcIn evL ztE) 100000 313 []=some (.bool true):=by kernel_rfl
theorem aw03 (w:World) (hpow:PowTab w) (hbru:BruTab w) (hmax:MaxVar w):Calls Tryz.prog 313 #[] w fun e w'=>e= .returned (.bool true)∧Below w.heap.size w w':=
 zbD zsN rfl w (zoN w hpow hbru hmax)
noncomputable def zvR:Ev.Orc:=Ev.orcAdd (Ev.orcAdd ztE 313 (.bool true)) 312 (.bool true)
theorem zuL:Ev.runG Tryz.prog 100 (Ev.orcIn evL (Ev.orcAdd ztE 313 (.bool true))) 100000 312 []=some (.bool true):=by kernel_rfl
theorem zmX (w:World) (hpow:PowTab w) (hbru:BruTab w) (hmax:MaxVar w):Ev.OrcSound Tryz.prog 100 w.heap.size (Below w.heap.size w) (Ev.orcAdd ztE 313 (.bool true)):=
 (zoN w hpow hbru hmax).add rfl ((enters_of Tryz.func313 (by kernel_rfl) rfl) #[]) fun W _ hT=>aw03 W (zaF hpow hT) (zaD hbru hT) (zaC hmax hT)
theorem Aw03 (w:World) (hpow:PowTab w) (hbru:BruTab w) (hmax:MaxVar w):Calls Tryz.prog 312 #[] w fun e w'=>e= .returned (.bool true)∧Below w.heap.size w w':=
 zbD zuL rfl w (zmX w hpow hbru hmax)
theorem zoA (w:World) (hpow:PowTab w) (hbru:BruTab w) (hmax:MaxVar w):Ev.OrcSound Tryz.prog 100 w.heap.size (Below w.heap.size w) zvR:=
 (zmX w hpow hbru hmax).add rfl ((enters_of Tryz.func312 (by kernel_rfl) rfl) #[]) fun W _ hT=>Aw03 W (zaF hpow hT) (zaD hbru hT) (zaC hmax hT)
theorem zvE:Ev.runG Tryz.prog 100 (Ev.orcIn evL zvR) 100000 311 []=some (.bool true):=by kernel_rfl
theorem aw04 (w:World) (hpow:PowTab w) (hbru:BruTab w) (hmax:MaxVar w):Calls Tryz.prog 311 #[] w fun e w'=>e= .returned (.bool true)∧Below w.heap.size w w':=
 zbD zvE rfl w (zoA w hpow hbru hmax)
noncomputable def zuS:Ev.Orc:=Ev.orcAdd (Ev.orcAdd zvR 311 (.bool true)) 310 (.bool true)
theorem ztM:Ev.runG Tryz.prog 100 (Ev.orcIn evL (Ev.orcAdd zvR 311 (.bool true))) 100000 310 []=some (.bool true):=by kernel_rfl
theorem zmD (w:World) (hpow:PowTab w) (hbru:BruTab w) (hmax:MaxVar w):Ev.OrcSound Tryz.prog 100 w.heap.size (Below w.heap.size w) (Ev.orcAdd zvR 311 (.bool true)):=
 (zoA w hpow hbru hmax).add rfl ((enters_of Tryz.func311 (by kernel_rfl) rfl) #[]) fun W _ hT=>aw04 W (zaF hpow hT) (zaD hbru hT) (zaC hmax hT)
theorem Aw04 (w:World) (hpow:PowTab w) (hbru:BruTab w) (hmax:MaxVar w):Calls Tryz.prog 310 #[] w fun e w'=>e= .returned (.bool true)∧Below w.heap.size w w':=
 zbD ztM rfl w (zmD w hpow hbru hmax)
theorem zpK (w:World) (hpow:PowTab w) (hbru:BruTab w) (hmax:MaxVar w):Ev.OrcSound Tryz.prog 100 w.heap.size (Below w.heap.size w) zuS:=
 (zmD w hpow hbru hmax).add rfl ((enters_of Tryz.func310 (by kernel_rfl) rfl) #[]) fun W _ hT=>Aw04 W (zaF hpow hT) (zaD hbru hT) (zaC hmax hT)
theorem zrL:Ev.runG Tryz.prog 100 (Ev.orcIn evL zuS) 100000 309 []=some (.bool true):=by kernel_rfl
theorem aw05 (w:World) (hpow:PowTab w) (hbru:BruTab w) (hmax:MaxVar w):Calls Tryz.prog 309 #[] w fun e w'=>e= .returned (.bool true)∧Below w.heap.size w w':=
 zbD zrL rfl w (zpK w hpow hbru hmax)
noncomputable def zvK:Ev.Orc:=Ev.orcAdd (Ev.orcAdd zuS 309 (.bool true)) 307 (.bool true)
theorem zuP:Ev.runG Tryz.prog 100 (Ev.orcIn evL (Ev.orcAdd zuS 309 (.bool true))) 100000 307 []=some (.bool true):=by kernel_rfl
theorem zlO (w:World) (hpow:PowTab w) (hbru:BruTab w) (hmax:MaxVar w):Ev.OrcSound Tryz.prog 100 w.heap.size (Below w.heap.size w) (Ev.orcAdd zuS 309 (.bool true)):=
 (zpK w hpow hbru hmax).add rfl ((enters_of Tryz.func309 (by kernel_rfl) rfl) #[]) fun W _ hT=>aw05 W (zaF hpow hT) (zaD hbru hT) (zaC hmax hT)
theorem Aw05 (w:World) (hpow:PowTab w) (hbru:BruTab w) (hmax:MaxVar w):Calls Tryz.prog 307 #[] w fun e w'=>e= .returned (.bool true)∧Below w.heap.size w w':=
 zbD zuP rfl w (zlO w hpow hbru hmax)
theorem zpP (w:World) (hpow:PowTab w) (hbru:BruTab w) (hmax:MaxVar w):Ev.OrcSound Tryz.prog 100 w.heap.size (Below w.heap.size w) zvK:=
 (zlO w hpow hbru hmax).add rfl ((enters_of Tryz.func307 (by kernel_rfl) rfl) #[]) fun W _ hT=>Aw05 W (zaF hpow hT) (zaD hbru hT) (zaC hmax hT)
theorem zrG:Ev.runG Tryz.prog 100 (Ev.orcIn evL zvK) 100000 306 []=some (.bool true):=by kernel_rfl
theorem aw06 (w:World) (hpow:PowTab w) (hbru:BruTab w) (hmax:MaxVar w):Calls Tryz.prog 306 #[] w fun e w'=>e= .returned (.bool true)∧Below w.heap.size w w':=
 zbD zrG rfl w (zpP w hpow hbru hmax)
noncomputable def zrP:Ev.Orc:=Ev.orcAdd (Ev.orcAdd zvK 306 (.bool true)) 305 (.bool true)
theorem zsX:Ev.runG Tryz.prog 100 (Ev.orcIn evL (Ev.orcAdd zvK 306 (.bool true))) 100000 305 []=some (.bool true):=by kernel_rfl
theorem zmC (w:World) (hpow:PowTab w) (hbru:BruTab w) (hmax:MaxVar w):Ev.OrcSound Tryz.prog 100 w.heap.size (Below w.heap.size w) (Ev.orcAdd zvK 306 (.bool true)):=
 (zpP w hpow hbru hmax).add rfl ((enters_of Tryz.func306 (by kernel_rfl) rfl) #[]) fun W _ hT=>aw06 W (zaF hpow hT) (zaD hbru hT) (zaC hmax hT)
theorem Aw06 (w:World) (hpow:PowTab w) (hbru:BruTab w) (hmax:MaxVar w):Calls Tryz.prog 305 #[] w fun e w'=>e= .returned (.bool true)∧Below w.heap.size w w':=
 zbD zsX rfl w (zmC w hpow hbru hmax)
theorem zoU (w:World) (hpow:PowTab w) (hbru:BruTab w) (hmax:MaxVar w):Ev.OrcSound Tryz.prog 100 w.heap.size (Below w.heap.size w) zrP:=
 (zmC w hpow hbru hmax).add rfl ((enters_of Tryz.func305 (by kernel_rfl) rfl) #[]) fun W _ hT=>Aw06 W (zaF hpow hT) (zaD hbru hT) (zaC hmax hT)
theorem ztQ:Ev.runG Tryz.prog 100 (Ev.orcIn evL zrP) 100000 304 []=some (.bool true):=by kernel_rfl
theorem aw07 (w:World) (hpow:PowTab w) (hbru:BruTab w) (hmax:MaxVar w):Calls Tryz.prog 304 #[] w fun e w'=>e= .returned (.bool true)∧Below w.heap.size w w':=
 zbD ztQ rfl w (zoU w hpow hbru hmax)
noncomputable def zrW:Ev.Orc:=Ev.orcAdd (Ev.orcAdd zrP 304 (.bool true)) 303 (.bool true)
theorem zrJ:Ev.runG Tryz.prog 100 (Ev.orcIn evL (Ev.orcAdd zrP 304 (.bool true))) 100000 303 []=some (.bool true):=by kernel_rfl
theorem zlW (w:World) (hpow:PowTab w) (hbru:BruTab w) (hmax:MaxVar w):Ev.OrcSound Tryz.prog 100 w.heap.size (Below w.heap.size w) (Ev.orcAdd zrP 304 (.bool true)):=
 (zoU w hpow hbru hmax).add rfl ((enters_of Tryz.func304 (by kernel_rfl) rfl) #[]) fun W _ hT=>aw07 W (zaF hpow hT) (zaD hbru hT) (zaC hmax hT)
theorem Aw07 (w:World) (hpow:PowTab w) (hbru:BruTab w) (hmax:MaxVar w):Calls Tryz.prog 303 #[] w fun e w'=>e= .returned (.bool true)∧Below w.heap.size w w':=
 zbD zrJ rfl w (zlW w hpow hbru hmax)
theorem zoH (w:World) (hpow:PowTab w) (hbru:BruTab w) (hmax:MaxVar w):Ev.OrcSound Tryz.prog 100 w.heap.size (Below w.heap.size w) zrW:=
 (zlW w hpow hbru hmax).add rfl ((enters_of Tryz.func303 (by kernel_rfl) rfl) #[]) fun W _ hT=>Aw07 W (zaF hpow hT) (zaD hbru hT) (zaC hmax hT)
theorem zrN:Ev.runG Tryz.prog 100 (Ev.orcIn evL zrW) 100000 297 []=some (.bool true):=by kernel_rfl
theorem aw08 (w:World) (hpow:PowTab w) (hbru:BruTab w) (hmax:MaxVar w):Calls Tryz.prog 297 #[] w fun e w'=>e= .returned (.bool true)∧Below w.heap.size w w':=
 zbD zrN rfl w (zoH w hpow hbru hmax)
noncomputable def zvF:Ev.Orc:=Ev.orcAdd (Ev.orcAdd zrW 297 (.bool true)) 285 (.bool true)
theorem zuH:Ev.runG Tryz.prog 100 (Ev.orcIn evL (Ev.orcAdd zrW 297 (.bool true))) 100000 285 []=some (.bool true):=by kernel_rfl
theorem zmR (w:World) (hpow:PowTab w) (hbru:BruTab w) (hmax:MaxVar w):Ev.OrcSound Tryz.prog 100 w.heap.size (Below w.heap.size w) (Ev.orcAdd zrW 297 (.bool true)):=
 (zoH w hpow hbru hmax).add rfl ((enters_of Tryz.func297 (by kernel_rfl) rfl) #[]) fun W _ hT=>aw08 W (zaF hpow hT) (zaD hbru hT) (zaC hmax hT)
theorem Aw08 (w:World) (hpow:PowTab w) (hbru:BruTab w) (hmax:MaxVar w):Calls Tryz.prog 285 #[] w fun e w'=>e= .returned (.bool true)∧Below w.heap.size w w':=
 zbD zuH rfl w (zmR w hpow hbru hmax)
theorem zpY (w:World) (hpow:PowTab w) (hbru:BruTab w) (hmax:MaxVar w):Ev.OrcSound Tryz.prog 100 w.heap.size (Below w.heap.size w) zvF:=
 (zmR w hpow hbru hmax).add rfl ((enters_of Tryz.func285 (by kernel_rfl) rfl) #[]) fun W _ hT=>Aw08 W (zaF hpow hT) (zaD hbru hT) (zaC hmax hT)
theorem zuV:Ev.runG Tryz.prog 100 (Ev.orcIn evL zvF) 100000 273 []=some (.bool true):=by kernel_rfl
theorem aw09 (w:World) (hpow:PowTab w) (hbru:BruTab w) (hmax:MaxVar w):Calls Tryz.prog 273 #[] w fun e w'=>e= .returned (.bool true)∧Below w.heap.size w w':=
 zbD zuV rfl w (zpY w hpow hbru hmax)
noncomputable def zsO:Ev.Orc:=Ev.orcAdd (Ev.orcAdd zvF 273 (.bool true)) 261 (.bool true)
theorem ztU:Ev.runG Tryz.prog 100 (Ev.orcIn evL (Ev.orcAdd zvF 273 (.bool true))) 100000 261 []=some (.bool true):=by kernel_rfl
theorem zmN (w:World) (hpow:PowTab w) (hbru:BruTab w) (hmax:MaxVar w):Ev.OrcSound Tryz.prog 100 w.heap.size (Below w.heap.size w) (Ev.orcAdd zvF 273 (.bool true)):=
 (zpY w hpow hbru hmax).add rfl ((enters_of Tryz.func273 (by kernel_rfl) rfl) #[]) fun W _ hT=>aw09 W (zaF hpow hT) (zaD hbru hT) (zaC hmax hT)
theorem Aw09 (w:World) (hpow:PowTab w) (hbru:BruTab w) (hmax:MaxVar w):Calls Tryz.prog 261 #[] w fun e w'=>e= .returned (.bool true)∧Below w.heap.size w w':=
 zbD ztU rfl w (zmN w hpow hbru hmax)
theorem zoK (w:World) (hpow:PowTab w) (hbru:BruTab w) (hmax:MaxVar w):Ev.OrcSound Tryz.prog 100 w.heap.size (Below w.heap.size w) zsO:=
 (zmN w hpow hbru hmax).add rfl ((enters_of Tryz.func261 (by kernel_rfl) rfl) #[]) fun W _ hT=>Aw09 W (zaF hpow hT) (zaD hbru hT) (zaC hmax hT)
theorem zvP:Ev.runG Tryz.prog 100 (Ev.orcIn evL zsO) 100000 258 []=some (.bool true):=by kernel_rfl
theorem aw10 (w:World) (hpow:PowTab w) (hbru:BruTab w) (hmax:MaxVar w):Calls Tryz.prog 258 #[] w fun e w'=>e= .returned (.bool true)∧Below w.heap.size w w':=
 zbD zvP rfl w (zoK w hpow hbru hmax)
noncomputable def zrQ:Ev.Orc:=Ev.orcAdd (Ev.orcAdd zsO 258 (.bool true)) 257 (.bool true)
theorem zuF:Ev.runG Tryz.prog 100 (Ev.orcIn evL (Ev.orcAdd zsO 258 (.bool true))) 100000 257 []=some (.bool true):=by kernel_rfl
theorem zlD (w:World) (hpow:PowTab w) (hbru:BruTab w) (hmax:MaxVar w):Ev.OrcSound Tryz.prog 100 w.heap.size (Below w.heap.size w) (Ev.orcAdd zsO 258 (.bool true)):=
 (zoK w hpow hbru hmax).add rfl ((enters_of Tryz.func258 (by kernel_rfl) rfl) #[]) fun W _ hT=>aw10 W (zaF hpow hT) (zaD hbru hT) (zaC hmax hT)
theorem Aw10 (w:World) (hpow:PowTab w) (hbru:BruTab w) (hmax:MaxVar w):Calls Tryz.prog 257 #[] w fun e w'=>e= .returned (.bool true)∧Below w.heap.size w w':=
 zbD zuF rfl w (zlD w hpow hbru hmax)
theorem zoS (w:World) (hpow:PowTab w) (hbru:BruTab w) (hmax:MaxVar w):Ev.OrcSound Tryz.prog 100 w.heap.size (Below w.heap.size w) zrQ:=
 (zlD w hpow hbru hmax).add rfl ((enters_of Tryz.func257 (by kernel_rfl) rfl) #[]) fun W _ hT=>Aw10 W (zaF hpow hT) (zaD hbru hT) (zaC hmax hT)
theorem zvM:Ev.runG Tryz.prog 100 (Ev.orcIn evL zrQ) 100000 256 []=some (.bool true):=by kernel_rfl
theorem aw11 (w:World) (hpow:PowTab w) (hbru:BruTab w) (hmax:MaxVar w):Calls Tryz.prog 256 #[] w fun e w'=>e= .returned (.bool true)∧Below w.heap.size w w':=
 zbD zvM rfl w (zoS w hpow hbru hmax)
noncomputable def zuK:Ev.Orc:=Ev.orcAdd (Ev.orcAdd zrQ 256 (.bool true)) 252 (.bool true)
theorem zuA:Ev.runG Tryz.prog 100 (Ev.orcIn evL (Ev.orcAdd zrQ 256 (.bool true))) 100000 252 []=some (.bool true):=by kernel_rfl
theorem zlX (w:World) (hpow:PowTab w) (hbru:BruTab w) (hmax:MaxVar w):Ev.OrcSound Tryz.prog 100 w.heap.size (Below w.heap.size w) (Ev.orcAdd zrQ 256 (.bool true)):=
 (zoS w hpow hbru hmax).add rfl ((enters_of Tryz.func256 (by kernel_rfl) rfl) #[]) fun W _ hT=>aw11 W (zaF hpow hT) (zaD hbru hT) (zaC hmax hT)
theorem Aw11 (w:World) (hpow:PowTab w) (hbru:BruTab w) (hmax:MaxVar w):Calls Tryz.prog 252 #[] w fun e w'=>e= .returned (.bool true)∧Below w.heap.size w w':=
 zbD zuA rfl w (zlX w hpow hbru hmax)
theorem zoE (w:World) (hpow:PowTab w) (hbru:BruTab w) (hmax:MaxVar w):Ev.OrcSound Tryz.prog 100 w.heap.size (Below w.heap.size w) zuK:=
 (zlX w hpow hbru hmax).add rfl ((enters_of Tryz.func252 (by kernel_rfl) rfl) #[]) fun W _ hT=>Aw11 W (zaF hpow hT) (zaD hbru hT) (zaC hmax hT)
theorem zsH:Ev.runG Tryz.prog 100 (Ev.orcIn evL zuK) 100000 239 []=some (.bool true):=by kernel_rfl
theorem aw12 (w:World) (hpow:PowTab w) (hbru:BruTab w) (hmax:MaxVar w):Calls Tryz.prog 239 #[] w fun e w'=>e= .returned (.bool true)∧Below w.heap.size w w':=
 zbD zsH rfl w (zoE w hpow hbru hmax)
noncomputable def ztG:Ev.Orc:=Ev.orcAdd (Ev.orcAdd zuK 239 (.bool true)) 220 (.bool true)
theorem zuW:Ev.runG Tryz.prog 100 (Ev.orcIn evL (Ev.orcAdd zuK 239 (.bool true))) 100000 220 []=some (.bool true):=by kernel_rfl
theorem zmI (w:World) (hpow:PowTab w) (hbru:BruTab w) (hmax:MaxVar w):Ev.OrcSound Tryz.prog 100 w.heap.size (Below w.heap.size w) (Ev.orcAdd zuK 239 (.bool true)):=
 (zoE w hpow hbru hmax).add rfl ((enters_of Tryz.func239 (by kernel_rfl) rfl) #[]) fun W _ hT=>aw12 W (zaF hpow hT) (zaD hbru hT) (zaC hmax hT)
theorem Aw12 (w:World) (hpow:PowTab w) (hbru:BruTab w) (hmax:MaxVar w):Calls Tryz.prog 220 #[] w fun e w'=>e= .returned (.bool true)∧Below w.heap.size w w':=
 zbD zuW rfl w (zmI w hpow hbru hmax)
theorem zoZ (w:World) (hpow:PowTab w) (hbru:BruTab w) (hmax:MaxVar w):Ev.OrcSound Tryz.prog 100 w.heap.size (Below w.heap.size w) ztG:=
 (zmI w hpow hbru hmax).add rfl ((enters_of Tryz.func220 (by kernel_rfl) rfl) #[]) fun W _ hT=>Aw12 W (zaF hpow hT) (zaD hbru hT) (zaC hmax hT)
theorem zvB:Ev.runG Tryz.prog 100 (Ev.orcIn evL ztG) 100000 193 []=some (.bool true):=by kernel_rfl
theorem aw13 (w:World) (hpow:PowTab w) (hbru:BruTab w) (hmax:MaxVar w):Calls Tryz.prog 193 #[] w fun e w'=>e= .returned (.bool true)∧Below w.heap.size w w':=
 zbD zvB rfl w (zoZ w hpow hbru hmax)
noncomputable def zvD:Ev.Orc:=Ev.orcAdd (Ev.orcAdd ztG 193 (.bool true)) 143 (.bool true)
theorem zvS:Ev.runG Tryz.prog 100 (Ev.orcIn evL (Ev.orcAdd ztG 193 (.bool true))) 100000 143 []=some (.bool true):=by kernel_rfl
theorem zkN (w:World) (hpow:PowTab w) (hbru:BruTab w) (hmax:MaxVar w):Ev.OrcSound Tryz.prog 100 w.heap.size (Below w.heap.size w) (Ev.orcAdd ztG 193 (.bool true)):=
 (zoZ w hpow hbru hmax).add rfl ((enters_of Tryz.func193 (by kernel_rfl) rfl) #[]) fun W _ hT=>aw13 W (zaF hpow hT) (zaD hbru hT) (zaC hmax hT)
theorem Aw13 (w:World) (hpow:PowTab w) (hbru:BruTab w) (hmax:MaxVar w):Calls Tryz.prog 143 #[] w fun e w'=>e= .returned (.bool true)∧Below w.heap.size w w':=
 zbD zvS rfl w (zkN w hpow hbru hmax)
theorem zoG (w:World) (hpow:PowTab w) (hbru:BruTab w) (hmax:MaxVar w):Ev.OrcSound Tryz.prog 100 w.heap.size (Below w.heap.size w) zvD:=
 (zkN w hpow hbru hmax).add rfl ((enters_of Tryz.func143 (by kernel_rfl) rfl) #[]) fun W _ hT=>Aw13 W (zaF hpow hT) (zaD hbru hT) (zaC hmax hT)
theorem zrH:Ev.runG Tryz.prog 100 (Ev.orcIn evL zvD) 100000 93 []=some (.bool true):=by kernel_rfl
theorem aw14 (w:World) (hpow:PowTab w) (hbru:BruTab w) (hmax:MaxVar w):Calls Tryz.prog 93 #[] w fun e w'=>e= .returned (.bool true)∧Below w.heap.size w w':=
 zbD zrH rfl w (zoG w hpow hbru hmax)
noncomputable def zuG:Ev.Orc:=Ev.orcAdd (Ev.orcAdd zvD 93 (.bool true)) 39 (.bool true)
theorem zvH:Ev.runG Tryz.prog 100 (Ev.orcIn evL (Ev.orcAdd zvD 93 (.bool true))) 100000 39 []=some (.bool true):=by kernel_rfl
theorem zmV (w:World) (hpow:PowTab w) (hbru:BruTab w) (hmax:MaxVar w):Ev.OrcSound Tryz.prog 100 w.heap.size (Below w.heap.size w) (Ev.orcAdd zvD 93 (.bool true)):=
 (zoG w hpow hbru hmax).add rfl ((enters_of Tryz.func93 (by kernel_rfl) rfl) #[]) fun W _ hT=>aw14 W (zaF hpow hT) (zaD hbru hT) (zaC hmax hT)
theorem Aw14 (w:World) (hpow:PowTab w) (hbru:BruTab w) (hmax:MaxVar w):Calls Tryz.prog 39 #[] w fun e w'=>e= .returned (.bool true)∧Below w.heap.size w w':=
 zbD zvH rfl w (zmV w hpow hbru hmax)
theorem zpG (w:World) (hpow:PowTab w) (hbru:BruTab w) (hmax:MaxVar w):Ev.OrcSound Tryz.prog 100 w.heap.size (Below w.heap.size w) zuG:=
 (zmV w hpow hbru hmax).add rfl ((enters_of Tryz.func39 (by kernel_rfl) rfl) #[]) fun W _ hT=>Aw14 W (zaF hpow hT) (zaD hbru hT) (zaC hmax hT)
theorem zsE:Ev.runG Tryz.prog 100 (Ev.orcIn evL zuG) 100000 10 []=some (.bool true):=by kernel_rfl
theorem aw15 (w:World) (hpow:PowTab w) (hbru:BruTab w) (hmax:MaxVar w):Calls Tryz.prog 10 #[] w fun e w'=>e= .returned (.bool true)∧Below w.heap.size w w':=
 zbD zsE rfl w (zpG w hpow hbru hmax)
noncomputable def zvI:Ev.Orc:=Ev.orcAdd (Ev.orcAdd zuG 10 (.bool true)) 158 (.bool true)
theorem zsZ:Ev.runG Tryz.prog 100 (Ev.orcIn evL (Ev.orcAdd zuG 10 (.bool true))) 100000 158 []=some (.bool true):=by kernel_rfl
theorem zmL (w:World) (hpow:PowTab w) (hbru:BruTab w) (hmax:MaxVar w):Ev.OrcSound Tryz.prog 100 w.heap.size (Below w.heap.size w) (Ev.orcAdd zuG 10 (.bool true)):=
 (zpG w hpow hbru hmax).add rfl ((enters_of Tryz.func10 (by kernel_rfl) rfl) #[]) fun W _ hT=>aw15 W (zaF hpow hT) (zaD hbru hT) (zaC hmax hT)
theorem Aw15 (w:World) (hpow:PowTab w) (hbru:BruTab w) (hmax:MaxVar w):Calls Tryz.prog 158 #[] w fun e w'=>e= .returned (.bool true)∧Below w.heap.size w w':=
 zbD zsZ rfl w (zmL w hpow hbru hmax)
theorem zpH (w:World) (hpow:PowTab w) (hbru:BruTab w) (hmax:MaxVar w):Ev.OrcSound Tryz.prog 100 w.heap.size (Below w.heap.size w) zvI:=
 (zmL w hpow hbru hmax).add rfl ((enters_of Tryz.func158 (by kernel_rfl) rfl) #[]) fun W _ hT=>Aw15 W (zaF hpow hT) (zaD hbru hT) (zaC hmax hT)
theorem zsK:Ev.runG Tryz.prog 100 (Ev.orcIn evL zvI) 100000 109 []=some (.bool true):=by kernel_rfl
theorem aw16 (w:World) (hpow:PowTab w) (hbru:BruTab w) (hmax:MaxVar w):Calls Tryz.prog 109 #[] w fun e w'=>e= .returned (.bool true)∧Below w.heap.size w w':=
 zbD zsK rfl w (zpH w hpow hbru hmax)
noncomputable def zvV:Ev.Orc:=Ev.orcAdd (Ev.orcAdd zvI 109 (.bool true)) 59 (.bool true)
theorem zvT:Ev.runG Tryz.prog 100 (Ev.orcIn evL (Ev.orcAdd zvI 109 (.bool true))) 100000 59 []=some (.bool true):=by kernel_rfl
theorem zlY (w:World) (hpow:PowTab w) (hbru:BruTab w) (hmax:MaxVar w):Ev.OrcSound Tryz.prog 100 w.heap.size (Below w.heap.size w) (Ev.orcAdd zvI 109 (.bool true)):=
 (zpH w hpow hbru hmax).add rfl ((enters_of Tryz.func109 (by kernel_rfl) rfl) #[]) fun W _ hT=>aw16 W (zaF hpow hT) (zaD hbru hT) (zaC hmax hT)
theorem Aw16 (w:World) (hpow:PowTab w) (hbru:BruTab w) (hmax:MaxVar w):Calls Tryz.prog 59 #[] w fun e w'=>e= .returned (.bool true)∧Below w.heap.size w w':=
 zbD zvT rfl w (zlY w hpow hbru hmax)
theorem zoO (w:World) (hpow:PowTab w) (hbru:BruTab w) (hmax:MaxVar w):Ev.OrcSound Tryz.prog 100 w.heap.size (Below w.heap.size w) zvV:=
 (zlY w hpow hbru hmax).add rfl ((enters_of Tryz.func59 (by kernel_rfl) rfl) #[]) fun W _ hT=>Aw16 W (zaF hpow hT) (zaD hbru hT) (zaC hmax hT)
theorem zvW:Ev.runG Tryz.prog 100 (Ev.orcIn evL zvV) 100000 20 []=some (.bool true):=by kernel_rfl
theorem aw17 (w:World) (hpow:PowTab w) (hbru:BruTab w) (hmax:MaxVar w):Calls Tryz.prog 20 #[] w fun e w'=>e= .returned (.bool true)∧Below w.heap.size w w':=
 zbD zvW rfl w (zoO w hpow hbru hmax)
noncomputable def orc17:Ev.Orc:=Ev.orcAdd (Ev.orcAdd zvV 20 (.bool true)) 74 (.bool true)
theorem zsY:Ev.runG Tryz.prog 100 (Ev.orcIn evL (Ev.orcAdd zvV 20 (.bool true))) 100000 74 []=some (.bool true):=by kernel_rfl
theorem zlB (w:World) (hpow:PowTab w) (hbru:BruTab w) (hmax:MaxVar w):Ev.OrcSound Tryz.prog 100 w.heap.size (Below w.heap.size w) (Ev.orcAdd zvV 20 (.bool true)):=
 (zoO w hpow hbru hmax).add rfl ((enters_of Tryz.func20 (by kernel_rfl) rfl) #[]) fun W _ hT=>aw17 W (zaF hpow hT) (zaD hbru hT) (zaC hmax hT)
theorem Aw17 (w:World) (hpow:PowTab w) (hbru:BruTab w) (hmax:MaxVar w):Calls Tryz.prog 74 #[] w fun e w'=>e= .returned (.bool true)∧Below w.heap.size w w':=
 zbD zsY rfl w (zlB w hpow hbru hmax)
theorem zvZ (w:World) (hpow:PowTab w) (hbru:BruTab w) (hmax:MaxVar w):Ev.OrcSound Tryz.prog 100 w.heap.size (Below w.heap.size w) orc17:=
 (zlB w hpow hbru hmax).add rfl ((enters_of Tryz.func74 (by kernel_rfl) rfl) #[]) fun W _ hT=>Aw17 W (zaF hpow hT) (zaD hbru hT) (zaC hmax hT)
theorem zsR:Ev.runG Tryz.prog 100 (Ev.orcIn evL orc17) 100000 29 []=some (.bool true):=by kernel_rfl
theorem aw18 (w:World) (hpow:PowTab w) (hbru:BruTab w) (hmax:MaxVar w):Calls Tryz.prog 29 #[] w fun e w'=>e= .returned (.bool true)∧Below w.heap.size w w':=
 zbD zsR rfl w (zvZ w hpow hbru hmax)
end
end Go.Proofs.YtmjappnpedjlnaaGreatDoor
