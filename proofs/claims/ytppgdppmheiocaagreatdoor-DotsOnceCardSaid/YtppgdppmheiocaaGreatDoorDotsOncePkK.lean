/-
  What the law DotsOnce leans on, and its walk (11 of 33).
-/
import Derived.Test.YtppgdppmheiocaaGreatDoorEvB
import Derived.Shelf.Abstract
import Derived.Test.YtppgdppmheiocaaGreatDoorDotsOncePkE
import Derived.Test.YtppgdppmheiocaaGreatDoorDotsOncePkJ
namespace Go.Proofs.YtppgdppmheiocaaGreatDoor
set_option maxRecDepth 100000
set_option maxHeartbeats 16000000
section
open Go.RowKit
noncomputable def zkB:Ev.Orc:=Ev.orcWith (Ev.orcWith (Ev.orcWith (Ev.orcWith (Ev.orcWith (Ev.orcWith (Ev.orcWith (Ev.orcWith (Ev.orcWith (Ev.orcNone) 155 Ev.oReplace) 33 Ev.oJoin) 131 Ev.oItoa) 227 Ev.oTz) 220 Ev.oLen) 134 Ev.oCount) 135 Ev.oIndex) 132 Ev.oNoEscape) 148 Ev.oIndexByte
theorem zeK (w:World) (hpow:PowTab w) (hbru:BruTab w) (hmax:MaxVar w):Ev.OrcSound Tryz.prog 100 w.heap.size (Below w.heap.size w) zkB:=by
 refine Ev.orcNone_sound|>.with ?o0|>.with ?o1|>.with ?o2|>.with ?o3|>.with ?o4|>.with ?o5|>.with ?o6|>.with ?o7|>.with ?o8
 case o0=>exact Ev.oReplace_ok (enters_of Tryz.func155 (by kernel_rfl) rfl) fun s o n W hT h1 h2 h3=>by obtain ⟨m,hm⟩:=zaA hmax hT;exact Tryz.strings_ReplaceAll s o n m W h1 hm h2 h3
 case o1=>exact Ev.oJoin_ok (enters_of Tryz.func33 (by kernel_rfl) rfl) fun bk o c xs sep w h1 h2 h3 h4 h5=>Tryz.strings_Join bk o c xs sep w h1 h2 h3 h4 h5
 case o2=>exact Ev.oItoa_ok (enters_of Tryz.func131 (by kernel_rfl) rfl) fun n W hT h1 h2=>(Tryz.strconv_Itoa n h1 h2 W (zaC hpow hT)).mono (by rintro e w' ⟨rfl,k,os,rfl⟩;exact ⟨rfl,Lib.below_grow _ _ (Nat.le_refl _) _ _⟩)
 case o3=>exact Ev.oTz_ok (enters_of Tryz.func227 (by kernel_rfl) rfl) (fun W hT=>(tz64_8 W (zaB hbru hT)).mono fun _ _ h=>⟨h.1,h.2.symm⟩) (fun W hT=>(zjP W (zaB hbru hT)).mono fun _ _ h=>⟨h.1,h.2.symm⟩)
 case o4=>exact Ev.oLen_ok (enters_of Tryz.func220 (by kernel_rfl) rfl) fun x W h1 h2=>Tryz.bits_Len64 x W h1 h2
 case o5=>exact Ev.oCount_ok Tryz.func134 (by kernel_rfl) (by kernel_rfl) (by kernel_rfl) (by kernel_rfl)
 case o6=>exact Ev.oIndex_ok (enters_of Tryz.func135 (by kernel_rfl) rfl) fun s t W hT h=>by obtain ⟨m,hm⟩:=zaA hmax hT;exact Tryz.stringslite_Index s t m W h hm
 case o7=>exact Ev.oNoEscape_ok Tryz.func132 (by kernel_rfl) (by kernel_rfl) (by kernel_rfl) (by kernel_rfl)
 case o8=>exact Ev.oIndexByte_ok Tryz.func148 (by kernel_rfl) (by kernel_rfl) (by kernel_rfl) (by kernel_rfl)
theorem zjF:(Tryz.prog.funcs.toList.all fun f=> !(f.name== "runtime.NumGoroutine"))=true:=by kernel_rfl
theorem zeH:Ev.NoNum Tryz.prog:=fun g f h=>by
 have:=List.all_eq_true.1 zjF f (by simpa using Array.mem_of_getElem? h)
 simpa using this
theorem zeI:Tryz.prog.follows .mixedOrders=true:=by kernel_rfl
theorem zeP (w:World):Ev.Stays w.heap.size (Below w.heap.size w):=fun _ _ h k=>k.trans h
def evL:List Nat:=[10,23,33,34,58,69,105,131,132,134,135,137,148,155,159,182,207,220,224,227,228,229,232,243,249,254,258,261,263,265,271,272,273,274,275,277,278,279,280,281,282,283,284,285]
theorem zaG {orc:Ev.Orc} {n:Nat} {f:FuncId} {v:Value} (h:Ev.runG Tryz.prog 100 (Ev.orcIn evL orc) n f []=some v) (hv:Ev.pf 100 6 v=true) (w:World) (ho:Ev.OrcSound Tryz.prog 100 w.heap.size (Below w.heap.size w) orc):
  Calls Tryz.prog f #[] w fun e w'=>e= .returned v∧Below w.heap.size w w':=
 Ev.runF_sound (zeP w) zeH zeI (Ev.orcIn_ok evL ho) (Ev.runG_ok h) rfl hv w rfl (Below.refl _ _)
def memoT:List (List UInt8×Nat×Nat×Nat):=[([48,46,48,46,48,46,48,47,56],0,281470681743360,104),
 ([49,48,46,48,46,48,46,48,47,56],0,281470849515520,104),
 ([49,48,48,46,54,52,46,48,46,48,47,49,48],0,281472363659264,106),
 ([49,50,55,46,48,46,48,46,48,47,56],0,281472812449792,104),
 ([49,54,57,46,50,53,52,46,48,46,48,47,49,54],0,281473533739008,112),
 ([49,55,50,46,49,54,46,48,46,48,47,49,50],0,281473568473088,108),
 ([49,57,50,46,48,46,48,46,48,47,50,52],0,281473902968832,120),
 ([49,57,50,46,48,46,50,46,48,47,50,52],0,281473902969344,120),
 ([49,57,50,46,56,56,46,57,57,46,48,47,50,52],0,281473908761344,120),
 ([49,57,50,46,49,54,56,46,48,46,48,47,49,54],0,281473913978880,112),
 ([49,57,56,46,49,56,46,48,46,48,47,49,53],0,281474004811776,111),
 ([49,57,56,46,53,49,46,49,48,48,46,48,47,50,52],0,281474007000064,120),
 ([50,48,51,46,48,46,49,49,51,46,48,47,50,52],0,281474087547136,120),
 ([50,50,52,46,48,46,48,46,48,47,52],0,281474439839744,100),
 ([50,52,48,46,48,46,48,46,48,47,52],0,281474708275200,100),
 ([58,58,47,49,50,56],0,0,128),
 ([58,58,49,47,49,50,56],0,1,128),
 ([54,52,58,102,102,57,98,58,49,58,58,47,52,56],28428538856144896,0,48),
 ([49,48,48,58,58,47,54,52],72057594037927936,0,64),
 ([50,48,48,49,58,58,47,50,51],2306124484190404608,0,23),
 ([50,48,48,49,58,100,98,56,58,58,47,51,50],2306139568115548160,0,32),
 ([51,102,102,102,58,58,47,50,48],4611404543450677248,0,20),
 ([53,102,48,48,58,58,47,49,54],6845471433603153920,0,16),
 ([102,99,48,48,58,58,47,55],18158513697557839872,0,7),
 ([102,101,56,48,58,58,47,49,48],18338657682652659712,0,10),
 ([102,101,99,48,58,58,47,49,48],18356672081162141696,0,10),
 ([102,102,48,48,58,58,47,56],18374686479671623680,0,8)]
def zkA (x:List UInt8×Nat×Nat×Nat):Value:= .tuple ⟨[.agg ⟨[.int .u64 (.ofNat x.2.1),.int .u64 (.ofNat x.2.2.1),.int .i64 (.ofNat x.2.2.2)]⟩,.bool true]⟩
def isPf (r:Option Value) (a b c:Nat):Bool:=match r with
 |some (.tuple ⟨[.agg ⟨[.int .u64 (.ofNat x),.int .u64 (.ofNat y),.int .i64 (.ofNat z)]⟩,.bool true]⟩)=>Nat.beq x a&&(Nat.beq y b&&Nat.beq z c)
 |_=>false
theorem zjW {r:Option Value} {x:List UInt8×Nat×Nat×Nat} (h:isPf r x.2.1 x.2.2.1 x.2.2.2=true):r=some (zkA x):=by
 unfold isPf at h
 split at h
 ·rw [Bool.and_eq_true,Bool.and_eq_true] at h
  unfold zkA
  rw [Nat.eq_of_beq_eq_true h.1,Nat.eq_of_beq_eq_true h.2.1,Nat.eq_of_beq_eq_true h.2.2]
 ·cases h
theorem zhK:(memoT.all fun x=>isPf (Ev.runG Tryz.prog 100 (Ev.orcIn evL zkB) 100000 258 [.string ⟨x.1.toArray⟩]) x.2.1 x.2.2.1 x.2.2.2)=true:=by kernel_rfl
noncomputable def orcM:Ev.Orc:=Ev.orcWith zkB 258 (Ev.oMemo (memoT.map fun x=>(x.1,zkA x)))
theorem zjX (w:World) (hpow:PowTab w) (hbru:BruTab w) (hmax:MaxVar w):Ev.OrcSound Tryz.prog 100 w.heap.size (Below w.heap.size w) orcM:=by
 refine (zeK w hpow hbru hmax).with (Ev.oMemo_ok (enters_of Tryz.func258 (by kernel_rfl) rfl) (by kernel_rfl) fun x hx W hW hT=> ?_)
 obtain ⟨y,hy,rfl⟩:=List.mem_map.1 hx
 have h:=zjW (List.all_eq_true.1 zhK y hy)
 have h2:=Ev.runF_sound (zeP W) zeH zeI (Ev.orcIn_ok evL (zeK W (zaC hpow hT) (zaB hbru hT) (zaA hmax hT))) (Ev.runG_ok h) rfl rfl W rfl (Below.refl _ _)
 simpa using h2
def zgJ:Ev.OrcH:=fun args _=>match args with
 |[.agg ⟨[.int .u64 (.ofNat hi),.int .u64 (.ofNat lo),.int .i64 (.ofNat n)]⟩]=>(match Nat.blt hi 18446744073709551616&&Nat.blt lo 18446744073709551616 with|true=>some (.bool (zaH (zaD hi lo) (n:Int)))|false=>none)
 |_=>none
theorem zfT {base:Nat} {T:World→Prop}:Ev.OrcFn Tryz.prog 100 base T 249 zgJ:=by
 refine Ev.oFn_ok (enters_of Tryz.func249 (by kernel_rfl) rfl) fun args hp v hk=> ?_
 unfold zgJ at hk
 split at hk
 ·split at hk
  ·rename_i hc
   cases hk
   simp only [Bool.and_eq_true] at hc
   refine ⟨rfl,rfl,fun W _ _=> ?_⟩
   exact zaK _ _ _ W (Ev.blt_ok hc.1) (Ev.blt_ok hc.2)
  ·cases hk
 ·cases hk
noncomputable def zdF:Ev.Orc:=Ev.orcWith orcM 249 zgJ
theorem zdB (w:World) (hpow:PowTab w) (hbru:BruTab w) (hmax:MaxVar w):Ev.OrcSound Tryz.prog 100 w.heap.size (Below w.heap.size w) zdF:=(zjX w hpow hbru hmax).with zfT
def zdQ:Ev.OrcH:=fun args _=>match args with
 |[.agg ⟨[.int .u64 (.ofNat hi),.int .u64 (.ofNat lo),.int .i64 (.ofNat n)]⟩,.agg ⟨[.int .u64 (.ofNat hi2),.int .u64 (.ofNat lo2),.int .i64 (.ofNat m)]⟩]=>(match (Nat.blt hi 18446744073709551616&&Nat.blt lo 18446744073709551616)&&(Nat.blt hi2 18446744073709551616&&Nat.blt lo2 18446744073709551616) with|true=>some (.bool (zaN (zaD hi lo) (n:Int) (zaD hi2 lo2) (m:Int)))|false=>none)
 |_=>none
theorem zfL {base:Nat} {T:World→Prop}:Ev.OrcFn Tryz.prog 100 base T 261 zdQ:=by
 refine Ev.oFn_ok (enters_of Tryz.func261 (by kernel_rfl) rfl) fun args hp v hk=> ?_
 unfold zdQ at hk
 split at hk
 ·split at hk
  ·rename_i hc
   cases hk
   simp only [Bool.and_eq_true] at hc
   refine ⟨rfl,rfl,fun W _ _=> ?_⟩
   exact zfP _ _ _ _ _ _ W (Ev.blt_ok hc.1.1) (Ev.blt_ok hc.1.2) (Ev.blt_ok hc.2.1) (Ev.blt_ok hc.2.2)
  ·cases hk
 ·cases hk
noncomputable def zcE:Ev.Orc:=Ev.orcWith zdF 261 zdQ
theorem zcO (w:World) (hpow:PowTab w) (hbru:BruTab w) (hmax:MaxVar w):Ev.OrcSound Tryz.prog 100 w.heap.size (Below w.heap.size w) zcE:=(zdB w hpow hbru hmax).with zfL
def zdU:Ev.OrcH:=fun args _=>match args with
 |[.agg ⟨[.int .u64 (.ofNat hi),.int .u64 (.ofNat lo),.int .i64 (.ofNat n)]⟩,.agg ⟨[.int .u64 (.ofNat ph),.int .u64 (.ofNat pl),.int .i64 (.ofNat k)]⟩]=>(match ((Nat.blt hi 18446744073709551616&&Nat.blt lo 18446744073709551616)&&(Nat.blt ph 18446744073709551616&&Nat.blt pl 18446744073709551616))&&(Nat.ble n 128&&Nat.ble k 128) with|true=>some (pfW (ofW (zaD ph pl) (zbJ (zaD hi lo) n (zaD ph pl) k)) (zbJ (zaD hi lo) n (zaD ph pl) k:Nat))|false=>none)
 |_=>none
theorem zfN {base:Nat} {T:World→Prop}:Ev.OrcFn Tryz.prog 100 base T 263 zdU:=by
 refine Ev.oFn_ok (enters_of Tryz.func263 (by kernel_rfl) rfl) fun args hp v hk=> ?_
 unfold zdU at hk
 split at hk
 ·split at hk
  ·rename_i hc
   cases hk
   simp only [Bool.and_eq_true] at hc
   refine ⟨rfl,rfl,fun W _ _=> ?_⟩
   exact zfK _ _ _ _ _ _ W (Ev.blt_ok hc.1.1.1) (Ev.blt_ok hc.1.1.2) (Ev.blt_ok hc.1.2.1) (Ev.blt_ok hc.1.2.2) (Nat.le_of_ble_eq_true hc.2.1) (Nat.le_of_ble_eq_true hc.2.2)
  ·cases hk
 ·cases hk
noncomputable def zaS:Ev.Orc:=Ev.orcWith zcE 263 zdU
theorem zbF (w:World) (hpow:PowTab w) (hbru:BruTab w) (hmax:MaxVar w):Ev.OrcSound Tryz.prog 100 w.heap.size (Below w.heap.size w) zaS:=(zcO w hpow hbru hmax).with zfN
theorem zhJ:Ev.runG Tryz.prog 100 (Ev.orcIn evL zaS) 100000 285 []=some (.bool true):=by kernel_rfl
theorem aw01 (w:World) (hpow:PowTab w) (hbru:BruTab w) (hmax:MaxVar w):Calls Tryz.prog 285 #[] w fun e w'=>e= .returned (.bool true)∧Below w.heap.size w w':=
 zaG zhJ rfl w (zbF w hpow hbru hmax)
noncomputable def zgU:Ev.Orc:=Ev.orcAdd (Ev.orcAdd zaS 285 (.bool true)) 284 (.bool true)
theorem zfR:Ev.runG Tryz.prog 100 (Ev.orcIn evL (Ev.orcAdd zaS 285 (.bool true))) 100000 284 []=some (.bool true):=by kernel_rfl
theorem zdO (w:World) (hpow:PowTab w) (hbru:BruTab w) (hmax:MaxVar w):Ev.OrcSound Tryz.prog 100 w.heap.size (Below w.heap.size w) (Ev.orcAdd zaS 285 (.bool true)):=
 (zbF w hpow hbru hmax).add rfl ((enters_of Tryz.func285 (by kernel_rfl) rfl) #[]) fun W _ hT=>aw01 W (zaC hpow hT) (zaB hbru hT) (zaA hmax hT)
theorem Aw01 (w:World) (hpow:PowTab w) (hbru:BruTab w) (hmax:MaxVar w):Calls Tryz.prog 284 #[] w fun e w'=>e= .returned (.bool true)∧Below w.heap.size w w':=
 zaG zfR rfl w (zdO w hpow hbru hmax)
theorem zeZ (w:World) (hpow:PowTab w) (hbru:BruTab w) (hmax:MaxVar w):Ev.OrcSound Tryz.prog 100 w.heap.size (Below w.heap.size w) zgU:=
 (zdO w hpow hbru hmax).add rfl ((enters_of Tryz.func284 (by kernel_rfl) rfl) #[]) fun W _ hT=>Aw01 W (zaC hpow hT) (zaB hbru hT) (zaA hmax hT)
theorem zfU:Ev.runG Tryz.prog 100 (Ev.orcIn evL zgU) 100000 283 []=some (.bool true):=by kernel_rfl
theorem aw02 (w:World) (hpow:PowTab w) (hbru:BruTab w) (hmax:MaxVar w):Calls Tryz.prog 283 #[] w fun e w'=>e= .returned (.bool true)∧Below w.heap.size w w':=
 zaG zfU rfl w (zeZ w hpow hbru hmax)
noncomputable def zhB:Ev.Orc:=Ev.orcAdd (Ev.orcAdd zgU 283 (.bool true)) 282 (.bool true)
theorem zgY:Ev.runG Tryz.prog 100 (Ev.orcIn evL (Ev.orcAdd zgU 283 (.bool true))) 100000 282 []=some (.bool true):=by kernel_rfl
theorem zcY (w:World) (hpow:PowTab w) (hbru:BruTab w) (hmax:MaxVar w):Ev.OrcSound Tryz.prog 100 w.heap.size (Below w.heap.size w) (Ev.orcAdd zgU 283 (.bool true)):=
 (zeZ w hpow hbru hmax).add rfl ((enters_of Tryz.func283 (by kernel_rfl) rfl) #[]) fun W _ hT=>aw02 W (zaC hpow hT) (zaB hbru hT) (zaA hmax hT)
theorem Aw02 (w:World) (hpow:PowTab w) (hbru:BruTab w) (hmax:MaxVar w):Calls Tryz.prog 282 #[] w fun e w'=>e= .returned (.bool true)∧Below w.heap.size w w':=
 zaG zgY rfl w (zcY w hpow hbru hmax)
theorem zeY (w:World) (hpow:PowTab w) (hbru:BruTab w) (hmax:MaxVar w):Ev.OrcSound Tryz.prog 100 w.heap.size (Below w.heap.size w) zhB:=
 (zcY w hpow hbru hmax).add rfl ((enters_of Tryz.func282 (by kernel_rfl) rfl) #[]) fun W _ hT=>Aw02 W (zaC hpow hT) (zaB hbru hT) (zaA hmax hT)
theorem zhO:Ev.runG Tryz.prog 100 (Ev.orcIn evL zhB) 100000 281 []=some (.bool true):=by kernel_rfl
theorem aw03 (w:World) (hpow:PowTab w) (hbru:BruTab w) (hmax:MaxVar w):Calls Tryz.prog 281 #[] w fun e w'=>e= .returned (.bool true)∧Below w.heap.size w w':=
 zaG zhO rfl w (zeY w hpow hbru hmax)
noncomputable def zhD:Ev.Orc:=Ev.orcAdd (Ev.orcAdd zhB 281 (.bool true)) 280 (.bool true)
theorem zfX:Ev.runG Tryz.prog 100 (Ev.orcIn evL (Ev.orcAdd zhB 281 (.bool true))) 100000 280 []=some (.bool true):=by kernel_rfl
theorem zcT (w:World) (hpow:PowTab w) (hbru:BruTab w) (hmax:MaxVar w):Ev.OrcSound Tryz.prog 100 w.heap.size (Below w.heap.size w) (Ev.orcAdd zhB 281 (.bool true)):=
 (zeY w hpow hbru hmax).add rfl ((enters_of Tryz.func281 (by kernel_rfl) rfl) #[]) fun W _ hT=>aw03 W (zaC hpow hT) (zaB hbru hT) (zaA hmax hT)
theorem Aw03 (w:World) (hpow:PowTab w) (hbru:BruTab w) (hmax:MaxVar w):Calls Tryz.prog 280 #[] w fun e w'=>e= .returned (.bool true)∧Below w.heap.size w w':=
 zaG zfX rfl w (zcT w hpow hbru hmax)
theorem zeQ (w:World) (hpow:PowTab w) (hbru:BruTab w) (hmax:MaxVar w):Ev.OrcSound Tryz.prog 100 w.heap.size (Below w.heap.size w) zhD:=
 (zcT w hpow hbru hmax).add rfl ((enters_of Tryz.func280 (by kernel_rfl) rfl) #[]) fun W _ hT=>Aw03 W (zaC hpow hT) (zaB hbru hT) (zaA hmax hT)
theorem zhR:Ev.runG Tryz.prog 100 (Ev.orcIn evL zhD) 100000 279 []=some (.bool true):=by kernel_rfl
theorem aw04 (w:World) (hpow:PowTab w) (hbru:BruTab w) (hmax:MaxVar w):Calls Tryz.prog 279 #[] w fun e w'=>e= .returned (.bool true)∧Below w.heap.size w w':=
 zaG zhR rfl w (zeQ w hpow hbru hmax)
noncomputable def ziE:Ev.Orc:=Ev.orcAdd (Ev.orcAdd zhD 279 (.bool true)) 278 (.bool true)
theorem zhN:Ev.runG Tryz.prog 100 (Ev.orcIn evL (Ev.orcAdd zhD 279 (.bool true))) 100000 278 []=some (.bool true):=by kernel_rfl
theorem zdH (w:World) (hpow:PowTab w) (hbru:BruTab w) (hmax:MaxVar w):Ev.OrcSound Tryz.prog 100 w.heap.size (Below w.heap.size w) (Ev.orcAdd zhD 279 (.bool true)):=
 (zeQ w hpow hbru hmax).add rfl ((enters_of Tryz.func279 (by kernel_rfl) rfl) #[]) fun W _ hT=>aw04 W (zaC hpow hT) (zaB hbru hT) (zaA hmax hT)
theorem Aw04 (w:World) (hpow:PowTab w) (hbru:BruTab w) (hmax:MaxVar w):Calls Tryz.prog 278 #[] w fun e w'=>e= .returned (.bool true)∧Below w.heap.size w w':=
 zaG zhN rfl w (zdH w hpow hbru hmax)
theorem zeC (w:World) (hpow:PowTab w) (hbru:BruTab w) (hmax:MaxVar w):Ev.OrcSound Tryz.prog 100 w.heap.size (Below w.heap.size w) ziE:=
 (zdH w hpow hbru hmax).add rfl ((enters_of Tryz.func278 (by kernel_rfl) rfl) #[]) fun W _ hT=>Aw04 W (zaC hpow hT) (zaB hbru hT) (zaA hmax hT)
theorem zgA:Ev.runG Tryz.prog 100 (Ev.orcIn evL ziE) 100000 277 []=some (.bool true):=by kernel_rfl
theorem aw05 (w:World) (hpow:PowTab w) (hbru:BruTab w) (hmax:MaxVar w):Calls Tryz.prog 277 #[] w fun e w'=>e= .returned (.bool true)∧Below w.heap.size w w':=
 zaG zgA rfl w (zeC w hpow hbru hmax)
noncomputable def zfW:Ev.Orc:=Ev.orcAdd (Ev.orcAdd ziE 277 (.bool true)) 275 (.bool true)
theorem zhY:Ev.runG Tryz.prog 100 (Ev.orcIn evL (Ev.orcAdd ziE 277 (.bool true))) 100000 275 []=some (.bool true):=by kernel_rfl
theorem zdK (w:World) (hpow:PowTab w) (hbru:BruTab w) (hmax:MaxVar w):Ev.OrcSound Tryz.prog 100 w.heap.size (Below w.heap.size w) (Ev.orcAdd ziE 277 (.bool true)):=
 (zeC w hpow hbru hmax).add rfl ((enters_of Tryz.func277 (by kernel_rfl) rfl) #[]) fun W _ hT=>aw05 W (zaC hpow hT) (zaB hbru hT) (zaA hmax hT)
theorem Aw05 (w:World) (hpow:PowTab w) (hbru:BruTab w) (hmax:MaxVar w):Calls Tryz.prog 275 #[] w fun e w'=>e= .returned (.bool true)∧Below w.heap.size w w':=
 zaG zhY rfl w (zdK w hpow hbru hmax)
theorem zeW (w:World) (hpow:PowTab w) (hbru:BruTab w) (hmax:MaxVar w):Ev.OrcSound Tryz.prog 100 w.heap.size (Below w.heap.size w) zfW:=
 (zdK w hpow hbru hmax).add rfl ((enters_of Tryz.func275 (by kernel_rfl) rfl) #[]) fun W _ hT=>Aw05 W (zaC hpow hT) (zaB hbru hT) (zaA hmax hT)
theorem zgL:Ev.runG Tryz.prog 100 (Ev.orcIn evL zfW) 100000 274 []=some (.bool true):=by kernel_rfl
theorem aw06 (w:World) (hpow:PowTab w) (hbru:BruTab w) (hmax:MaxVar w):Calls Tryz.prog 274 #[] w fun e w'=>e= .returned (.bool true)∧Below w.heap.size w w':=
 zaG zgL rfl w (zeW w hpow hbru hmax)
noncomputable def zhX:Ev.Orc:=Ev.orcAdd (Ev.orcAdd zfW 274 (.bool true)) 273 (.bool true)
theorem zgR:Ev.runG Tryz.prog 100 (Ev.orcIn evL (Ev.orcAdd zfW 274 (.bool true))) 100000 273 []=some (.bool true):=by kernel_rfl
theorem zcU (w:World) (hpow:PowTab w) (hbru:BruTab w) (hmax:MaxVar w):Ev.OrcSound Tryz.prog 100 w.heap.size (Below w.heap.size w) (Ev.orcAdd zfW 274 (.bool true)):=
 (zeW w hpow hbru hmax).add rfl ((enters_of Tryz.func274 (by kernel_rfl) rfl) #[]) fun W _ hT=>aw06 W (zaC hpow hT) (zaB hbru hT) (zaA hmax hT)
theorem Aw06 (w:World) (hpow:PowTab w) (hbru:BruTab w) (hmax:MaxVar w):Calls Tryz.prog 273 #[] w fun e w'=>e= .returned (.bool true)∧Below w.heap.size w w':=
 zaG zgR rfl w (zcU w hpow hbru hmax)
theorem zeS (w:World) (hpow:PowTab w) (hbru:BruTab w) (hmax:MaxVar w):Ev.OrcSound Tryz.prog 100 w.heap.size (Below w.heap.size w) zhX:=
 (zcU w hpow hbru hmax).add rfl ((enters_of Tryz.func273 (by kernel_rfl) rfl) #[]) fun W _ hT=>Aw06 W (zaC hpow hT) (zaB hbru hT) (zaA hmax hT)
theorem zhE:Ev.runG Tryz.prog 100 (Ev.orcIn evL zhX) 100000 272 []=some (.bool true):=by kernel_rfl
theorem aw07 (w:World) (hpow:PowTab w) (hbru:BruTab w) (hmax:MaxVar w):Calls Tryz.prog 272 #[] w fun e w'=>e= .returned (.bool true)∧Below w.heap.size w w':=
 zaG zhE rfl w (zeS w hpow hbru hmax)
noncomputable def zfS:Ev.Orc:=Ev.orcAdd (Ev.orcAdd zhX 272 (.bool true)) 271 (.bool true)
theorem ziA:Ev.runG Tryz.prog 100 (Ev.orcIn evL (Ev.orcAdd zhX 272 (.bool true))) 100000 271 []=some (.bool true):=by kernel_rfl
theorem zcR (w:World) (hpow:PowTab w) (hbru:BruTab w) (hmax:MaxVar w):Ev.OrcSound Tryz.prog 100 w.heap.size (Below w.heap.size w) (Ev.orcAdd zhX 272 (.bool true)):=
 (zeS w hpow hbru hmax).add rfl ((enters_of Tryz.func272 (by kernel_rfl) rfl) #[]) fun W _ hT=>aw07 W (zaC hpow hT) (zaB hbru hT) (zaA hmax hT)
theorem Aw07 (w:World) (hpow:PowTab w) (hbru:BruTab w) (hmax:MaxVar w):Calls Tryz.prog 271 #[] w fun e w'=>e= .returned (.bool true)∧Below w.heap.size w w':=
 zaG ziA rfl w (zcR w hpow hbru hmax)
theorem zeE (w:World) (hpow:PowTab w) (hbru:BruTab w) (hmax:MaxVar w):Ev.OrcSound Tryz.prog 100 w.heap.size (Below w.heap.size w) zfS:=
 (zcR w hpow hbru hmax).add rfl ((enters_of Tryz.func271 (by kernel_rfl) rfl) #[]) fun W _ hT=>Aw07 W (zaC hpow hT) (zaB hbru hT) (zaA hmax hT)
theorem zgX:Ev.runG Tryz.prog 100 (Ev.orcIn evL zfS) 100000 265 []=some (.bool true):=by kernel_rfl
theorem aw08 (w:World) (hpow:PowTab w) (hbru:BruTab w) (hmax:MaxVar w):Calls Tryz.prog 265 #[] w fun e w'=>e= .returned (.bool true)∧Below w.heap.size w w':=
 zaG zgX rfl w (zeE w hpow hbru hmax)
noncomputable def zhG:Ev.Orc:=Ev.orcAdd (Ev.orcAdd zfS 265 (.bool true)) 254 (.bool true)
theorem zgZ:Ev.runG Tryz.prog 100 (Ev.orcIn evL (Ev.orcAdd zfS 265 (.bool true))) 100000 254 []=some (.bool true):=by kernel_rfl
theorem zcS (w:World) (hpow:PowTab w) (hbru:BruTab w) (hmax:MaxVar w):Ev.OrcSound Tryz.prog 100 w.heap.size (Below w.heap.size w) (Ev.orcAdd zfS 265 (.bool true)):=
 (zeE w hpow hbru hmax).add rfl ((enters_of Tryz.func265 (by kernel_rfl) rfl) #[]) fun W _ hT=>aw08 W (zaC hpow hT) (zaB hbru hT) (zaA hmax hT)
theorem Aw08 (w:World) (hpow:PowTab w) (hbru:BruTab w) (hmax:MaxVar w):Calls Tryz.prog 254 #[] w fun e w'=>e= .returned (.bool true)∧Below w.heap.size w w':=
 zaG zgZ rfl w (zcS w hpow hbru hmax)
theorem zeG (w:World) (hpow:PowTab w) (hbru:BruTab w) (hmax:MaxVar w):Ev.OrcSound Tryz.prog 100 w.heap.size (Below w.heap.size w) zhG:=
 (zcS w hpow hbru hmax).add rfl ((enters_of Tryz.func254 (by kernel_rfl) rfl) #[]) fun W _ hT=>Aw08 W (zaC hpow hT) (zaB hbru hT) (zaA hmax hT)
theorem zgG:Ev.runG Tryz.prog 100 (Ev.orcIn evL zhG) 100000 243 []=some (.bool true):=by kernel_rfl
theorem aw09 (w:World) (hpow:PowTab w) (hbru:BruTab w) (hmax:MaxVar w):Calls Tryz.prog 243 #[] w fun e w'=>e= .returned (.bool true)∧Below w.heap.size w w':=
 zaG zgG rfl w (zeG w hpow hbru hmax)
noncomputable def zgW:Ev.Orc:=Ev.orcAdd (Ev.orcAdd zhG 243 (.bool true)) 232 (.bool true)
theorem zgN:Ev.runG Tryz.prog 100 (Ev.orcIn evL (Ev.orcAdd zhG 243 (.bool true))) 100000 232 []=some (.bool true):=by kernel_rfl
theorem zcX (w:World) (hpow:PowTab w) (hbru:BruTab w) (hmax:MaxVar w):Ev.OrcSound Tryz.prog 100 w.heap.size (Below w.heap.size w) (Ev.orcAdd zhG 243 (.bool true)):=
 (zeG w hpow hbru hmax).add rfl ((enters_of Tryz.func243 (by kernel_rfl) rfl) #[]) fun W _ hT=>aw09 W (zaC hpow hT) (zaB hbru hT) (zaA hmax hT)
theorem Aw09 (w:World) (hpow:PowTab w) (hbru:BruTab w) (hmax:MaxVar w):Calls Tryz.prog 232 #[] w fun e w'=>e= .returned (.bool true)∧Below w.heap.size w w':=
 zaG zgN rfl w (zcX w hpow hbru hmax)
theorem zeV (w:World) (hpow:PowTab w) (hbru:BruTab w) (hmax:MaxVar w):Ev.OrcSound Tryz.prog 100 w.heap.size (Below w.heap.size w) zgW:=
 (zcX w hpow hbru hmax).add rfl ((enters_of Tryz.func232 (by kernel_rfl) rfl) #[]) fun W _ hT=>Aw09 W (zaC hpow hT) (zaB hbru hT) (zaA hmax hT)
theorem ziC:Ev.runG Tryz.prog 100 (Ev.orcIn evL zgW) 100000 229 []=some (.bool true):=by kernel_rfl
theorem aw10 (w:World) (hpow:PowTab w) (hbru:BruTab w) (hmax:MaxVar w):Calls Tryz.prog 229 #[] w fun e w'=>e= .returned (.bool true)∧Below w.heap.size w w':=
 zaG ziC rfl w (zeV w hpow hbru hmax)
noncomputable def zgC:Ev.Orc:=Ev.orcAdd (Ev.orcAdd zgW 229 (.bool true)) 228 (.bool true)
theorem zhS:Ev.runG Tryz.prog 100 (Ev.orcIn evL (Ev.orcAdd zgW 229 (.bool true))) 100000 228 []=some (.bool true):=by kernel_rfl
theorem zcW (w:World) (hpow:PowTab w) (hbru:BruTab w) (hmax:MaxVar w):Ev.OrcSound Tryz.prog 100 w.heap.size (Below w.heap.size w) (Ev.orcAdd zgW 229 (.bool true)):=
 (zeV w hpow hbru hmax).add rfl ((enters_of Tryz.func229 (by kernel_rfl) rfl) #[]) fun W _ hT=>aw10 W (zaC hpow hT) (zaB hbru hT) (zaA hmax hT)
theorem Aw10 (w:World) (hpow:PowTab w) (hbru:BruTab w) (hmax:MaxVar w):Calls Tryz.prog 228 #[] w fun e w'=>e= .returned (.bool true)∧Below w.heap.size w w':=
 zaG zhS rfl w (zcW w hpow hbru hmax)
theorem zeD (w:World) (hpow:PowTab w) (hbru:BruTab w) (hmax:MaxVar w):Ev.OrcSound Tryz.prog 100 w.heap.size (Below w.heap.size w) zgC:=
 (zcW w hpow hbru hmax).add rfl ((enters_of Tryz.func228 (by kernel_rfl) rfl) #[]) fun W _ hT=>Aw10 W (zaC hpow hT) (zaB hbru hT) (zaA hmax hT)
theorem zhA:Ev.runG Tryz.prog 100 (Ev.orcIn evL zgC) 100000 224 []=some (.bool true):=by kernel_rfl
theorem aw11 (w:World) (hpow:PowTab w) (hbru:BruTab w) (hmax:MaxVar w):Calls Tryz.prog 224 #[] w fun e w'=>e= .returned (.bool true)∧Below w.heap.size w w':=
 zaG zhA rfl w (zeD w hpow hbru hmax)
noncomputable def zhH:Ev.Orc:=Ev.orcAdd (Ev.orcAdd zgC 224 (.bool true)) 207 (.bool true)
theorem zgD:Ev.runG Tryz.prog 100 (Ev.orcIn evL (Ev.orcAdd zgC 224 (.bool true))) 100000 207 []=some (.bool true):=by kernel_rfl
theorem zdD (w:World) (hpow:PowTab w) (hbru:BruTab w) (hmax:MaxVar w):Ev.OrcSound Tryz.prog 100 w.heap.size (Below w.heap.size w) (Ev.orcAdd zgC 224 (.bool true)):=
 (zeD w hpow hbru hmax).add rfl ((enters_of Tryz.func224 (by kernel_rfl) rfl) #[]) fun W _ hT=>aw11 W (zaC hpow hT) (zaB hbru hT) (zaA hmax hT)
theorem Aw11 (w:World) (hpow:PowTab w) (hbru:BruTab w) (hmax:MaxVar w):Calls Tryz.prog 207 #[] w fun e w'=>e= .returned (.bool true)∧Below w.heap.size w w':=
 zaG zgD rfl w (zdD w hpow hbru hmax)
theorem zfD (w:World) (hpow:PowTab w) (hbru:BruTab w) (hmax:MaxVar w):Ev.OrcSound Tryz.prog 100 w.heap.size (Below w.heap.size w) zhH:=
 (zdD w hpow hbru hmax).add rfl ((enters_of Tryz.func207 (by kernel_rfl) rfl) #[]) fun W _ hT=>Aw11 W (zaC hpow hT) (zaB hbru hT) (zaA hmax hT)
theorem ziB:Ev.runG Tryz.prog 100 (Ev.orcIn evL zhH) 100000 182 []=some (.bool true):=by kernel_rfl
theorem aw12 (w:World) (hpow:PowTab w) (hbru:BruTab w) (hmax:MaxVar w):Calls Tryz.prog 182 #[] w fun e w'=>e= .returned (.bool true)∧Below w.heap.size w w':=
 zaG ziB rfl w (zfD w hpow hbru hmax)
noncomputable def zgV:Ev.Orc:=Ev.orcAdd (Ev.orcAdd zhH 182 (.bool true)) 159 (.bool true)
theorem zhT:Ev.runG Tryz.prog 100 (Ev.orcIn evL (Ev.orcAdd zhH 182 (.bool true))) 100000 159 []=some (.bool true):=by kernel_rfl
theorem zdL (w:World) (hpow:PowTab w) (hbru:BruTab w) (hmax:MaxVar w):Ev.OrcSound Tryz.prog 100 w.heap.size (Below w.heap.size w) (Ev.orcAdd zhH 182 (.bool true)):=
 (zfD w hpow hbru hmax).add rfl ((enters_of Tryz.func182 (by kernel_rfl) rfl) #[]) fun W _ hT=>aw12 W (zaC hpow hT) (zaB hbru hT) (zaA hmax hT)
theorem Aw12 (w:World) (hpow:PowTab w) (hbru:BruTab w) (hmax:MaxVar w):Calls Tryz.prog 159 #[] w fun e w'=>e= .returned (.bool true)∧Below w.heap.size w w':=
 zaG zhT rfl w (zdL w hpow hbru hmax)
theorem zeF (w:World) (hpow:PowTab w) (hbru:BruTab w) (hmax:MaxVar w):Ev.OrcSound Tryz.prog 100 w.heap.size (Below w.heap.size w) zgV:=
 (zdL w hpow hbru hmax).add rfl ((enters_of Tryz.func159 (by kernel_rfl) rfl) #[]) fun W _ hT=>Aw12 W (zaC hpow hT) (zaB hbru hT) (zaA hmax hT)
theorem zgH:Ev.runG Tryz.prog 100 (Ev.orcIn evL zgV) 100000 137 []=some (.bool true):=by kernel_rfl
theorem aw13 (w:World) (hpow:PowTab w) (hbru:BruTab w) (hmax:MaxVar w):Calls Tryz.prog 137 #[] w fun e w'=>e= .returned (.bool true)∧Below w.heap.size w w':=
 zaG zgH rfl w (zeF w hpow hbru hmax)
noncomputable def zhI:Ev.Orc:=Ev.orcAdd (Ev.orcAdd zgV 137 (.bool true)) 105 (.bool true)
theorem zhL:Ev.runG Tryz.prog 100 (Ev.orcIn evL (Ev.orcAdd zgV 137 (.bool true))) 100000 105 []=some (.bool true):=by kernel_rfl
theorem zdC (w:World) (hpow:PowTab w) (hbru:BruTab w) (hmax:MaxVar w):Ev.OrcSound Tryz.prog 100 w.heap.size (Below w.heap.size w) (Ev.orcAdd zgV 137 (.bool true)):=
 (zeF w hpow hbru hmax).add rfl ((enters_of Tryz.func137 (by kernel_rfl) rfl) #[]) fun W _ hT=>aw13 W (zaC hpow hT) (zaB hbru hT) (zaA hmax hT)
theorem Aw13 (w:World) (hpow:PowTab w) (hbru:BruTab w) (hmax:MaxVar w):Calls Tryz.prog 105 #[] w fun e w'=>e= .returned (.bool true)∧Below w.heap.size w w':=
 zaG zhL rfl w (zdC w hpow hbru hmax)
theorem zeU (w:World) (hpow:PowTab w) (hbru:BruTab w) (hmax:MaxVar w):Ev.OrcSound Tryz.prog 100 w.heap.size (Below w.heap.size w) zhI:=
 (zdC w hpow hbru hmax).add rfl ((enters_of Tryz.func105 (by kernel_rfl) rfl) #[]) fun W _ hT=>Aw13 W (zaC hpow hT) (zaB hbru hT) (zaA hmax hT)
theorem zhP:Ev.runG Tryz.prog 100 (Ev.orcIn evL zhI) 100000 69 []=some (.bool true):=by kernel_rfl
theorem aw14 (w:World) (hpow:PowTab w) (hbru:BruTab w) (hmax:MaxVar w):Calls Tryz.prog 69 #[] w fun e w'=>e= .returned (.bool true)∧Below w.heap.size w w':=
 zaG zhP rfl w (zeU w hpow hbru hmax)
noncomputable def zhZ:Ev.Orc:=Ev.orcAdd (Ev.orcAdd zhI 69 (.bool true)) 34 (.bool true)
theorem zgQ:Ev.runG Tryz.prog 100 (Ev.orcIn evL (Ev.orcAdd zhI 69 (.bool true))) 100000 34 []=some (.bool true):=by kernel_rfl
theorem zdN (w:World) (hpow:PowTab w) (hbru:BruTab w) (hmax:MaxVar w):Ev.OrcSound Tryz.prog 100 w.heap.size (Below w.heap.size w) (Ev.orcAdd zhI 69 (.bool true)):=
 (zeU w hpow hbru hmax).add rfl ((enters_of Tryz.func69 (by kernel_rfl) rfl) #[]) fun W _ hT=>aw14 W (zaC hpow hT) (zaB hbru hT) (zaA hmax hT)
theorem Aw14 (w:World) (hpow:PowTab w) (hbru:BruTab w) (hmax:MaxVar w):Calls Tryz.prog 34 #[] w fun e w'=>e= .returned (.bool true)∧Below w.heap.size w w':=
 zaG zgQ rfl w (zdN w hpow hbru hmax)
theorem zeR (w:World) (hpow:PowTab w) (hbru:BruTab w) (hmax:MaxVar w):Ev.OrcSound Tryz.prog 100 w.heap.size (Below w.heap.size w) zhZ:=
 (zdN w hpow hbru hmax).add rfl ((enters_of Tryz.func34 (by kernel_rfl) rfl) #[]) fun W _ hT=>Aw14 W (zaC hpow hT) (zaB hbru hT) (zaA hmax hT)
theorem zgE:Ev.runG Tryz.prog 100 (Ev.orcIn evL zhZ) 100000 10 []=some (.bool true):=by kernel_rfl
theorem aw15 (w:World) (hpow:PowTab w) (hbru:BruTab w) (hmax:MaxVar w):Calls Tryz.prog 10 #[] w fun e w'=>e= .returned (.bool true)∧Below w.heap.size w w':=
 zaG zgE rfl w (zeR w hpow hbru hmax)
noncomputable def orc15:Ev.Orc:=Ev.orcAdd (Ev.orcAdd zhZ 10 (.bool true)) 58 (.bool true)
theorem zhU:Ev.runG Tryz.prog 100 (Ev.orcIn evL (Ev.orcAdd zhZ 10 (.bool true))) 100000 58 []=some (.bool true):=by kernel_rfl
theorem zdI (w:World) (hpow:PowTab w) (hbru:BruTab w) (hmax:MaxVar w):Ev.OrcSound Tryz.prog 100 w.heap.size (Below w.heap.size w) (Ev.orcAdd zhZ 10 (.bool true)):=
 (zeR w hpow hbru hmax).add rfl ((enters_of Tryz.func10 (by kernel_rfl) rfl) #[]) fun W _ hT=>aw15 W (zaC hpow hT) (zaB hbru hT) (zaA hmax hT)
theorem Aw15 (w:World) (hpow:PowTab w) (hbru:BruTab w) (hmax:MaxVar w):Calls Tryz.prog 58 #[] w fun e w'=>e= .returned (.bool true)∧Below w.heap.size w w':=
 zaG zhU rfl w (zdI w hpow hbru hmax)
theorem ziN (w:World) (hpow:PowTab w) (hbru:BruTab w) (hmax:MaxVar w):Ev.OrcSound Tryz.prog 100 w.heap.size (Below w.heap.size w) orc15:=
 (zdI w hpow hbru hmax).add rfl ((enters_of Tryz.func58 (by kernel_rfl) rfl) #[]) fun W _ hT=>Aw15 W (zaC hpow hT) (zaB hbru hT) (zaA hmax hT)
theorem zgP:Ev.runG Tryz.prog 100 (Ev.orcIn evL orc15) 100000 23 []=some (.bool true):=by kernel_rfl
theorem aw16 (w:World) (hpow:PowTab w) (hbru:BruTab w) (hmax:MaxVar w):Calls Tryz.prog 23 #[] w fun e w'=>e= .returned (.bool true)∧Below w.heap.size w w':=
 zaG zgP rfl w (ziN w hpow hbru hmax)
end
end Go.Proofs.YtppgdppmheiocaaGreatDoor
