/-
  What the law AbnfMeets leans on, and its walk (11 of 35).
-/
import Derived.Test.YtppgdppmheiocaaGreatDoorEvB
import Derived.Shelf.Abstract
import Derived.Test.YtppgdppmheiocaaGreatDoorAbnfMeetsPkE
import Derived.Test.YtppgdppmheiocaaGreatDoorAbnfMeetsPkJ
namespace Go.Proofs.YtppgdppmheiocaaGreatDoor
set_option maxRecDepth 100000
set_option maxHeartbeats 16000000
section
open Go.RowKit
noncomputable def ydR:Ev.Orc:=Ev.orcWith (Ev.orcWith (Ev.orcWith (Ev.orcWith (Ev.orcWith (Ev.orcWith (Ev.orcWith (Ev.orcWith (Ev.orcWith (Ev.orcNone) 155 Ev.oReplace) 33 Ev.oJoin) 131 Ev.oItoa) 227 Ev.oTz) 220 Ev.oLen) 134 Ev.oCount) 135 Ev.oIndex) 132 Ev.oNoEscape) 148 Ev.oIndexByte
theorem zwC (w:World) (hpow:PowTab w) (hbru:BruTab w) (hmax:MaxVar w):Ev.OrcSound Tryz.prog 100 w.heap.size (Below w.heap.size w) ydR:=by
 refine Ev.orcNone_sound|>.with ?o0|>.with ?o1|>.with ?o2|>.with ?o3|>.with ?o4|>.with ?o5|>.with ?o6|>.with ?o7|>.with ?o8
 case o0=>exact Ev.oReplace_ok (enters_of Tryz.func155 (by kernel_rfl) rfl) fun s o n W hT h1 h2 h3=>by obtain ⟨m,hm⟩:=zaB hmax hT;exact Tryz.strings_ReplaceAll s o n m W h1 hm h2 h3
 case o1=>exact Ev.oJoin_ok (enters_of Tryz.func33 (by kernel_rfl) rfl) fun bk o c xs sep w h1 h2 h3 h4 h5=>Tryz.strings_Join bk o c xs sep w h1 h2 h3 h4 h5
 case o2=>exact Ev.oItoa_ok (enters_of Tryz.func131 (by kernel_rfl) rfl) fun n W hT h1 h2=>(Tryz.strconv_Itoa n h1 h2 W (zaD hpow hT)).mono (by rintro e w' ⟨rfl,k,os,rfl⟩;exact ⟨rfl,Lib.below_grow _ _ (Nat.le_refl _) _ _⟩)
 case o3=>exact Ev.oTz_ok (enters_of Tryz.func227 (by kernel_rfl) rfl) (fun W hT=>(tz64_8 W (zaA hbru hT)).mono fun _ _ h=>⟨h.1,h.2.symm⟩) (fun W hT=>(z0M W (zaA hbru hT)).mono fun _ _ h=>⟨h.1,h.2.symm⟩)
 case o4=>exact Ev.oLen_ok (enters_of Tryz.func220 (by kernel_rfl) rfl) fun x W h1 h2=>Tryz.bits_Len64 x W h1 h2
 case o5=>exact Ev.oCount_ok Tryz.func134 (by kernel_rfl) (by kernel_rfl) (by kernel_rfl) (by kernel_rfl)
 case o6=>exact Ev.oIndex_ok (enters_of Tryz.func135 (by kernel_rfl) rfl) fun s t W hT h=>by obtain ⟨m,hm⟩:=zaB hmax hT;exact Tryz.stringslite_Index s t m W h hm
 case o7=>exact Ev.oNoEscape_ok Tryz.func132 (by kernel_rfl) (by kernel_rfl) (by kernel_rfl) (by kernel_rfl)
 case o8=>exact Ev.oIndexByte_ok Tryz.func148 (by kernel_rfl) (by kernel_rfl) (by kernel_rfl) (by kernel_rfl)
theorem yaM:(Tryz.prog.funcs.toList.all fun f=> !(f.name== "runtime.NumGoroutine"))=true:=by kernel_rfl
theorem zwH:Ev.NoNum Tryz.prog:=fun g f h=>by
 have:=List.all_eq_true.1 yaM f (by simpa using Array.mem_of_getElem? h)
 simpa using this
theorem zvJ:Tryz.prog.follows .mixedOrders=true:=by kernel_rfl
theorem zvH (w:World):Ev.Stays w.heap.size (Below w.heap.size w):=fun _ _ h k=>k.trans h
def evL:List Nat:=[10,23,33,34,58,69,105,131,132,134,135,137,148,155,159,182,207,220,224,227,228,229,232,243,249,254,258,261,263,265,271,272,273,274,275,277,278,279,280,281,282,283,284,285]
theorem zbP {orc:Ev.Orc} {n:Nat} {f:FuncId} {v:Value} (h:Ev.runG Tryz.prog 100 (Ev.orcIn evL orc) n f []=some v) (hv:Ev.pf 100 6 v=true) (w:World) (ho:Ev.OrcSound Tryz.prog 100 w.heap.size (Below w.heap.size w) orc):
  Calls Tryz.prog f #[] w fun e w'=>e= .returned v∧Below w.heap.size w w':=
 Ev.runF_sound (zvH w) zwH zvJ (Ev.orcIn_ok evL ho) (Ev.runG_ok h) rfl hv w rfl (Below.refl _ _)
def memoT:List (List UInt8×Nat×Nat×Nat):=[([48,46,48,46,48,46,48,47,56],0,281470681743360,104),
 ([49,48,46,48,46,48,46,48,47,56],0,281470849515520,104),
 ([49,48,48,46,54,52,46,48,46,48,47,49,48],0,281472363659264,106),
 ([49,50,55,46,48,46,48,46,48,47,56],0,281472812449792,104),
 ([49,54,57,46,50,53,52,46,48,46,48,47,49,54],0,281473533739008,112),
 ([49,55,50,46,49,54,46,48,46,48,47,49,50],0,281473568473088,108),
 ([49,57,50,46,48,46,48,46,48,47,50,52],0,281473902968832,120),
 ([49,57,50,46,48,46,50,46,48,47,50,52],0,281473902969344,120),
 ([49,57,50,46,56,56,46,57,57,46,48,47,50,52],0,281473908761344,120),
 ([49,57,50,46,49,54,56,46,48,46,48,47,49,54],0,281473913978880,112),
 ([49,57,56,46,49,56,46,48,46,48,47,49,53],0,281474004811776,111),
 ([49,57,56,46,53,49,46,49,48,48,46,48,47,50,52],0,281474007000064,120),
 ([50,48,51,46,48,46,49,49,51,46,48,47,50,52],0,281474087547136,120),
 ([50,50,52,46,48,46,48,46,48,47,52],0,281474439839744,100),
 ([50,52,48,46,48,46,48,46,48,47,52],0,281474708275200,100),
 ([58,58,47,49,50,56],0,0,128),
 ([58,58,49,47,49,50,56],0,1,128),
 ([54,52,58,102,102,57,98,58,49,58,58,47,52,56],28428538856144896,0,48),
 ([49,48,48,58,58,47,54,52],72057594037927936,0,64),
 ([50,48,48,49,58,58,47,50,51],2306124484190404608,0,23),
 ([50,48,48,49,58,100,98,56,58,58,47,51,50],2306139568115548160,0,32),
 ([51,102,102,102,58,58,47,50,48],4611404543450677248,0,20),
 ([53,102,48,48,58,58,47,49,54],6845471433603153920,0,16),
 ([102,99,48,48,58,58,47,55],18158513697557839872,0,7),
 ([102,101,56,48,58,58,47,49,48],18338657682652659712,0,10),
 ([102,101,99,48,58,58,47,49,48],18356672081162141696,0,10),
 ([102,102,48,48,58,58,47,56],18374686479671623680,0,8)]
def yfH (x:List UInt8×Nat×Nat×Nat):Value:= .tuple ⟨[.agg ⟨[.int .u64 (.ofNat x.2.1),.int .u64 (.ofNat x.2.2.1),.int .i64 (.ofNat x.2.2.2)]⟩,.bool true]⟩
def isPf (r:Option Value) (a b c:Nat):Bool:=match r with
 |some (.tuple ⟨[.agg ⟨[.int .u64 (.ofNat x),.int .u64 (.ofNat y),.int .i64 (.ofNat z)]⟩,.bool true]⟩)=>Nat.beq x a&&(Nat.beq y b&&Nat.beq z c)
 |_=>false
theorem yfB {r:Option Value} {x:List UInt8×Nat×Nat×Nat} (h:isPf r x.2.1 x.2.2.1 x.2.2.2=true):r=some (yfH x):=by
 unfold isPf at h
 split at h
 ·rw [Bool.and_eq_true,Bool.and_eq_true] at h
  unfold yfH
  rw [Nat.eq_of_beq_eq_true h.1,Nat.eq_of_beq_eq_true h.2.1,Nat.eq_of_beq_eq_true h.2.2]
 ·cases h
theorem z2T:(memoT.all fun x=>isPf (Ev.runG Tryz.prog 100 (Ev.orcIn evL ydR) 100000 258 [.string ⟨x.1.toArray⟩]) x.2.1 x.2.2.1 x.2.2.2)=true:=by kernel_rfl
noncomputable def orcM:Ev.Orc:=Ev.orcWith ydR 258 (Ev.oMemo (memoT.map fun x=>(x.1,yfH x)))
theorem ydH (w:World) (hpow:PowTab w) (hbru:BruTab w) (hmax:MaxVar w):Ev.OrcSound Tryz.prog 100 w.heap.size (Below w.heap.size w) orcM:=by
 refine (zwC w hpow hbru hmax).with (Ev.oMemo_ok (enters_of Tryz.func258 (by kernel_rfl) rfl) (by kernel_rfl) fun x hx W hW hT=> ?_)
 obtain ⟨y,hy,rfl⟩:=List.mem_map.1 hx
 have h:=yfB (List.all_eq_true.1 z2T y hy)
 have h2:=Ev.runF_sound (zvH W) zwH zvJ (Ev.orcIn_ok evL (zwC W (zaD hpow hT) (zaA hbru hT) (zaB hmax hT))) (Ev.runG_ok h) rfl rfl W rfl (Below.refl _ _)
 simpa using h2
def z2F:Ev.OrcH:=fun args _=>match args with
 |[.agg ⟨[.int .u64 (.ofNat hi),.int .u64 (.ofNat lo),.int .i64 (.ofNat n)]⟩]=>(match Nat.blt hi 18446744073709551616&&Nat.blt lo 18446744073709551616 with|true=>some (.bool (zbJ (zaL hi lo) (n:Int)))|false=>none)
 |_=>none
theorem z5V {base:Nat} {T:World→Prop}:Ev.OrcFn Tryz.prog 100 base T 249 z2F:=by
 refine Ev.oFn_ok (enters_of Tryz.func249 (by kernel_rfl) rfl) fun args hp v hk=> ?_
 unfold z2F at hk
 split at hk
 ·split at hk
  ·rename_i hc
   cases hk
   simp only [Bool.and_eq_true] at hc
   refine ⟨rfl,rfl,fun W _ _=> ?_⟩
   exact zcJ _ _ _ W (Ev.blt_ok hc.1) (Ev.blt_ok hc.2)
  ·cases hk
 ·cases hk
noncomputable def zqI:Ev.Orc:=Ev.orcWith orcM 249 z2F
theorem zqX (w:World) (hpow:PowTab w) (hbru:BruTab w) (hmax:MaxVar w):Ev.OrcSound Tryz.prog 100 w.heap.size (Below w.heap.size w) zqI:=(ydH w hpow hbru hmax).with z5V
def ztL:Ev.OrcH:=fun args _=>match args with
 |[.agg ⟨[.int .u64 (.ofNat hi),.int .u64 (.ofNat lo),.int .i64 (.ofNat n)]⟩,.agg ⟨[.int .u64 (.ofNat hi2),.int .u64 (.ofNat lo2),.int .i64 (.ofNat m)]⟩]=>(match (Nat.blt hi 18446744073709551616&&Nat.blt lo 18446744073709551616)&&(Nat.blt hi2 18446744073709551616&&Nat.blt lo2 18446744073709551616) with|true=>some (.bool (zdE (zaL hi lo) (n:Int) (zaL hi2 lo2) (m:Int)))|false=>none)
 |_=>none
theorem zyF {base:Nat} {T:World→Prop}:Ev.OrcFn Tryz.prog 100 base T 261 ztL:=by
 refine Ev.oFn_ok (enters_of Tryz.func261 (by kernel_rfl) rfl) fun args hp v hk=> ?_
 unfold ztL at hk
 split at hk
 ·split at hk
  ·rename_i hc
   cases hk
   simp only [Bool.and_eq_true] at hc
   refine ⟨rfl,rfl,fun W _ _=> ?_⟩
   exact zxS _ _ _ _ _ _ W (Ev.blt_ok hc.1.1) (Ev.blt_ok hc.1.2) (Ev.blt_ok hc.2.1) (Ev.blt_ok hc.2.2)
  ·cases hk
 ·cases hk
noncomputable def znB:Ev.Orc:=Ev.orcWith zqI 261 ztL
theorem zoL (w:World) (hpow:PowTab w) (hbru:BruTab w) (hmax:MaxVar w):Ev.OrcSound Tryz.prog 100 w.heap.size (Below w.heap.size w) znB:=(zqX w hpow hbru hmax).with zyF
def ztM:Ev.OrcH:=fun args _=>match args with
 |[.agg ⟨[.int .u64 (.ofNat hi),.int .u64 (.ofNat lo),.int .i64 (.ofNat n)]⟩,.agg ⟨[.int .u64 (.ofNat ph),.int .u64 (.ofNat pl),.int .i64 (.ofNat k)]⟩]=>(match ((Nat.blt hi 18446744073709551616&&Nat.blt lo 18446744073709551616)&&(Nat.blt ph 18446744073709551616&&Nat.blt pl 18446744073709551616))&&(Nat.ble n 128&&Nat.ble k 128) with|true=>some (pfW (ofW (zaL ph pl) (ziA (zaL hi lo) n (zaL ph pl) k)) (ziA (zaL hi lo) n (zaL ph pl) k:Nat))|false=>none)
 |_=>none
theorem zxY {base:Nat} {T:World→Prop}:Ev.OrcFn Tryz.prog 100 base T 263 ztM:=by
 refine Ev.oFn_ok (enters_of Tryz.func263 (by kernel_rfl) rfl) fun args hp v hk=> ?_
 unfold ztM at hk
 split at hk
 ·split at hk
  ·rename_i hc
   cases hk
   simp only [Bool.and_eq_true] at hc
   refine ⟨rfl,rfl,fun W _ _=> ?_⟩
   exact zyT _ _ _ _ _ _ W (Ev.blt_ok hc.1.1.1) (Ev.blt_ok hc.1.1.2) (Ev.blt_ok hc.1.2.1) (Ev.blt_ok hc.1.2.2) (Nat.le_of_ble_eq_true hc.2.1) (Nat.le_of_ble_eq_true hc.2.2)
  ·cases hk
 ·cases hk
noncomputable def zeT:Ev.Orc:=Ev.orcWith znB 263 ztM
theorem ziU (w:World) (hpow:PowTab w) (hbru:BruTab w) (hmax:MaxVar w):Ev.OrcSound Tryz.prog 100 w.heap.size (Below w.heap.size w) zeT:=(zoL w hpow hbru hmax).with zxY
theorem z2N:Ev.runG Tryz.prog 100 (Ev.orcIn evL zeT) 100000 285 []=some (.bool true):=by kernel_rfl
theorem aw01 (w:World) (hpow:PowTab w) (hbru:BruTab w) (hmax:MaxVar w):Calls Tryz.prog 285 #[] w fun e w'=>e= .returned (.bool true)∧Below w.heap.size w w':=
 zbP z2N rfl w (ziU w hpow hbru hmax)
noncomputable def z3L:Ev.Orc:=Ev.orcAdd (Ev.orcAdd zeT 285 (.bool true)) 284 (.bool true)
theorem z6S:Ev.runG Tryz.prog 100 (Ev.orcIn evL (Ev.orcAdd zeT 285 (.bool true))) 100000 284 []=some (.bool true):=by kernel_rfl
theorem zsD (w:World) (hpow:PowTab w) (hbru:BruTab w) (hmax:MaxVar w):Ev.OrcSound Tryz.prog 100 w.heap.size (Below w.heap.size w) (Ev.orcAdd zeT 285 (.bool true)):=
 (ziU w hpow hbru hmax).add rfl ((enters_of Tryz.func285 (by kernel_rfl) rfl) #[]) fun W _ hT=>aw01 W (zaD hpow hT) (zaA hbru hT) (zaB hmax hT)
theorem Aw01 (w:World) (hpow:PowTab w) (hbru:BruTab w) (hmax:MaxVar w):Calls Tryz.prog 284 #[] w fun e w'=>e= .returned (.bool true)∧Below w.heap.size w w':=
 zbP z6S rfl w (zsD w hpow hbru hmax)
theorem zvX (w:World) (hpow:PowTab w) (hbru:BruTab w) (hmax:MaxVar w):Ev.OrcSound Tryz.prog 100 w.heap.size (Below w.heap.size w) z3L:=
 (zsD w hpow hbru hmax).add rfl ((enters_of Tryz.func284 (by kernel_rfl) rfl) #[]) fun W _ hT=>Aw01 W (zaD hpow hT) (zaA hbru hT) (zaB hmax hT)
theorem z3O:Ev.runG Tryz.prog 100 (Ev.orcIn evL z3L) 100000 283 []=some (.bool true):=by kernel_rfl
theorem aw02 (w:World) (hpow:PowTab w) (hbru:BruTab w) (hmax:MaxVar w):Calls Tryz.prog 283 #[] w fun e w'=>e= .returned (.bool true)∧Below w.heap.size w w':=
 zbP z3O rfl w (zvX w hpow hbru hmax)
noncomputable def z1O:Ev.Orc:=Ev.orcAdd (Ev.orcAdd z3L 283 (.bool true)) 282 (.bool true)
theorem z6K:Ev.runG Tryz.prog 100 (Ev.orcIn evL (Ev.orcAdd z3L 283 (.bool true))) 100000 282 []=some (.bool true):=by kernel_rfl
theorem zrR (w:World) (hpow:PowTab w) (hbru:BruTab w) (hmax:MaxVar w):Ev.OrcSound Tryz.prog 100 w.heap.size (Below w.heap.size w) (Ev.orcAdd z3L 283 (.bool true)):=
 (zvX w hpow hbru hmax).add rfl ((enters_of Tryz.func283 (by kernel_rfl) rfl) #[]) fun W _ hT=>aw02 W (zaD hpow hT) (zaA hbru hT) (zaB hmax hT)
theorem Aw02 (w:World) (hpow:PowTab w) (hbru:BruTab w) (hmax:MaxVar w):Calls Tryz.prog 282 #[] w fun e w'=>e= .returned (.bool true)∧Below w.heap.size w w':=
 zbP z6K rfl w (zrR w hpow hbru hmax)
theorem zvG (w:World) (hpow:PowTab w) (hbru:BruTab w) (hmax:MaxVar w):Ev.OrcSound Tryz.prog 100 w.heap.size (Below w.heap.size w) z1O:=
 (zrR w hpow hbru hmax).add rfl ((enters_of Tryz.func282 (by kernel_rfl) rfl) #[]) fun W _ hT=>Aw02 W (zaD hpow hT) (zaA hbru hT) (zaB hmax hT)
theorem z0P:Ev.runG Tryz.prog 100 (Ev.orcIn evL z1O) 100000 281 []=some (.bool true):=by kernel_rfl
theorem aw03 (w:World) (hpow:PowTab w) (hbru:BruTab w) (hmax:MaxVar w):Calls Tryz.prog 281 #[] w fun e w'=>e= .returned (.bool true)∧Below w.heap.size w w':=
 zbP z0P rfl w (zvG w hpow hbru hmax)
noncomputable def z7L:Ev.Orc:=Ev.orcAdd (Ev.orcAdd z1O 281 (.bool true)) 280 (.bool true)
theorem z0S:Ev.runG Tryz.prog 100 (Ev.orcIn evL (Ev.orcAdd z1O 281 (.bool true))) 100000 280 []=some (.bool true):=by kernel_rfl
theorem zpT (w:World) (hpow:PowTab w) (hbru:BruTab w) (hmax:MaxVar w):Ev.OrcSound Tryz.prog 100 w.heap.size (Below w.heap.size w) (Ev.orcAdd z1O 281 (.bool true)):=
 (zvG w hpow hbru hmax).add rfl ((enters_of Tryz.func281 (by kernel_rfl) rfl) #[]) fun W _ hT=>aw03 W (zaD hpow hT) (zaA hbru hT) (zaB hmax hT)
theorem Aw03 (w:World) (hpow:PowTab w) (hbru:BruTab w) (hmax:MaxVar w):Calls Tryz.prog 280 #[] w fun e w'=>e= .returned (.bool true)∧Below w.heap.size w w':=
 zbP z0S rfl w (zpT w hpow hbru hmax)
theorem zuZ (w:World) (hpow:PowTab w) (hbru:BruTab w) (hmax:MaxVar w):Ev.OrcSound Tryz.prog 100 w.heap.size (Below w.heap.size w) z7L:=
 (zpT w hpow hbru hmax).add rfl ((enters_of Tryz.func280 (by kernel_rfl) rfl) #[]) fun W _ hT=>Aw03 W (zaD hpow hT) (zaA hbru hT) (zaB hmax hT)
theorem z2B:Ev.runG Tryz.prog 100 (Ev.orcIn evL z7L) 100000 279 []=some (.bool true):=by kernel_rfl
theorem aw04 (w:World) (hpow:PowTab w) (hbru:BruTab w) (hmax:MaxVar w):Calls Tryz.prog 279 #[] w fun e w'=>e= .returned (.bool true)∧Below w.heap.size w w':=
 zbP z2B rfl w (zuZ w hpow hbru hmax)
noncomputable def z0N:Ev.Orc:=Ev.orcAdd (Ev.orcAdd z7L 279 (.bool true)) 278 (.bool true)
theorem z6A:Ev.runG Tryz.prog 100 (Ev.orcIn evL (Ev.orcAdd z7L 279 (.bool true))) 100000 278 []=some (.bool true):=by kernel_rfl
theorem zqA (w:World) (hpow:PowTab w) (hbru:BruTab w) (hmax:MaxVar w):Ev.OrcSound Tryz.prog 100 w.heap.size (Below w.heap.size w) (Ev.orcAdd z7L 279 (.bool true)):=
 (zuZ w hpow hbru hmax).add rfl ((enters_of Tryz.func279 (by kernel_rfl) rfl) #[]) fun W _ hT=>aw04 W (zaD hpow hT) (zaA hbru hT) (zaB hmax hT)
theorem Aw04 (w:World) (hpow:PowTab w) (hbru:BruTab w) (hmax:MaxVar w):Calls Tryz.prog 278 #[] w fun e w'=>e= .returned (.bool true)∧Below w.heap.size w w':=
 zbP z6A rfl w (zqA w hpow hbru hmax)
theorem zuB (w:World) (hpow:PowTab w) (hbru:BruTab w) (hmax:MaxVar w):Ev.OrcSound Tryz.prog 100 w.heap.size (Below w.heap.size w) z0N:=
 (zqA w hpow hbru hmax).add rfl ((enters_of Tryz.func278 (by kernel_rfl) rfl) #[]) fun W _ hT=>Aw04 W (zaD hpow hT) (zaA hbru hT) (zaB hmax hT)
theorem z1F:Ev.runG Tryz.prog 100 (Ev.orcIn evL z0N) 100000 277 []=some (.bool true):=by kernel_rfl
theorem aw05 (w:World) (hpow:PowTab w) (hbru:BruTab w) (hmax:MaxVar w):Calls Tryz.prog 277 #[] w fun e w'=>e= .returned (.bool true)∧Below w.heap.size w w':=
 zbP z1F rfl w (zuB w hpow hbru hmax)
noncomputable def z4J:Ev.Orc:=Ev.orcAdd (Ev.orcAdd z0N 277 (.bool true)) 275 (.bool true)
theorem z5S:Ev.runG Tryz.prog 100 (Ev.orcIn evL (Ev.orcAdd z0N 277 (.bool true))) 100000 275 []=some (.bool true):=by kernel_rfl
theorem zrC (w:World) (hpow:PowTab w) (hbru:BruTab w) (hmax:MaxVar w):Ev.OrcSound Tryz.prog 100 w.heap.size (Below w.heap.size w) (Ev.orcAdd z0N 277 (.bool true)):=
 (zuB w hpow hbru hmax).add rfl ((enters_of Tryz.func277 (by kernel_rfl) rfl) #[]) fun W _ hT=>aw05 W (zaD hpow hT) (zaA hbru hT) (zaB hmax hT)
theorem Aw05 (w:World) (hpow:PowTab w) (hbru:BruTab w) (hmax:MaxVar w):Calls Tryz.prog 275 #[] w fun e w'=>e= .returned (.bool true)∧Below w.heap.size w w':=
 zbP z5S rfl w (zrC w hpow hbru hmax)
theorem zuR (w:World) (hpow:PowTab w) (hbru:BruTab w) (hmax:MaxVar w):Ev.OrcSound Tryz.prog 100 w.heap.size (Below w.heap.size w) z4J:=
 (zrC w hpow hbru hmax).add rfl ((enters_of Tryz.func275 (by kernel_rfl) rfl) #[]) fun W _ hT=>Aw05 W (zaD hpow hT) (zaA hbru hT) (zaB hmax hT)
theorem z7R:Ev.runG Tryz.prog 100 (Ev.orcIn evL z4J) 100000 274 []=some (.bool true):=by kernel_rfl
theorem aw06 (w:World) (hpow:PowTab w) (hbru:BruTab w) (hmax:MaxVar w):Calls Tryz.prog 274 #[] w fun e w'=>e= .returned (.bool true)∧Below w.heap.size w w':=
 zbP z7R rfl w (zuR w hpow hbru hmax)
noncomputable def z2H:Ev.Orc:=Ev.orcAdd (Ev.orcAdd z4J 274 (.bool true)) 273 (.bool true)
theorem z5Y:Ev.runG Tryz.prog 100 (Ev.orcIn evL (Ev.orcAdd z4J 274 (.bool true))) 100000 273 []=some (.bool true):=by kernel_rfl
theorem zpO (w:World) (hpow:PowTab w) (hbru:BruTab w) (hmax:MaxVar w):Ev.OrcSound Tryz.prog 100 w.heap.size (Below w.heap.size w) (Ev.orcAdd z4J 274 (.bool true)):=
 (zuR w hpow hbru hmax).add rfl ((enters_of Tryz.func274 (by kernel_rfl) rfl) #[]) fun W _ hT=>aw06 W (zaD hpow hT) (zaA hbru hT) (zaB hmax hT)
theorem Aw06 (w:World) (hpow:PowTab w) (hbru:BruTab w) (hmax:MaxVar w):Calls Tryz.prog 273 #[] w fun e w'=>e= .returned (.bool true)∧Below w.heap.size w w':=
 zbP z5Y rfl w (zpO w hpow hbru hmax)
theorem zwJ (w:World) (hpow:PowTab w) (hbru:BruTab w) (hmax:MaxVar w):Ev.OrcSound Tryz.prog 100 w.heap.size (Below w.heap.size w) z2H:=
 (zpO w hpow hbru hmax).add rfl ((enters_of Tryz.func273 (by kernel_rfl) rfl) #[]) fun W _ hT=>Aw06 W (zaD hpow hT) (zaA hbru hT) (zaB hmax hT)
theorem z4P:Ev.runG Tryz.prog 100 (Ev.orcIn evL z2H) 100000 272 []=some (.bool true):=by kernel_rfl
theorem aw07 (w:World) (hpow:PowTab w) (hbru:BruTab w) (hmax:MaxVar w):Calls Tryz.prog 272 #[] w fun e w'=>e= .returned (.bool true)∧Below w.heap.size w w':=
 zbP z4P rfl w (zwJ w hpow hbru hmax)
noncomputable def z4S:Ev.Orc:=Ev.orcAdd (Ev.orcAdd z2H 272 (.bool true)) 271 (.bool true)
theorem zzY:Ev.runG Tryz.prog 100 (Ev.orcIn evL (Ev.orcAdd z2H 272 (.bool true))) 100000 271 []=some (.bool true):=by kernel_rfl
theorem zqF (w:World) (hpow:PowTab w) (hbru:BruTab w) (hmax:MaxVar w):Ev.OrcSound Tryz.prog 100 w.heap.size (Below w.heap.size w) (Ev.orcAdd z2H 272 (.bool true)):=
 (zwJ w hpow hbru hmax).add rfl ((enters_of Tryz.func272 (by kernel_rfl) rfl) #[]) fun W _ hT=>aw07 W (zaD hpow hT) (zaA hbru hT) (zaB hmax hT)
theorem Aw07 (w:World) (hpow:PowTab w) (hbru:BruTab w) (hmax:MaxVar w):Calls Tryz.prog 271 #[] w fun e w'=>e= .returned (.bool true)∧Below w.heap.size w w':=
 zbP zzY rfl w (zqF w hpow hbru hmax)
theorem zvL (w:World) (hpow:PowTab w) (hbru:BruTab w) (hmax:MaxVar w):Ev.OrcSound Tryz.prog 100 w.heap.size (Below w.heap.size w) z4S:=
 (zqF w hpow hbru hmax).add rfl ((enters_of Tryz.func271 (by kernel_rfl) rfl) #[]) fun W _ hT=>Aw07 W (zaD hpow hT) (zaA hbru hT) (zaB hmax hT)
theorem z1X:Ev.runG Tryz.prog 100 (Ev.orcIn evL z4S) 100000 265 []=some (.bool true):=by kernel_rfl
theorem aw08 (w:World) (hpow:PowTab w) (hbru:BruTab w) (hmax:MaxVar w):Calls Tryz.prog 265 #[] w fun e w'=>e= .returned (.bool true)∧Below w.heap.size w w':=
 zbP z1X rfl w (zvL w hpow hbru hmax)
noncomputable def z3W:Ev.Orc:=Ev.orcAdd (Ev.orcAdd z4S 265 (.bool true)) 254 (.bool true)
theorem z7Z:Ev.runG Tryz.prog 100 (Ev.orcIn evL (Ev.orcAdd z4S 265 (.bool true))) 100000 254 []=some (.bool true):=by kernel_rfl
theorem zpL (w:World) (hpow:PowTab w) (hbru:BruTab w) (hmax:MaxVar w):Ev.OrcSound Tryz.prog 100 w.heap.size (Below w.heap.size w) (Ev.orcAdd z4S 265 (.bool true)):=
 (zvL w hpow hbru hmax).add rfl ((enters_of Tryz.func265 (by kernel_rfl) rfl) #[]) fun W _ hT=>aw08 W (zaD hpow hT) (zaA hbru hT) (zaB hmax hT)
theorem Aw08 (w:World) (hpow:PowTab w) (hbru:BruTab w) (hmax:MaxVar w):Calls Tryz.prog 254 #[] w fun e w'=>e= .returned (.bool true)∧Below w.heap.size w w':=
 zbP z7Z rfl w (zpL w hpow hbru hmax)
theorem zvB (w:World) (hpow:PowTab w) (hbru:BruTab w) (hmax:MaxVar w):Ev.OrcSound Tryz.prog 100 w.heap.size (Below w.heap.size w) z3W:=
 (zpL w hpow hbru hmax).add rfl ((enters_of Tryz.func254 (by kernel_rfl) rfl) #[]) fun W _ hT=>Aw08 W (zaD hpow hT) (zaA hbru hT) (zaB hmax hT)
theorem z4C:Ev.runG Tryz.prog 100 (Ev.orcIn evL z3W) 100000 243 []=some (.bool true):=by kernel_rfl
theorem aw09 (w:World) (hpow:PowTab w) (hbru:BruTab w) (hmax:MaxVar w):Calls Tryz.prog 243 #[] w fun e w'=>e= .returned (.bool true)∧Below w.heap.size w w':=
 zbP z4C rfl w (zvB w hpow hbru hmax)
noncomputable def z3E:Ev.Orc:=Ev.orcAdd (Ev.orcAdd z3W 243 (.bool true)) 232 (.bool true)
theorem z0W:Ev.runG Tryz.prog 100 (Ev.orcIn evL (Ev.orcAdd z3W 243 (.bool true))) 100000 232 []=some (.bool true):=by kernel_rfl
theorem zqP (w:World) (hpow:PowTab w) (hbru:BruTab w) (hmax:MaxVar w):Ev.OrcSound Tryz.prog 100 w.heap.size (Below w.heap.size w) (Ev.orcAdd z3W 243 (.bool true)):=
 (zvB w hpow hbru hmax).add rfl ((enters_of Tryz.func243 (by kernel_rfl) rfl) #[]) fun W _ hT=>aw09 W (zaD hpow hT) (zaA hbru hT) (zaB hmax hT)
theorem Aw09 (w:World) (hpow:PowTab w) (hbru:BruTab w) (hmax:MaxVar w):Calls Tryz.prog 232 #[] w fun e w'=>e= .returned (.bool true)∧Below w.heap.size w w':=
 zbP z0W rfl w (zqP w hpow hbru hmax)
theorem zuQ (w:World) (hpow:PowTab w) (hbru:BruTab w) (hmax:MaxVar w):Ev.OrcSound Tryz.prog 100 w.heap.size (Below w.heap.size w) z3E:=
 (zqP w hpow hbru hmax).add rfl ((enters_of Tryz.func232 (by kernel_rfl) rfl) #[]) fun W _ hT=>Aw09 W (zaD hpow hT) (zaA hbru hT) (zaB hmax hT)
theorem z4T:Ev.runG Tryz.prog 100 (Ev.orcIn evL z3E) 100000 229 []=some (.bool true):=by kernel_rfl
theorem aw10 (w:World) (hpow:PowTab w) (hbru:BruTab w) (hmax:MaxVar w):Calls Tryz.prog 229 #[] w fun e w'=>e= .returned (.bool true)∧Below w.heap.size w w':=
 zbP z4T rfl w (zuQ w hpow hbru hmax)
noncomputable def z2U:Ev.Orc:=Ev.orcAdd (Ev.orcAdd z3E 229 (.bool true)) 228 (.bool true)
theorem z5G:Ev.runG Tryz.prog 100 (Ev.orcIn evL (Ev.orcAdd z3E 229 (.bool true))) 100000 228 []=some (.bool true):=by kernel_rfl
theorem zrN (w:World) (hpow:PowTab w) (hbru:BruTab w) (hmax:MaxVar w):Ev.OrcSound Tryz.prog 100 w.heap.size (Below w.heap.size w) (Ev.orcAdd z3E 229 (.bool true)):=
 (zuQ w hpow hbru hmax).add rfl ((enters_of Tryz.func229 (by kernel_rfl) rfl) #[]) fun W _ hT=>aw10 W (zaD hpow hT) (zaA hbru hT) (zaB hmax hT)
theorem Aw10 (w:World) (hpow:PowTab w) (hbru:BruTab w) (hmax:MaxVar w):Calls Tryz.prog 228 #[] w fun e w'=>e= .returned (.bool true)∧Below w.heap.size w w':=
 zbP z5G rfl w (zrN w hpow hbru hmax)
theorem zvK (w:World) (hpow:PowTab w) (hbru:BruTab w) (hmax:MaxVar w):Ev.OrcSound Tryz.prog 100 w.heap.size (Below w.heap.size w) z2U:=
 (zrN w hpow hbru hmax).add rfl ((enters_of Tryz.func228 (by kernel_rfl) rfl) #[]) fun W _ hT=>Aw10 W (zaD hpow hT) (zaA hbru hT) (zaB hmax hT)
theorem z4B:Ev.runG Tryz.prog 100 (Ev.orcIn evL z2U) 100000 224 []=some (.bool true):=by kernel_rfl
theorem aw11 (w:World) (hpow:PowTab w) (hbru:BruTab w) (hmax:MaxVar w):Calls Tryz.prog 224 #[] w fun e w'=>e= .returned (.bool true)∧Below w.heap.size w w':=
 zbP z4B rfl w (zvK w hpow hbru hmax)
noncomputable def z1C:Ev.Orc:=Ev.orcAdd (Ev.orcAdd z2U 224 (.bool true)) 207 (.bool true)
theorem z7I:Ev.runG Tryz.prog 100 (Ev.orcIn evL (Ev.orcAdd z2U 224 (.bool true))) 100000 207 []=some (.bool true):=by kernel_rfl
theorem zpW (w:World) (hpow:PowTab w) (hbru:BruTab w) (hmax:MaxVar w):Ev.OrcSound Tryz.prog 100 w.heap.size (Below w.heap.size w) (Ev.orcAdd z2U 224 (.bool true)):=
 (zvK w hpow hbru hmax).add rfl ((enters_of Tryz.func224 (by kernel_rfl) rfl) #[]) fun W _ hT=>aw11 W (zaD hpow hT) (zaA hbru hT) (zaB hmax hT)
theorem Aw11 (w:World) (hpow:PowTab w) (hbru:BruTab w) (hmax:MaxVar w):Calls Tryz.prog 207 #[] w fun e w'=>e= .returned (.bool true)∧Below w.heap.size w w':=
 zbP z7I rfl w (zpW w hpow hbru hmax)
theorem zwE (w:World) (hpow:PowTab w) (hbru:BruTab w) (hmax:MaxVar w):Ev.OrcSound Tryz.prog 100 w.heap.size (Below w.heap.size w) z1C:=
 (zpW w hpow hbru hmax).add rfl ((enters_of Tryz.func207 (by kernel_rfl) rfl) #[]) fun W _ hT=>Aw11 W (zaD hpow hT) (zaA hbru hT) (zaB hmax hT)
theorem z5U:Ev.runG Tryz.prog 100 (Ev.orcIn evL z1C) 100000 182 []=some (.bool true):=by kernel_rfl
theorem aw12 (w:World) (hpow:PowTab w) (hbru:BruTab w) (hmax:MaxVar w):Calls Tryz.prog 182 #[] w fun e w'=>e= .returned (.bool true)∧Below w.heap.size w w':=
 zbP z5U rfl w (zwE w hpow hbru hmax)
noncomputable def z7C:Ev.Orc:=Ev.orcAdd (Ev.orcAdd z1C 182 (.bool true)) 159 (.bool true)
theorem z6Q:Ev.runG Tryz.prog 100 (Ev.orcIn evL (Ev.orcAdd z1C 182 (.bool true))) 100000 159 []=some (.bool true):=by kernel_rfl
theorem zqK (w:World) (hpow:PowTab w) (hbru:BruTab w) (hmax:MaxVar w):Ev.OrcSound Tryz.prog 100 w.heap.size (Below w.heap.size w) (Ev.orcAdd z1C 182 (.bool true)):=
 (zwE w hpow hbru hmax).add rfl ((enters_of Tryz.func182 (by kernel_rfl) rfl) #[]) fun W _ hT=>aw12 W (zaD hpow hT) (zaA hbru hT) (zaB hmax hT)
theorem Aw12 (w:World) (hpow:PowTab w) (hbru:BruTab w) (hmax:MaxVar w):Calls Tryz.prog 159 #[] w fun e w'=>e= .returned (.bool true)∧Below w.heap.size w w':=
 zbP z6Q rfl w (zqK w hpow hbru hmax)
theorem zvO (w:World) (hpow:PowTab w) (hbru:BruTab w) (hmax:MaxVar w):Ev.OrcSound Tryz.prog 100 w.heap.size (Below w.heap.size w) z7C:=
 (zqK w hpow hbru hmax).add rfl ((enters_of Tryz.func159 (by kernel_rfl) rfl) #[]) fun W _ hT=>Aw12 W (zaD hpow hT) (zaA hbru hT) (zaB hmax hT)
theorem zzX:Ev.runG Tryz.prog 100 (Ev.orcIn evL z7C) 100000 137 []=some (.bool true):=by kernel_rfl
theorem aw13 (w:World) (hpow:PowTab w) (hbru:BruTab w) (hmax:MaxVar w):Calls Tryz.prog 137 #[] w fun e w'=>e= .returned (.bool true)∧Below w.heap.size w w':=
 zbP zzX rfl w (zvO w hpow hbru hmax)
noncomputable def z3X:Ev.Orc:=Ev.orcAdd (Ev.orcAdd z7C 137 (.bool true)) 105 (.bool true)
theorem z2E:Ev.runG Tryz.prog 100 (Ev.orcIn evL (Ev.orcAdd z7C 137 (.bool true))) 100000 105 []=some (.bool true):=by kernel_rfl
theorem zqT (w:World) (hpow:PowTab w) (hbru:BruTab w) (hmax:MaxVar w):Ev.OrcSound Tryz.prog 100 w.heap.size (Below w.heap.size w) (Ev.orcAdd z7C 137 (.bool true)):=
 (zvO w hpow hbru hmax).add rfl ((enters_of Tryz.func137 (by kernel_rfl) rfl) #[]) fun W _ hT=>aw13 W (zaD hpow hT) (zaA hbru hT) (zaB hmax hT)
theorem Aw13 (w:World) (hpow:PowTab w) (hbru:BruTab w) (hmax:MaxVar w):Calls Tryz.prog 105 #[] w fun e w'=>e= .returned (.bool true)∧Below w.heap.size w w':=
 zbP z2E rfl w (zqT w hpow hbru hmax)
theorem zuA (w:World) (hpow:PowTab w) (hbru:BruTab w) (hmax:MaxVar w):Ev.OrcSound Tryz.prog 100 w.heap.size (Below w.heap.size w) z3X:=
 (zqT w hpow hbru hmax).add rfl ((enters_of Tryz.func105 (by kernel_rfl) rfl) #[]) fun W _ hT=>Aw13 W (zaD hpow hT) (zaA hbru hT) (zaB hmax hT)
theorem z2J:Ev.runG Tryz.prog 100 (Ev.orcIn evL z3X) 100000 69 []=some (.bool true):=by kernel_rfl
theorem aw14 (w:World) (hpow:PowTab w) (hbru:BruTab w) (hmax:MaxVar w):Calls Tryz.prog 69 #[] w fun e w'=>e= .returned (.bool true)∧Below w.heap.size w w':=
 zbP z2J rfl w (zuA w hpow hbru hmax)
noncomputable def orc14:Ev.Orc:=Ev.orcAdd (Ev.orcAdd z3X 69 (.bool true)) 34 (.bool true)
theorem z4Q:Ev.runG Tryz.prog 100 (Ev.orcIn evL (Ev.orcAdd z3X 69 (.bool true))) 100000 34 []=some (.bool true):=by kernel_rfl
theorem zpM (w:World) (hpow:PowTab w) (hbru:BruTab w) (hmax:MaxVar w):Ev.OrcSound Tryz.prog 100 w.heap.size (Below w.heap.size w) (Ev.orcAdd z3X 69 (.bool true)):=
 (zuA w hpow hbru hmax).add rfl ((enters_of Tryz.func69 (by kernel_rfl) rfl) #[]) fun W _ hT=>aw14 W (zaD hpow hT) (zaA hbru hT) (zaB hmax hT)
theorem Aw14 (w:World) (hpow:PowTab w) (hbru:BruTab w) (hmax:MaxVar w):Calls Tryz.prog 34 #[] w fun e w'=>e= .returned (.bool true)∧Below w.heap.size w w':=
 zbP z4Q rfl w (zpM w hpow hbru hmax)
theorem z9U (w:World) (hpow:PowTab w) (hbru:BruTab w) (hmax:MaxVar w):Ev.OrcSound Tryz.prog 100 w.heap.size (Below w.heap.size w) orc14:=
 (zpM w hpow hbru hmax).add rfl ((enters_of Tryz.func34 (by kernel_rfl) rfl) #[]) fun W _ hT=>Aw14 W (zaD hpow hT) (zaA hbru hT) (zaB hmax hT)
theorem z4Z:Ev.runG Tryz.prog 100 (Ev.orcIn evL orc14) 100000 10 []=some (.bool true):=by kernel_rfl
theorem aw15 (w:World) (hpow:PowTab w) (hbru:BruTab w) (hmax:MaxVar w):Calls Tryz.prog 10 #[] w fun e w'=>e= .returned (.bool true)∧Below w.heap.size w w':=
 zbP z4Z rfl w (z9U w hpow hbru hmax)
end
end Go.Proofs.YtppgdppmheiocaaGreatDoor
