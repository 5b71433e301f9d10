/-
  What the law AnswersNone leans on, and its walk (11 of 12).
-/
import Derived.Test.YtkiehdigpchebaaGreatDoorEvB
import Derived.Shelf.Abstract
import Derived.Test.YtkiehdigpchebaaGreatDoorAnswersNonePkE
import Derived.Test.YtkiehdigpchebaaGreatDoorAnswersNonePkJ
namespace Go.Proofs.YtkiehdigpchebaaGreatDoor
set_option maxRecDepth 100000
set_option maxHeartbeats 16000000
section
open Go.RowKit
noncomputable def zhT:Ev.Orc:=Ev.orcWith (Ev.orcWith (Ev.orcWith (Ev.orcWith (Ev.orcWith (Ev.orcWith (Ev.orcWith (Ev.orcWith (Ev.orcWith (Ev.orcNone) 204 Ev.oReplace) 191 Ev.oJoin) 101 Ev.oItoa) 266 Ev.oTz) 82 Ev.oLen) 269 Ev.oCount) 205 Ev.oIndex) 244 Ev.oNoEscape) 254 Ev.oIndexByte
theorem zdA (w:World) (i:PowTab w) (b:BruTab w) (d:MaxVar w):Ev.OrcSound Tryz.prog 100 w.heap.size (Below w.heap.size w) zhT:=by
 refine Ev.orcNone_sound|>.with ?o0|>.with ?o1|>.with ?o2|>.with ?o3|>.with ?o4|>.with ?o5|>.with ?o6|>.with ?o7|>.with ?o8
 case o0=>exact Ev.oReplace_ok (enters_of Tryz.func204 (by kernel_rfl) rfl) fun s o n W a g f j=>by obtain ⟨m,l⟩:=zaA d a;exact Tryz.strings_ReplaceAll s o n m W g l f j
 case o1=>exact Ev.oJoin_ok (enters_of Tryz.func191 (by kernel_rfl) rfl) fun v o c y p w g f j r q=>Tryz.strings_Join v o c y p w g f j r q
 case o2=>exact Ev.oItoa_ok (enters_of Tryz.func101 (by kernel_rfl) rfl) fun n W a g f=>(Tryz.strconv_Itoa n g f W (zaC i a)).mono (by rintro e w' ⟨rfl,k,os,rfl⟩;exact ⟨rfl,Lib.below_grow _ _ (Nat.le_refl _) _ _⟩)
 case o3=>exact Ev.oTz_ok (enters_of Tryz.func266 (by kernel_rfl) rfl) (fun W a=>(tz64_8 W (zaB b a)).mono fun _ _ h=>⟨h.1,h.2.symm⟩) (fun W a=>(zhR W (zaB b a)).mono fun _ _ h=>⟨h.1,h.2.symm⟩)
 case o4=>exact Ev.oLen_ok (enters_of Tryz.func82 (by kernel_rfl) rfl) fun x W g f=>Tryz.bits_Len64 x W g f
 case o5=>exact Ev.oCount_ok Tryz.func269 (by kernel_rfl) (by kernel_rfl) (by kernel_rfl) (by kernel_rfl)
 case o6=>exact Ev.oIndex_ok (enters_of Tryz.func205 (by kernel_rfl) rfl) fun s t W a h=>by obtain ⟨m,l⟩:=zaA d a;exact Tryz.stringslite_Index s t m W h l
 case o7=>exact Ev.oNoEscape_ok Tryz.func244 (by kernel_rfl) (by kernel_rfl) (by kernel_rfl) (by kernel_rfl)
 case o8=>exact Ev.oIndexByte_ok Tryz.func254 (by kernel_rfl) (by kernel_rfl) (by kernel_rfl) (by kernel_rfl)
theorem zhH:(Tryz.prog.funcs.toList.all fun f=> !(f.name== "runtime.NumGoroutine"))=true:=by kernel_rfl
theorem zdF:Ev.NoNum Tryz.prog:=fun g f h=>by
 have:=List.all_eq_true.1 zhH f (by simpa using Array.mem_of_getElem? h)
 simpa using this
theorem zcY:Tryz.prog.follows .mixedOrders=true:=by kernel_rfl
theorem zdC (w:World):Ev.Stays w.heap.size (Below w.heap.size w):=fun _ _ h k=>k.trans h
def evL:List Nat:=[6,13,26,31,40,52,69,82,83,98,101,110,112,142,149,189,191,204,205,223,244,247,254,261,266,269,270,271,273,275,277,282,288,295,296,297,299,304,311,316,318,319,320,321,322,324,325,326,327,328,329,330,331,332]
theorem zaE {a:Ev.Orc} {n:Nat} {f:FuncId} {v:Value} (h:Ev.runG Tryz.prog 100 (Ev.orcIn evL a) n f []=some v) (b:Ev.pf 100 6 v=true) (w:World) (c:Ev.OrcSound Tryz.prog 100 w.heap.size (Below w.heap.size w) a):
  Calls Tryz.prog f #[] w fun e w'=>e= .returned v∧Below w.heap.size w w':=
 Ev.runF_sound (zdC w) zdF zcY (Ev.orcIn_ok evL c) (Ev.runG_ok h) rfl b w rfl (Below.refl _ _)
def memoT:List (List UInt8×Nat×Nat×Nat):=[([48,46,48,46,48,46,48,47,56],0,281470681743360,104),
 ([49,48,46,48,46,48,46,48,47,56],0,281470849515520,104),
 ([49,48,48,46,54,52,46,48,46,48,47,49,48],0,281472363659264,106),
 ([49,50,55,46,48,46,48,46,48,47,56],0,281472812449792,104),
 ([49,54,57,46,50,53,52,46,48,46,48,47,49,54],0,281473533739008,112),
 ([49,55,50,46,49,54,46,48,46,48,47,49,50],0,281473568473088,108),
 ([49,57,50,46,48,46,48,46,48,47,50,52],0,281473902968832,120),
 ([49,57,50,46,48,46,50,46,48,47,50,52],0,281473902969344,120),
 ([49,57,50,46,56,56,46,57,57,46,48,47,50,52],0,281473908761344,120),
 ([49,57,50,46,49,54,56,46,48,46,48,47,49,54],0,281473913978880,112),
 ([49,57,56,46,49,56,46,48,46,48,47,49,53],0,281474004811776,111),
 ([49,57,56,46,53,49,46,49,48,48,46,48,47,50,52],0,281474007000064,120),
 ([50,48,51,46,48,46,49,49,51,46,48,47,50,52],0,281474087547136,120),
 ([50,50,52,46,48,46,48,46,48,47,52],0,281474439839744,100),
 ([50,52,48,46,48,46,48,46,48,47,52],0,281474708275200,100),
 ([58,58,47,49,50,56],0,0,128),
 ([58,58,49,47,49,50,56],0,1,128),
 ([54,52,58,102,102,57,98,58,49,58,58,47,52,56],28428538856144896,0,48),
 ([49,48,48,58,58,47,54,52],72057594037927936,0,64),
 ([50,48,48,49,58,58,47,50,51],2306124484190404608,0,23),
 ([50,48,48,49,58,100,98,56,58,58,47,51,50],2306139568115548160,0,32),
 ([51,102,102,102,58,58,47,50,48],4611404543450677248,0,20),
 ([53,102,48,48,58,58,47,49,54],6845471433603153920,0,16),
 ([102,99,48,48,58,58,47,55],18158513697557839872,0,7),
 ([102,101,56,48,58,58,47,49,48],18338657682652659712,0,10),
 ([102,101,99,48,58,58,47,49,48],18356672081162141696,0,10),
 ([102,102,48,48,58,58,47,56],18374686479671623680,0,8)]
def zhV (x:List UInt8×Nat×Nat×Nat):Value:= .tuple ⟨[.agg ⟨[.int .u64 (.ofNat x.2.1),.int .u64 (.ofNat x.2.2.1),.int .i64 (.ofNat x.2.2.2)]⟩,.bool true]⟩
def isPf (r:Option Value) (a b c:Nat):Bool:=match r with
 |some (.tuple ⟨[.agg ⟨[.int .u64 (.ofNat x),.int .u64 (.ofNat y),.int .i64 (.ofNat z)]⟩,.bool true]⟩)=>Nat.beq x a&&(Nat.beq y b&&Nat.beq z c)
 |_=>false
theorem zhO {r:Option Value} {x:List UInt8×Nat×Nat×Nat} (h:isPf r x.2.1 x.2.2.1 x.2.2.2=true):r=some (zhV x):=by
 unfold isPf at h
 split at h
 ·rw [Bool.and_eq_true,Bool.and_eq_true] at h
  unfold zhV
  rw [Nat.eq_of_beq_eq_true h.1,Nat.eq_of_beq_eq_true h.2.1,Nat.eq_of_beq_eq_true h.2.2]
 ·cases h
theorem zeM:(memoT.all fun x=>isPf (Ev.runG Tryz.prog 100 (Ev.orcIn evL zhT) 100000 149 [.string ⟨x.1.toArray⟩]) x.2.1 x.2.2.1 x.2.2.2)=true:=by kernel_rfl
noncomputable def orcM:Ev.Orc:=Ev.orcWith zhT 149 (Ev.oMemo (memoT.map fun x=>(x.1,zhV x)))
theorem zhZ (w:World) (c:PowTab w) (a:BruTab w) (b:MaxVar w):Ev.OrcSound Tryz.prog 100 w.heap.size (Below w.heap.size w) orcM:=by
 refine (zdA w c a b).with (Ev.oMemo_ok (enters_of Tryz.func149 (by kernel_rfl) rfl) (by kernel_rfl) fun x e W i d=> ?_)
 obtain ⟨y,f,rfl⟩:=List.mem_map.1 e
 have h:=zhO (List.all_eq_true.1 zeM y f)
 have g:=Ev.runF_sound (zdC W) zdF zcY (Ev.orcIn_ok evL (zdA W (zaC c d) (zaB a d) (zaA b d))) (Ev.runG_ok h) rfl rfl W rfl (Below.refl _ _)
 simpa using g
def zeA:Ev.OrcH:=fun a _=>match a with
 |[.agg ⟨[.int .u64 (.ofNat hi),.int .u64 (.ofNat b),.int .i64 (.ofNat n)]⟩]=>(match Nat.blt hi 18446744073709551616&&Nat.blt b 18446744073709551616 with|true=>some (.bool (zaF (zaD hi b) (n:Int)))|false=>none)
 |_=>none
theorem zeB {b:Nat} {T:World→Prop}:Ev.OrcFn Tryz.prog 100 b T 83 zeA:=by
 refine Ev.oFn_ok (enters_of Tryz.func83 (by kernel_rfl) rfl) fun d e v a=> ?_
 unfold zeA at a
 split at a
 ·split at a
  ·rename_i c
   cases a
   simp only [Bool.and_eq_true] at c
   refine ⟨rfl,rfl,fun W _ _=> ?_⟩
   exact zaG _ _ _ W (Ev.blt_ok c.1) (Ev.blt_ok c.2)
  ·cases a
 ·cases a
noncomputable def zbY:Ev.Orc:=Ev.orcWith orcM 83 zeA
theorem zbP (w:World) (c:PowTab w) (b:BruTab w) (a:MaxVar w):Ev.OrcSound Tryz.prog 100 w.heap.size (Below w.heap.size w) zbY:=(zhZ w c b a).with zeB
def zcK:Ev.OrcH:=fun b _=>match b with
 |[.agg ⟨[.int .u64 (.ofNat hi),.int .u64 (.ofNat d),.int .i64 (.ofNat n)]⟩,.agg ⟨[.int .u64 (.ofNat a),.int .u64 (.ofNat c),.int .i64 (.ofNat m)]⟩]=>(match (Nat.blt hi 18446744073709551616&&Nat.blt d 18446744073709551616)&&(Nat.blt a 18446744073709551616&&Nat.blt c 18446744073709551616) with|true=>some (.bool (zaI (zaD hi d) (n:Int) (zaD a c) (m:Int)))|false=>none)
 |_=>none
theorem zdT {b:Nat} {T:World→Prop}:Ev.OrcFn Tryz.prog 100 b T 110 zcK:=by
 refine Ev.oFn_ok (enters_of Tryz.func110 (by kernel_rfl) rfl) fun d e v a=> ?_
 unfold zcK at a
 split at a
 ·split at a
  ·rename_i c
   cases a
   simp only [Bool.and_eq_true] at c
   refine ⟨rfl,rfl,fun W _ _=> ?_⟩
   exact zdS _ _ _ _ _ _ W (Ev.blt_ok c.1.1) (Ev.blt_ok c.1.2) (Ev.blt_ok c.2.1) (Ev.blt_ok c.2.2)
  ·cases a
 ·cases a
noncomputable def zbD:Ev.Orc:=Ev.orcWith zbY 110 zcK
theorem zbH (w:World) (c:PowTab w) (b:BruTab w) (a:MaxVar w):Ev.OrcSound Tryz.prog 100 w.heap.size (Below w.heap.size w) zbD:=(zbP w c b a).with zdT
def zcJ:Ev.OrcH:=fun a _=>match a with
 |[.agg ⟨[.int .u64 (.ofNat hi),.int .u64 (.ofNat d),.int .i64 (.ofNat n)]⟩,.agg ⟨[.int .u64 (.ofNat c),.int .u64 (.ofNat b),.int .i64 (.ofNat k)]⟩]=>(match ((Nat.blt hi 18446744073709551616&&Nat.blt d 18446744073709551616)&&(Nat.blt c 18446744073709551616&&Nat.blt b 18446744073709551616))&&(Nat.ble n 128&&Nat.ble k 128) with|true=>some (pfW (ofW (zaD c b) (zaS (zaD hi d) n (zaD c b) k)) (zaS (zaD hi d) n (zaD c b) k:Nat))|false=>none)
 |_=>none
theorem zdR {c:Nat} {T:World→Prop}:Ev.OrcFn Tryz.prog 100 c T 112 zcJ:=by
 refine Ev.oFn_ok (enters_of Tryz.func112 (by kernel_rfl) rfl) fun d e v b=> ?_
 unfold zcJ at b
 split at b
 ·split at b
  ·rename_i a
   cases b
   simp only [Bool.and_eq_true] at a
   refine ⟨rfl,rfl,fun W _ _=> ?_⟩
   exact zdQ _ _ _ _ _ _ W (Ev.blt_ok a.1.1.1) (Ev.blt_ok a.1.1.2) (Ev.blt_ok a.1.2.1) (Ev.blt_ok a.1.2.2) (Nat.le_of_ble_eq_true a.2.1) (Nat.le_of_ble_eq_true a.2.2)
  ·cases b
 ·cases b
noncomputable def zaL:Ev.Orc:=Ev.orcWith zbD 112 zcJ
theorem zaT (w:World) (c:PowTab w) (b:BruTab w) (a:MaxVar w):Ev.OrcSound Tryz.prog 100 w.heap.size (Below w.heap.size w) zaL:=(zbH w c b a).with zdR
theorem zeC:Ev.runG Tryz.prog 100 (Ev.orcIn evL zaL) 100000 332 []=some (.bool true):=by kernel_rfl
theorem aw01 (w:World) (c:PowTab w) (a:BruTab w) (b:MaxVar w):Calls Tryz.prog 332 #[] w fun e w'=>e= .returned (.bool true)∧Below w.heap.size w w':=
 zaE zeC rfl w (zaT w c a b)
noncomputable def zfO:Ev.Orc:=Ev.orcAdd (Ev.orcAdd zaL 332 (.bool true)) 331 (.bool true)
theorem zgJ:Ev.runG Tryz.prog 100 (Ev.orcIn evL (Ev.orcAdd zaL 332 (.bool true))) 100000 331 []=some (.bool true):=by kernel_rfl
theorem zcC (w:World) (c:PowTab w) (a:BruTab w) (b:MaxVar w):Ev.OrcSound Tryz.prog 100 w.heap.size (Below w.heap.size w) (Ev.orcAdd zaL 332 (.bool true)):=
 (zaT w c a b).add rfl ((enters_of Tryz.func332 (by kernel_rfl) rfl) #[]) fun W _ d=>aw01 W (zaC c d) (zaB a d) (zaA b d)
theorem Aw01 (w:World) (c:PowTab w) (a:BruTab w) (b:MaxVar w):Calls Tryz.prog 331 #[] w fun e w'=>e= .returned (.bool true)∧Below w.heap.size w w':=
 zaE zgJ rfl w (zcC w c a b)
theorem zcZ (w:World) (c:PowTab w) (a:BruTab w) (b:MaxVar w):Ev.OrcSound Tryz.prog 100 w.heap.size (Below w.heap.size w) zfO:=
 (zcC w c a b).add rfl ((enters_of Tryz.func331 (by kernel_rfl) rfl) #[]) fun W _ d=>Aw01 W (zaC c d) (zaB a d) (zaA b d)
theorem zeN:Ev.runG Tryz.prog 100 (Ev.orcIn evL zfO) 100000 330 []=some (.bool true):=by kernel_rfl
theorem aw02 (w:World) (c:PowTab w) (a:BruTab w) (b:MaxVar w):Calls Tryz.prog 330 #[] w fun e w'=>e= .returned (.bool true)∧Below w.heap.size w w':=
 zaE zeN rfl w (zcZ w c a b)
noncomputable def zeD:Ev.Orc:=Ev.orcAdd (Ev.orcAdd zfO 330 (.bool true)) 329 (.bool true)
theorem zeZ:Ev.runG Tryz.prog 100 (Ev.orcIn evL (Ev.orcAdd zfO 330 (.bool true))) 100000 329 []=some (.bool true):=by kernel_rfl
theorem zcA (w:World) (c:PowTab w) (a:BruTab w) (b:MaxVar w):Ev.OrcSound Tryz.prog 100 w.heap.size (Below w.heap.size w) (Ev.orcAdd zfO 330 (.bool true)):=
 (zcZ w c a b).add rfl ((enters_of Tryz.func330 (by kernel_rfl) rfl) #[]) fun W _ d=>aw02 W (zaC c d) (zaB a d) (zaA b d)
theorem Aw02 (w:World) (c:PowTab w) (a:BruTab w) (b:MaxVar w):Calls Tryz.prog 329 #[] w fun e w'=>e= .returned (.bool true)∧Below w.heap.size w w':=
 zaE zeZ rfl w (zcA w c a b)
theorem zcO (w:World) (c:PowTab w) (a:BruTab w) (b:MaxVar w):Ev.OrcSound Tryz.prog 100 w.heap.size (Below w.heap.size w) zeD:=
 (zcA w c a b).add rfl ((enters_of Tryz.func329 (by kernel_rfl) rfl) #[]) fun W _ d=>Aw02 W (zaC c d) (zaB a d) (zaA b d)
theorem zfS:Ev.runG Tryz.prog 100 (Ev.orcIn evL zeD) 100000 328 []=some (.bool true):=by kernel_rfl
theorem aw03 (w:World) (c:PowTab w) (a:BruTab w) (b:MaxVar w):Calls Tryz.prog 328 #[] w fun e w'=>e= .returned (.bool true)∧Below w.heap.size w w':=
 zaE zfS rfl w (zcO w c a b)
noncomputable def zfE:Ev.Orc:=Ev.orcAdd (Ev.orcAdd zeD 328 (.bool true)) 327 (.bool true)
theorem zeR:Ev.runG Tryz.prog 100 (Ev.orcIn evL (Ev.orcAdd zeD 328 (.bool true))) 100000 327 []=some (.bool true):=by kernel_rfl
theorem zbZ (w:World) (c:PowTab w) (a:BruTab w) (b:MaxVar w):Ev.OrcSound Tryz.prog 100 w.heap.size (Below w.heap.size w) (Ev.orcAdd zeD 328 (.bool true)):=
 (zcO w c a b).add rfl ((enters_of Tryz.func328 (by kernel_rfl) rfl) #[]) fun W _ d=>aw03 W (zaC c d) (zaB a d) (zaA b d)
theorem Aw03 (w:World) (c:PowTab w) (a:BruTab w) (b:MaxVar w):Calls Tryz.prog 327 #[] w fun e w'=>e= .returned (.bool true)∧Below w.heap.size w w':=
 zaE zeR rfl w (zbZ w c a b)
theorem zcX (w:World) (c:PowTab w) (a:BruTab w) (b:MaxVar w):Ev.OrcSound Tryz.prog 100 w.heap.size (Below w.heap.size w) zfE:=
 (zbZ w c a b).add rfl ((enters_of Tryz.func327 (by kernel_rfl) rfl) #[]) fun W _ d=>Aw03 W (zaC c d) (zaB a d) (zaA b d)
theorem zfU:Ev.runG Tryz.prog 100 (Ev.orcIn evL zfE) 100000 326 []=some (.bool true):=by kernel_rfl
theorem aw04 (w:World) (c:PowTab w) (a:BruTab w) (b:MaxVar w):Calls Tryz.prog 326 #[] w fun e w'=>e= .returned (.bool true)∧Below w.heap.size w w':=
 zaE zfU rfl w (zcX w c a b)
noncomputable def zeP:Ev.Orc:=Ev.orcAdd (Ev.orcAdd zfE 326 (.bool true)) 325 (.bool true)
theorem zeW:Ev.runG Tryz.prog 100 (Ev.orcIn evL (Ev.orcAdd zfE 326 (.bool true))) 100000 325 []=some (.bool true):=by kernel_rfl
theorem zbM (w:World) (c:PowTab w) (a:BruTab w) (b:MaxVar w):Ev.OrcSound Tryz.prog 100 w.heap.size (Below w.heap.size w) (Ev.orcAdd zfE 326 (.bool true)):=
 (zcX w c a b).add rfl ((enters_of Tryz.func326 (by kernel_rfl) rfl) #[]) fun W _ d=>aw04 W (zaC c d) (zaB a d) (zaA b d)
theorem Aw04 (w:World) (c:PowTab w) (a:BruTab w) (b:MaxVar w):Calls Tryz.prog 325 #[] w fun e w'=>e= .returned (.bool true)∧Below w.heap.size w w':=
 zaE zeW rfl w (zbM w c a b)
theorem zdD (w:World) (c:PowTab w) (a:BruTab w) (b:MaxVar w):Ev.OrcSound Tryz.prog 100 w.heap.size (Below w.heap.size w) zeP:=
 (zbM w c a b).add rfl ((enters_of Tryz.func325 (by kernel_rfl) rfl) #[]) fun W _ d=>Aw04 W (zaC c d) (zaB a d) (zaA b d)
theorem zdY:Ev.runG Tryz.prog 100 (Ev.orcIn evL zeP) 100000 324 []=some (.bool true):=by kernel_rfl
theorem aw05 (w:World) (c:PowTab w) (a:BruTab w) (b:MaxVar w):Calls Tryz.prog 324 #[] w fun e w'=>e= .returned (.bool true)∧Below w.heap.size w w':=
 zaE zdY rfl w (zdD w c a b)
noncomputable def zgI:Ev.Orc:=Ev.orcAdd (Ev.orcAdd zeP 324 (.bool true)) 322 (.bool true)
theorem zgG:Ev.runG Tryz.prog 100 (Ev.orcIn evL (Ev.orcAdd zeP 324 (.bool true))) 100000 322 []=some (.bool true):=by kernel_rfl
theorem zbN (w:World) (c:PowTab w) (a:BruTab w) (b:MaxVar w):Ev.OrcSound Tryz.prog 100 w.heap.size (Below w.heap.size w) (Ev.orcAdd zeP 324 (.bool true)):=
 (zdD w c a b).add rfl ((enters_of Tryz.func324 (by kernel_rfl) rfl) #[]) fun W _ d=>aw05 W (zaC c d) (zaB a d) (zaA b d)
theorem Aw05 (w:World) (c:PowTab w) (a:BruTab w) (b:MaxVar w):Calls Tryz.prog 322 #[] w fun e w'=>e= .returned (.bool true)∧Below w.heap.size w w':=
 zaE zgG rfl w (zbN w c a b)
theorem zdN (w:World) (c:PowTab w) (a:BruTab w) (b:MaxVar w):Ev.OrcSound Tryz.prog 100 w.heap.size (Below w.heap.size w) zgI:=
 (zbN w c a b).add rfl ((enters_of Tryz.func322 (by kernel_rfl) rfl) #[]) fun W _ d=>Aw05 W (zaC c d) (zaB a d) (zaA b d)
theorem zfR:Ev.runG Tryz.prog 100 (Ev.orcIn evL zgI) 100000 321 []=some (.bool true):=by kernel_rfl
theorem aw06 (w:World) (c:PowTab w) (a:BruTab w) (b:MaxVar w):Calls Tryz.prog 321 #[] w fun e w'=>e= .returned (.bool true)∧Below w.heap.size w w':=
 zaE zfR rfl w (zdN w c a b)
noncomputable def zgE:Ev.Orc:=Ev.orcAdd (Ev.orcAdd zgI 321 (.bool true)) 320 (.bool true)
theorem zfX:Ev.runG Tryz.prog 100 (Ev.orcIn evL (Ev.orcAdd zgI 321 (.bool true))) 100000 320 []=some (.bool true):=by kernel_rfl
theorem zcE (w:World) (c:PowTab w) (a:BruTab w) (b:MaxVar w):Ev.OrcSound Tryz.prog 100 w.heap.size (Below w.heap.size w) (Ev.orcAdd zgI 321 (.bool true)):=
 (zdN w c a b).add rfl ((enters_of Tryz.func321 (by kernel_rfl) rfl) #[]) fun W _ d=>aw06 W (zaC c d) (zaB a d) (zaA b d)
theorem Aw06 (w:World) (c:PowTab w) (a:BruTab w) (b:MaxVar w):Calls Tryz.prog 320 #[] w fun e w'=>e= .returned (.bool true)∧Below w.heap.size w w':=
 zaE zfX rfl w (zcE w c a b)
theorem zcL (w:World) (c:PowTab w) (a:BruTab w) (b:MaxVar w):Ev.OrcSound Tryz.prog 100 w.heap.size (Below w.heap.size w) zgE:=
 (zcE w c a b).add rfl ((enters_of Tryz.func320 (by kernel_rfl) rfl) #[]) fun W _ d=>Aw06 W (zaC c d) (zaB a d) (zaA b d)
theorem zfA:Ev.runG Tryz.prog 100 (Ev.orcIn evL zgE) 100000 319 []=some (.bool true):=by kernel_rfl
theorem aw07 (w:World) (c:PowTab w) (a:BruTab w) (b:MaxVar w):Calls Tryz.prog 319 #[] w fun e w'=>e= .returned (.bool true)∧Below w.heap.size w w':=
 zaE zfA rfl w (zcL w c a b)
noncomputable def zeO:Ev.Orc:=Ev.orcAdd (Ev.orcAdd zgE 319 (.bool true)) 318 (.bool true)
theorem zdX:Ev.runG Tryz.prog 100 (Ev.orcIn evL (Ev.orcAdd zgE 319 (.bool true))) 100000 318 []=some (.bool true):=by kernel_rfl
theorem zbL (w:World) (c:PowTab w) (a:BruTab w) (b:MaxVar w):Ev.OrcSound Tryz.prog 100 w.heap.size (Below w.heap.size w) (Ev.orcAdd zgE 319 (.bool true)):=
 (zcL w c a b).add rfl ((enters_of Tryz.func319 (by kernel_rfl) rfl) #[]) fun W _ d=>aw07 W (zaC c d) (zaB a d) (zaA b d)
theorem Aw07 (w:World) (c:PowTab w) (a:BruTab w) (b:MaxVar w):Calls Tryz.prog 318 #[] w fun e w'=>e= .returned (.bool true)∧Below w.heap.size w w':=
 zaE zdX rfl w (zbL w c a b)
theorem zcP (w:World) (c:PowTab w) (a:BruTab w) (b:MaxVar w):Ev.OrcSound Tryz.prog 100 w.heap.size (Below w.heap.size w) zeO:=
 (zbL w c a b).add rfl ((enters_of Tryz.func318 (by kernel_rfl) rfl) #[]) fun W _ d=>Aw07 W (zaC c d) (zaB a d) (zaA b d)
theorem zeS:Ev.runG Tryz.prog 100 (Ev.orcIn evL zeO) 100000 316 []=some (.bool true):=by kernel_rfl
theorem aw08 (w:World) (c:PowTab w) (a:BruTab w) (b:MaxVar w):Calls Tryz.prog 316 #[] w fun e w'=>e= .returned (.bool true)∧Below w.heap.size w w':=
 zaE zeS rfl w (zcP w c a b)
noncomputable def zfD:Ev.Orc:=Ev.orcAdd (Ev.orcAdd zeO 316 (.bool true)) 311 (.bool true)
theorem zeH:Ev.runG Tryz.prog 100 (Ev.orcIn evL (Ev.orcAdd zeO 316 (.bool true))) 100000 311 []=some (.bool true):=by kernel_rfl
theorem zbK (w:World) (c:PowTab w) (a:BruTab w) (b:MaxVar w):Ev.OrcSound Tryz.prog 100 w.heap.size (Below w.heap.size w) (Ev.orcAdd zeO 316 (.bool true)):=
 (zcP w c a b).add rfl ((enters_of Tryz.func316 (by kernel_rfl) rfl) #[]) fun W _ d=>aw08 W (zaC c d) (zaB a d) (zaA b d)
theorem Aw08 (w:World) (c:PowTab w) (a:BruTab w) (b:MaxVar w):Calls Tryz.prog 311 #[] w fun e w'=>e= .returned (.bool true)∧Below w.heap.size w w':=
 zaE zeH rfl w (zbK w c a b)
theorem zdL (w:World) (c:PowTab w) (a:BruTab w) (b:MaxVar w):Ev.OrcSound Tryz.prog 100 w.heap.size (Below w.heap.size w) zfD:=
 (zbK w c a b).add rfl ((enters_of Tryz.func311 (by kernel_rfl) rfl) #[]) fun W _ d=>Aw08 W (zaC c d) (zaB a d) (zaA b d)
theorem zgH:Ev.runG Tryz.prog 100 (Ev.orcIn evL zfD) 100000 304 []=some (.bool true):=by kernel_rfl
theorem aw09 (w:World) (c:PowTab w) (a:BruTab w) (b:MaxVar w):Calls Tryz.prog 304 #[] w fun e w'=>e= .returned (.bool true)∧Below w.heap.size w w':=
 zaE zgH rfl w (zdL w c a b)
noncomputable def zfF:Ev.Orc:=Ev.orcAdd (Ev.orcAdd zfD 304 (.bool true)) 299 (.bool true)
theorem zeX:Ev.runG Tryz.prog 100 (Ev.orcIn evL (Ev.orcAdd zfD 304 (.bool true))) 100000 299 []=some (.bool true):=by kernel_rfl
theorem zbT (w:World) (c:PowTab w) (a:BruTab w) (b:MaxVar w):Ev.OrcSound Tryz.prog 100 w.heap.size (Below w.heap.size w) (Ev.orcAdd zfD 304 (.bool true)):=
 (zdL w c a b).add rfl ((enters_of Tryz.func304 (by kernel_rfl) rfl) #[]) fun W _ d=>aw09 W (zaC c d) (zaB a d) (zaA b d)
theorem Aw09 (w:World) (c:PowTab w) (a:BruTab w) (b:MaxVar w):Calls Tryz.prog 299 #[] w fun e w'=>e= .returned (.bool true)∧Below w.heap.size w w':=
 zaE zeX rfl w (zbT w c a b)
theorem zdM (w:World) (c:PowTab w) (a:BruTab w) (b:MaxVar w):Ev.OrcSound Tryz.prog 100 w.heap.size (Below w.heap.size w) zfF:=
 (zbT w c a b).add rfl ((enters_of Tryz.func299 (by kernel_rfl) rfl) #[]) fun W _ d=>Aw09 W (zaC c d) (zaB a d) (zaA b d)
theorem zfV:Ev.runG Tryz.prog 100 (Ev.orcIn evL zfF) 100000 297 []=some (.bool true):=by kernel_rfl
theorem aw10 (w:World) (c:PowTab w) (a:BruTab w) (b:MaxVar w):Calls Tryz.prog 297 #[] w fun e w'=>e= .returned (.bool true)∧Below w.heap.size w w':=
 zaE zfV rfl w (zdM w c a b)
noncomputable def zeL:Ev.Orc:=Ev.orcAdd (Ev.orcAdd zfF 297 (.bool true)) 296 (.bool true)
theorem zdZ:Ev.runG Tryz.prog 100 (Ev.orcIn evL (Ev.orcAdd zfF 297 (.bool true))) 100000 296 []=some (.bool true):=by kernel_rfl
theorem zbJ (w:World) (c:PowTab w) (a:BruTab w) (b:MaxVar w):Ev.OrcSound Tryz.prog 100 w.heap.size (Below w.heap.size w) (Ev.orcAdd zfF 297 (.bool true)):=
 (zdM w c a b).add rfl ((enters_of Tryz.func297 (by kernel_rfl) rfl) #[]) fun W _ d=>aw10 W (zaC c d) (zaB a d) (zaA b d)
theorem Aw10 (w:World) (c:PowTab w) (a:BruTab w) (b:MaxVar w):Calls Tryz.prog 296 #[] w fun e w'=>e= .returned (.bool true)∧Below w.heap.size w w':=
 zaE zdZ rfl w (zbJ w c a b)
theorem zcU (w:World) (c:PowTab w) (a:BruTab w) (b:MaxVar w):Ev.OrcSound Tryz.prog 100 w.heap.size (Below w.heap.size w) zeL:=
 (zbJ w c a b).add rfl ((enters_of Tryz.func296 (by kernel_rfl) rfl) #[]) fun W _ d=>Aw10 W (zaC c d) (zaB a d) (zaA b d)
theorem zfL:Ev.runG Tryz.prog 100 (Ev.orcIn evL zeL) 100000 295 []=some (.bool true):=by kernel_rfl
theorem aw11 (w:World) (c:PowTab w) (a:BruTab w) (b:MaxVar w):Calls Tryz.prog 295 #[] w fun e w'=>e= .returned (.bool true)∧Below w.heap.size w w':=
 zaE zfL rfl w (zcU w c a b)
noncomputable def zeT:Ev.Orc:=Ev.orcAdd (Ev.orcAdd zeL 295 (.bool true)) 288 (.bool true)
theorem zdU:Ev.runG Tryz.prog 100 (Ev.orcIn evL (Ev.orcAdd zeL 295 (.bool true))) 100000 288 []=some (.bool true):=by kernel_rfl
theorem zbI (w:World) (c:PowTab w) (a:BruTab w) (b:MaxVar w):Ev.OrcSound Tryz.prog 100 w.heap.size (Below w.heap.size w) (Ev.orcAdd zeL 295 (.bool true)):=
 (zcU w c a b).add rfl ((enters_of Tryz.func295 (by kernel_rfl) rfl) #[]) fun W _ d=>aw11 W (zaC c d) (zaB a d) (zaA b d)
theorem Aw11 (w:World) (c:PowTab w) (a:BruTab w) (b:MaxVar w):Calls Tryz.prog 288 #[] w fun e w'=>e= .returned (.bool true)∧Below w.heap.size w w':=
 zaE zdU rfl w (zbI w c a b)
theorem zcR (w:World) (c:PowTab w) (a:BruTab w) (b:MaxVar w):Ev.OrcSound Tryz.prog 100 w.heap.size (Below w.heap.size w) zeT:=
 (zbI w c a b).add rfl ((enters_of Tryz.func288 (by kernel_rfl) rfl) #[]) fun W _ d=>Aw11 W (zaC c d) (zaB a d) (zaA b d)
theorem zfC:Ev.runG Tryz.prog 100 (Ev.orcIn evL zeT) 100000 282 []=some (.bool true):=by kernel_rfl
theorem aw12 (w:World) (c:PowTab w) (a:BruTab w) (b:MaxVar w):Calls Tryz.prog 282 #[] w fun e w'=>e= .returned (.bool true)∧Below w.heap.size w w':=
 zaE zfC rfl w (zcR w c a b)
noncomputable def zeU:Ev.Orc:=Ev.orcAdd (Ev.orcAdd zeT 282 (.bool true)) 277 (.bool true)
theorem zeQ:Ev.runG Tryz.prog 100 (Ev.orcIn evL (Ev.orcAdd zeT 282 (.bool true))) 100000 277 []=some (.bool true):=by kernel_rfl
theorem zbS (w:World) (c:PowTab w) (a:BruTab w) (b:MaxVar w):Ev.OrcSound Tryz.prog 100 w.heap.size (Below w.heap.size w) (Ev.orcAdd zeT 282 (.bool true)):=
 (zcR w c a b).add rfl ((enters_of Tryz.func282 (by kernel_rfl) rfl) #[]) fun W _ d=>aw12 W (zaC c d) (zaB a d) (zaA b d)
theorem Aw12 (w:World) (c:PowTab w) (a:BruTab w) (b:MaxVar w):Calls Tryz.prog 277 #[] w fun e w'=>e= .returned (.bool true)∧Below w.heap.size w w':=
 zaE zeQ rfl w (zbS w c a b)
theorem zcS (w:World) (c:PowTab w) (a:BruTab w) (b:MaxVar w):Ev.OrcSound Tryz.prog 100 w.heap.size (Below w.heap.size w) zeU:=
 (zbS w c a b).add rfl ((enters_of Tryz.func277 (by kernel_rfl) rfl) #[]) fun W _ d=>Aw12 W (zaC c d) (zaB a d) (zaA b d)
theorem zeY:Ev.runG Tryz.prog 100 (Ev.orcIn evL zeU) 100000 275 []=some (.bool true):=by kernel_rfl
theorem aw13 (w:World) (c:PowTab w) (a:BruTab w) (b:MaxVar w):Calls Tryz.prog 275 #[] w fun e w'=>e= .returned (.bool true)∧Below w.heap.size w w':=
 zaE zeY rfl w (zcS w c a b)
noncomputable def zeV:Ev.Orc:=Ev.orcAdd (Ev.orcAdd zeU 275 (.bool true)) 273 (.bool true)
theorem zgM:Ev.runG Tryz.prog 100 (Ev.orcIn evL (Ev.orcAdd zeU 275 (.bool true))) 100000 273 []=some (.bool true):=by kernel_rfl
theorem zbU (w:World) (c:PowTab w) (a:BruTab w) (b:MaxVar w):Ev.OrcSound Tryz.prog 100 w.heap.size (Below w.heap.size w) (Ev.orcAdd zeU 275 (.bool true)):=
 (zcS w c a b).add rfl ((enters_of Tryz.func275 (by kernel_rfl) rfl) #[]) fun W _ d=>aw13 W (zaC c d) (zaB a d) (zaA b d)
theorem Aw13 (w:World) (c:PowTab w) (a:BruTab w) (b:MaxVar w):Calls Tryz.prog 273 #[] w fun e w'=>e= .returned (.bool true)∧Below w.heap.size w w':=
 zaE zgM rfl w (zbU w c a b)
theorem zcM (w:World) (c:PowTab w) (a:BruTab w) (b:MaxVar w):Ev.OrcSound Tryz.prog 100 w.heap.size (Below w.heap.size w) zeV:=
 (zbU w c a b).add rfl ((enters_of Tryz.func273 (by kernel_rfl) rfl) #[]) fun W _ d=>Aw13 W (zaC c d) (zaB a d) (zaA b d)
theorem zfN:Ev.runG Tryz.prog 100 (Ev.orcIn evL zeV) 100000 271 []=some (.bool true):=by kernel_rfl
theorem aw14 (w:World) (c:PowTab w) (a:BruTab w) (b:MaxVar w):Calls Tryz.prog 271 #[] w fun e w'=>e= .returned (.bool true)∧Below w.heap.size w w':=
 zaE zfN rfl w (zcM w c a b)
noncomputable def zdW:Ev.Orc:=Ev.orcAdd (Ev.orcAdd zeV 271 (.bool true)) 270 (.bool true)
theorem zeI:Ev.runG Tryz.prog 100 (Ev.orcIn evL (Ev.orcAdd zeV 271 (.bool true))) 100000 270 []=some (.bool true):=by kernel_rfl
theorem zcD (w:World) (c:PowTab w) (a:BruTab w) (b:MaxVar w):Ev.OrcSound Tryz.prog 100 w.heap.size (Below w.heap.size w) (Ev.orcAdd zeV 271 (.bool true)):=
 (zcM w c a b).add rfl ((enters_of Tryz.func271 (by kernel_rfl) rfl) #[]) fun W _ d=>aw14 W (zaC c d) (zaB a d) (zaA b d)
theorem Aw14 (w:World) (c:PowTab w) (a:BruTab w) (b:MaxVar w):Calls Tryz.prog 270 #[] w fun e w'=>e= .returned (.bool true)∧Below w.heap.size w w':=
 zaE zeI rfl w (zcD w c a b)
theorem zdI (w:World) (c:PowTab w) (a:BruTab w) (b:MaxVar w):Ev.OrcSound Tryz.prog 100 w.heap.size (Below w.heap.size w) zdW:=
 (zcD w c a b).add rfl ((enters_of Tryz.func270 (by kernel_rfl) rfl) #[]) fun W _ d=>Aw14 W (zaC c d) (zaB a d) (zaA b d)
theorem zgO:Ev.runG Tryz.prog 100 (Ev.orcIn evL zdW) 100000 261 []=some (.bool true):=by kernel_rfl
theorem aw15 (w:World) (c:PowTab w) (a:BruTab w) (b:MaxVar w):Calls Tryz.prog 261 #[] w fun e w'=>e= .returned (.bool true)∧Below w.heap.size w w':=
 zaE zgO rfl w (zdI w c a b)
noncomputable def zgK:Ev.Orc:=Ev.orcAdd (Ev.orcAdd zdW 261 (.bool true)) 247 (.bool true)
theorem zfB:Ev.runG Tryz.prog 100 (Ev.orcIn evL (Ev.orcAdd zdW 261 (.bool true))) 100000 247 []=some (.bool true):=by kernel_rfl
theorem zbV (w:World) (c:PowTab w) (a:BruTab w) (b:MaxVar w):Ev.OrcSound Tryz.prog 100 w.heap.size (Below w.heap.size w) (Ev.orcAdd zdW 261 (.bool true)):=
 (zdI w c a b).add rfl ((enters_of Tryz.func261 (by kernel_rfl) rfl) #[]) fun W _ d=>aw15 W (zaC c d) (zaB a d) (zaA b d)
theorem Aw15 (w:World) (c:PowTab w) (a:BruTab w) (b:MaxVar w):Calls Tryz.prog 247 #[] w fun e w'=>e= .returned (.bool true)∧Below w.heap.size w w':=
 zaE zfB rfl w (zbV w c a b)
theorem zcT (w:World) (c:PowTab w) (a:BruTab w) (b:MaxVar w):Ev.OrcSound Tryz.prog 100 w.heap.size (Below w.heap.size w) zgK:=
 (zbV w c a b).add rfl ((enters_of Tryz.func247 (by kernel_rfl) rfl) #[]) fun W _ d=>Aw15 W (zaC c d) (zaB a d) (zaA b d)
theorem zfQ:Ev.runG Tryz.prog 100 (Ev.orcIn evL zgK) 100000 223 []=some (.bool true):=by kernel_rfl
theorem aw16 (w:World) (c:PowTab w) (a:BruTab w) (b:MaxVar w):Calls Tryz.prog 223 #[] w fun e w'=>e= .returned (.bool true)∧Below w.heap.size w w':=
 zaE zfQ rfl w (zcT w c a b)
noncomputable def zgN:Ev.Orc:=Ev.orcAdd (Ev.orcAdd zgK 223 (.bool true)) 189 (.bool true)
theorem zfJ:Ev.runG Tryz.prog 100 (Ev.orcIn evL (Ev.orcAdd zgK 223 (.bool true))) 100000 189 []=some (.bool true):=by kernel_rfl
theorem zbQ (w:World) (c:PowTab w) (a:BruTab w) (b:MaxVar w):Ev.OrcSound Tryz.prog 100 w.heap.size (Below w.heap.size w) (Ev.orcAdd zgK 223 (.bool true)):=
 (zcT w c a b).add rfl ((enters_of Tryz.func223 (by kernel_rfl) rfl) #[]) fun W _ d=>aw16 W (zaC c d) (zaB a d) (zaA b d)
theorem Aw16 (w:World) (c:PowTab w) (a:BruTab w) (b:MaxVar w):Calls Tryz.prog 189 #[] w fun e w'=>e= .returned (.bool true)∧Below w.heap.size w w':=
 zaE zfJ rfl w (zbQ w c a b)
theorem zcW (w:World) (c:PowTab w) (a:BruTab w) (b:MaxVar w):Ev.OrcSound Tryz.prog 100 w.heap.size (Below w.heap.size w) zgN:=
 (zbQ w c a b).add rfl ((enters_of Tryz.func189 (by kernel_rfl) rfl) #[]) fun W _ d=>Aw16 W (zaC c d) (zaB a d) (zaA b d)
theorem zeJ:Ev.runG Tryz.prog 100 (Ev.orcIn evL zgN) 100000 142 []=some (.bool true):=by kernel_rfl
theorem aw17 (w:World) (c:PowTab w) (a:BruTab w) (b:MaxVar w):Calls Tryz.prog 142 #[] w fun e w'=>e= .returned (.bool true)∧Below w.heap.size w w':=
 zaE zeJ rfl w (zcW w c a b)
noncomputable def zfH:Ev.Orc:=Ev.orcAdd (Ev.orcAdd zgN 142 (.bool true)) 98 (.bool true)
theorem zgD:Ev.runG Tryz.prog 100 (Ev.orcIn evL (Ev.orcAdd zgN 142 (.bool true))) 100000 98 []=some (.bool true):=by kernel_rfl
theorem zcF (w:World) (c:PowTab w) (a:BruTab w) (b:MaxVar w):Ev.OrcSound Tryz.prog 100 w.heap.size (Below w.heap.size w) (Ev.orcAdd zgN 142 (.bool true)):=
 (zcW w c a b).add rfl ((enters_of Tryz.func142 (by kernel_rfl) rfl) #[]) fun W _ d=>aw17 W (zaC c d) (zaB a d) (zaA b d)
theorem Aw17 (w:World) (c:PowTab w) (a:BruTab w) (b:MaxVar w):Calls Tryz.prog 98 #[] w fun e w'=>e= .returned (.bool true)∧Below w.heap.size w w':=
 zaE zgD rfl w (zcF w c a b)
theorem zcV (w:World) (c:PowTab w) (a:BruTab w) (b:MaxVar w):Ev.OrcSound Tryz.prog 100 w.heap.size (Below w.heap.size w) zfH:=
 (zcF w c a b).add rfl ((enters_of Tryz.func98 (by kernel_rfl) rfl) #[]) fun W _ d=>Aw17 W (zaC c d) (zaB a d) (zaA b d)
theorem zfZ:Ev.runG Tryz.prog 100 (Ev.orcIn evL zfH) 100000 69 []=some (.bool true):=by kernel_rfl
theorem aw18 (w:World) (c:PowTab w) (a:BruTab w) (b:MaxVar w):Calls Tryz.prog 69 #[] w fun e w'=>e= .returned (.bool true)∧Below w.heap.size w w':=
 zaE zfZ rfl w (zcV w c a b)
noncomputable def zgF:Ev.Orc:=Ev.orcAdd (Ev.orcAdd zfH 69 (.bool true)) 52 (.bool true)
theorem zgA:Ev.runG Tryz.prog 100 (Ev.orcIn evL (Ev.orcAdd zfH 69 (.bool true))) 100000 52 []=some (.bool true):=by kernel_rfl
theorem zbX (w:World) (c:PowTab w) (a:BruTab w) (b:MaxVar w):Ev.OrcSound Tryz.prog 100 w.heap.size (Below w.heap.size w) (Ev.orcAdd zfH 69 (.bool true)):=
 (zcV w c a b).add rfl ((enters_of Tryz.func69 (by kernel_rfl) rfl) #[]) fun W _ d=>aw18 W (zaC c d) (zaB a d) (zaA b d)
theorem Aw18 (w:World) (c:PowTab w) (a:BruTab w) (b:MaxVar w):Calls Tryz.prog 52 #[] w fun e w'=>e= .returned (.bool true)∧Below w.heap.size w w':=
 zaE zgA rfl w (zbX w c a b)
theorem zdE (w:World) (c:PowTab w) (a:BruTab w) (b:MaxVar w):Ev.OrcSound Tryz.prog 100 w.heap.size (Below w.heap.size w) zgF:=
 (zbX w c a b).add rfl ((enters_of Tryz.func52 (by kernel_rfl) rfl) #[]) fun W _ d=>Aw18 W (zaC c d) (zaB a d) (zaA b d)
theorem zeE:Ev.runG Tryz.prog 100 (Ev.orcIn evL zgF) 100000 40 []=some (.bool true):=by kernel_rfl
theorem aw19 (w:World) (c:PowTab w) (a:BruTab w) (b:MaxVar w):Calls Tryz.prog 40 #[] w fun e w'=>e= .returned (.bool true)∧Below w.heap.size w w':=
 zaE zeE rfl w (zdE w c a b)
noncomputable def zeK:Ev.Orc:=Ev.orcAdd (Ev.orcAdd zgF 40 (.bool true)) 26 (.bool true)
theorem zeG:Ev.runG Tryz.prog 100 (Ev.orcIn evL (Ev.orcAdd zgF 40 (.bool true))) 100000 26 []=some (.bool true):=by kernel_rfl
theorem zcB (w:World) (c:PowTab w) (a:BruTab w) (b:MaxVar w):Ev.OrcSound Tryz.prog 100 w.heap.size (Below w.heap.size w) (Ev.orcAdd zgF 40 (.bool true)):=
 (zdE w c a b).add rfl ((enters_of Tryz.func40 (by kernel_rfl) rfl) #[]) fun W _ d=>aw19 W (zaC c d) (zaB a d) (zaA b d)
theorem Aw19 (w:World) (c:PowTab w) (a:BruTab w) (b:MaxVar w):Calls Tryz.prog 26 #[] w fun e w'=>e= .returned (.bool true)∧Below w.heap.size w w':=
 zaE zeG rfl w (zcB w c a b)
theorem zdB (w:World) (c:PowTab w) (a:BruTab w) (b:MaxVar w):Ev.OrcSound Tryz.prog 100 w.heap.size (Below w.heap.size w) zeK:=
 (zcB w c a b).add rfl ((enters_of Tryz.func26 (by kernel_rfl) rfl) #[]) fun W _ d=>Aw19 W (zaC c d) (zaB a d) (zaA b d)
theorem zeF:Ev.runG Tryz.prog 100 (Ev.orcIn evL zeK) 100000 6 []=some (.bool true):=by kernel_rfl
theorem aw20 (w:World) (c:PowTab w) (a:BruTab w) (b:MaxVar w):Calls Tryz.prog 6 #[] w fun e w'=>e= .returned (.bool true)∧Below w.heap.size w w':=
 zaE zeF rfl w (zdB w c a b)
noncomputable def ziB:Ev.Orc:=Ev.orcAdd (Ev.orcAdd zeK 6 (.bool true)) 31 (.bool true)
theorem zfW:Ev.runG Tryz.prog 100 (Ev.orcIn evL (Ev.orcAdd zeK 6 (.bool true))) 100000 31 []=some (.bool true):=by kernel_rfl
theorem zbO (w:World) (c:PowTab w) (a:BruTab w) (b:MaxVar w):Ev.OrcSound Tryz.prog 100 w.heap.size (Below w.heap.size w) (Ev.orcAdd zeK 6 (.bool true)):=
 (zdB w c a b).add rfl ((enters_of Tryz.func6 (by kernel_rfl) rfl) #[]) fun W _ d=>aw20 W (zaC c d) (zaB a d) (zaA b d)
theorem Aw20 (w:World) (c:PowTab w) (a:BruTab w) (b:MaxVar w):Calls Tryz.prog 31 #[] w fun e w'=>e= .returned (.bool true)∧Below w.heap.size w w':=
 zaE zfW rfl w (zbO w c a b)
theorem zdJ (w:World) (c:PowTab w) (a:BruTab w) (b:MaxVar w):Ev.OrcSound Tryz.prog 100 w.heap.size (Below w.heap.size w) ziB:=
 (zbO w c a b).add rfl ((enters_of Tryz.func31 (by kernel_rfl) rfl) #[]) fun W _ d=>Aw20 W (zaC c d) (zaB a d) (zaA b d)
theorem zfY:Ev.runG Tryz.prog 100 (Ev.orcIn evL ziB) 100000 13 []=some (.bool true):=by kernel_rfl
theorem aw21 (w:World) (c:PowTab w) (a:BruTab w) (b:MaxVar w):Calls Tryz.prog 13 #[] w fun e w'=>e= .returned (.bool true)∧Below w.heap.size w w':=
 zaE zfY rfl w (zdJ w c a b)
theorem zaY:Ev.runG Tryz.prog 100 (Ev.orcIn evL (Ev.orcAdd ziB 13 (.bool true))) 100000 5 []=some (.bool true):=by kernel_rfl
theorem answersNone_walk (w:World) (c:PowTab w) (a:BruTab w) (b:MaxVar w):
  Calls Tryz.prog 5 #[] w fun e w'=>e= .returned (.bool true)∧Below w.heap.size w w':=
 zaE zaY rfl w ((zdJ w c a b).add rfl (enters_of Tryz.func13 (by kernel_rfl) rfl #[]) fun W _ d=>aw21 W (zaC c d) (zaB a d) (zaA b d))
end
end Go.Proofs.YtkiehdigpchebaaGreatDoor
