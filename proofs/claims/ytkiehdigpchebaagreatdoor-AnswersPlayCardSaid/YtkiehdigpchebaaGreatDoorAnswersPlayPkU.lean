/-
  What the law AnswersPlay leans on, and its walk (20 of 22).
-/
import Derived.Test.YtkiehdigpchebaaGreatDoorEvB
import Derived.Shelf.Abstract
import Derived.Test.YtkiehdigpchebaaGreatDoorAnswersPlayPkI
import Derived.Test.YtkiehdigpchebaaGreatDoorAnswersPlayPkT
namespace Go.Proofs.YtkiehdigpchebaaGreatDoor
set_option maxRecDepth 100000
set_option maxHeartbeats 16000000
section
open Go.RowKit
noncomputable def zpX:Ev.Orc:=Ev.orcWith (Ev.orcWith (Ev.orcWith (Ev.orcWith (Ev.orcWith (Ev.orcWith (Ev.orcWith (Ev.orcWith (Ev.orcWith (Ev.orcNone) 204 Ev.oReplace) 191 Ev.oJoin) 101 Ev.oItoa) 266 Ev.oTz) 82 Ev.oLen) 269 Ev.oCount) 205 Ev.oIndex) 244 Ev.oNoEscape) 254 Ev.oIndexByte
theorem ziL (w:World) (E:PowTab w) (f:BruTab w) (p:MaxVar w):Ev.OrcSound Tryz.prog 100 w.heap.size (Below w.heap.size w) zpX:=by
 refine Ev.orcNone_sound|>.with ?o0|>.with ?o1|>.with ?o2|>.with ?o3|>.with ?o4|>.with ?o5|>.with ?o6|>.with ?o7|>.with ?o8
 case o0=>exact Ev.oReplace_ok (enters_of Tryz.func204 (by kernel_rfl) rfl) fun s o n W d C y G=>by obtain ⟨m,H⟩:=zaC p d;exact Tryz.strings_ReplaceAll s o n m W C H y G
 case o1=>exact Ev.oJoin_ok (enters_of Tryz.func191 (by kernel_rfl) rfl) fun N o c O I w C y G K J=>Tryz.strings_Join N o c O I w C y G K J
 case o2=>exact Ev.oItoa_ok (enters_of Tryz.func101 (by kernel_rfl) rfl) fun n W d C y=>(Tryz.strconv_Itoa n C y W (zaD E d)).mono (by rintro e w' ⟨rfl,k,os,rfl⟩;exact ⟨rfl,Lib.below_grow _ _ (Nat.le_refl _) _ _⟩)
 case o3=>exact Ev.oTz_ok (enters_of Tryz.func266 (by kernel_rfl) rfl) (fun W d=>(tz64_8 W (zaB f d)).mono fun _ _ h=>⟨h.1,h.2.symm⟩) (fun W d=>(zpU W (zaB f d)).mono fun _ _ h=>⟨h.1,h.2.symm⟩)
 case o4=>exact Ev.oLen_ok (enters_of Tryz.func82 (by kernel_rfl) rfl) fun x W C y=>Tryz.bits_Len64 x W C y
 case o5=>exact Ev.oCount_ok Tryz.func269 (by kernel_rfl) (by kernel_rfl) (by kernel_rfl) (by kernel_rfl)
 case o6=>exact Ev.oIndex_ok (enters_of Tryz.func205 (by kernel_rfl) rfl) fun s t W d h=>by obtain ⟨m,H⟩:=zaC p d;exact Tryz.stringslite_Index s t m W h H
 case o7=>exact Ev.oNoEscape_ok Tryz.func244 (by kernel_rfl) (by kernel_rfl) (by kernel_rfl) (by kernel_rfl)
 case o8=>exact Ev.oIndexByte_ok Tryz.func254 (by kernel_rfl) (by kernel_rfl) (by kernel_rfl) (by kernel_rfl)
theorem znK:(Tryz.prog.funcs.toList.all fun f=> !(f.name== "runtime.NumGoroutine"))=true:=by kernel_rfl
theorem ziC:Ev.NoNum Tryz.prog:=fun g f h=>by
 have:=List.all_eq_true.1 znK f (by simpa using Array.mem_of_getElem? h)
 simpa using this
theorem ziB:Tryz.prog.follows .mixedOrders=true:=by kernel_rfl
theorem zhD (w:World):Ev.Stays w.heap.size (Below w.heap.size w):=fun _ _ h k=>k.trans h
def evL:List Nat:=[6,13,26,31,40,52,69,82,83,98,101,110,112,142,149,189,191,204,205,223,244,247,254,261,266,269,270,271,273,275,277,282,288,295,296,297,299,304,311,316,318,319,320,321,322,324,325,326,327,328,329,330,331,332]
theorem zaK {d:Ev.Orc} {n:Nat} {f:FuncId} {v:Value} (h:Ev.runG Tryz.prog 100 (Ev.orcIn evL d) n f []=some v) (o:Ev.pf 100 6 v=true) (w:World) (p:Ev.OrcSound Tryz.prog 100 w.heap.size (Below w.heap.size w) d):
  Calls Tryz.prog f #[] w fun e w'=>e= .returned v∧Below w.heap.size w w':=
 Ev.runF_sound (zhD w) ziC ziB (Ev.orcIn_ok evL p) (Ev.runG_ok h) rfl o w rfl (Below.refl _ _)
def memoT:List (List UInt8×Nat×Nat×Nat):=[([48,46,48,46,48,46,48,47,56],0,281470681743360,104),
 ([49,48,46,48,46,48,46,48,47,56],0,281470849515520,104),
 ([49,48,48,46,54,52,46,48,46,48,47,49,48],0,281472363659264,106),
 ([49,50,55,46,48,46,48,46,48,47,56],0,281472812449792,104),
 ([49,54,57,46,50,53,52,46,48,46,48,47,49,54],0,281473533739008,112),
 ([49,55,50,46,49,54,46,48,46,48,47,49,50],0,281473568473088,108),
 ([49,57,50,46,48,46,48,46,48,47,50,52],0,281473902968832,120),
 ([49,57,50,46,48,46,50,46,48,47,50,52],0,281473902969344,120),
 ([49,57,50,46,56,56,46,57,57,46,48,47,50,52],0,281473908761344,120),
 ([49,57,50,46,49,54,56,46,48,46,48,47,49,54],0,281473913978880,112),
 ([49,57,56,46,49,56,46,48,46,48,47,49,53],0,281474004811776,111),
 ([49,57,56,46,53,49,46,49,48,48,46,48,47,50,52],0,281474007000064,120),
 ([50,48,51,46,48,46,49,49,51,46,48,47,50,52],0,281474087547136,120),
 ([50,50,52,46,48,46,48,46,48,47,52],0,281474439839744,100),
 ([50,52,48,46,48,46,48,46,48,47,52],0,281474708275200,100),
 ([58,58,47,49,50,56],0,0,128),
 ([58,58,49,47,49,50,56],0,1,128),
 ([54,52,58,102,102,57,98,58,49,58,58,47,52,56],28428538856144896,0,48),
 ([49,48,48,58,58,47,54,52],72057594037927936,0,64),
 ([50,48,48,49,58,58,47,50,51],2306124484190404608,0,23),
 ([50,48,48,49,58,100,98,56,58,58,47,51,50],2306139568115548160,0,32),
 ([51,102,102,102,58,58,47,50,48],4611404543450677248,0,20),
 ([53,102,48,48,58,58,47,49,54],6845471433603153920,0,16),
 ([102,99,48,48,58,58,47,55],18158513697557839872,0,7),
 ([102,101,56,48,58,58,47,49,48],18338657682652659712,0,10),
 ([102,101,99,48,58,58,47,49,48],18356672081162141696,0,10),
 ([102,102,48,48,58,58,47,56],18374686479671623680,0,8)]
def zpO (x:List UInt8×Nat×Nat×Nat):Value:= .tuple ⟨[.agg ⟨[.int .u64 (.ofNat x.2.1),.int .u64 (.ofNat x.2.2.1),.int .i64 (.ofNat x.2.2.2)]⟩,.bool true]⟩
def isPf (r:Option Value) (a b c:Nat):Bool:=match r with
 |some (.tuple ⟨[.agg ⟨[.int .u64 (.ofNat x),.int .u64 (.ofNat y),.int .i64 (.ofNat z)]⟩,.bool true]⟩)=>Nat.beq x a&&(Nat.beq y b&&Nat.beq z c)
 |_=>false
theorem zpD {r:Option Value} {x:List UInt8×Nat×Nat×Nat} (h:isPf r x.2.1 x.2.2.1 x.2.2.2=true):r=some (zpO x):=by
 unfold isPf at h
 split at h
 ·rw [Bool.and_eq_true,Bool.and_eq_true] at h
  unfold zpO
  rw [Nat.eq_of_beq_eq_true h.1,Nat.eq_of_beq_eq_true h.2.1,Nat.eq_of_beq_eq_true h.2.2]
 ·cases h
theorem zkA:(memoT.all fun x=>isPf (Ev.runG Tryz.prog 100 (Ev.orcIn evL zpX) 100000 149 [.string ⟨x.1.toArray⟩]) x.2.1 x.2.2.1 x.2.2.2)=true:=by kernel_rfl
noncomputable def orcM:Ev.Orc:=Ev.orcWith zpX 149 (Ev.oMemo (memoT.map fun x=>(x.1,zpO x)))
theorem zpJ (w:World) (f:PowTab w) (d:BruTab w) (o:MaxVar w):Ev.OrcSound Tryz.prog 100 w.heap.size (Below w.heap.size w) orcM:=by
 refine (ziL w f d o).with (Ev.oMemo_ok (enters_of Tryz.func149 (by kernel_rfl) rfl) (by kernel_rfl) fun x G W H p=> ?_)
 obtain ⟨y,C,rfl⟩:=List.mem_map.1 G
 have h:=zpD (List.all_eq_true.1 zkA y C)
 have E:=Ev.runF_sound (zhD W) ziC ziB (Ev.orcIn_ok evL (ziL W (zaD f p) (zaB d p) (zaC o p))) (Ev.runG_ok h) rfl rfl W rfl (Below.refl _ _)
 simpa using E
def zmO:Ev.OrcH:=fun d _=>match d with
 |[.agg ⟨[.int .u64 (.ofNat hi),.int .u64 (.ofNat lo),.int .i64 (.ofNat n)]⟩]=>(match Nat.blt hi 18446744073709551616&&Nat.blt lo 18446744073709551616 with|true=>some (.bool (zaM (zaH hi lo) (n:Int)))|false=>none)
 |_=>none
theorem zmF {base:Nat} {T:World→Prop}:Ev.OrcFn Tryz.prog 100 base T 83 zmO:=by
 refine Ev.oFn_ok (enters_of Tryz.func83 (by kernel_rfl) rfl) fun o p v d=> ?_
 unfold zmO at d
 split at d
 ·split at d
  ·rename_i f
   cases d
   simp only [Bool.and_eq_true] at f
   refine ⟨rfl,rfl,fun W _ _=> ?_⟩
   exact zaS _ _ _ W (Ev.blt_ok f.1) (Ev.blt_ok f.2)
  ·cases d
 ·cases d
noncomputable def zfR:Ev.Orc:=Ev.orcWith orcM 83 zmO
theorem zfJ (w:World) (f:PowTab w) (d:BruTab w) (o:MaxVar w):Ev.OrcSound Tryz.prog 100 w.heap.size (Below w.heap.size w) zfR:=(zpJ w f d o).with zmF
def zgI:Ev.OrcH:=fun d _=>match d with
 |[.agg ⟨[.int .u64 (.ofNat hi),.int .u64 (.ofNat lo),.int .i64 (.ofNat n)]⟩,.agg ⟨[.int .u64 (.ofNat f),.int .u64 (.ofNat o),.int .i64 (.ofNat m)]⟩]=>(match (Nat.blt hi 18446744073709551616&&Nat.blt lo 18446744073709551616)&&(Nat.blt f 18446744073709551616&&Nat.blt o 18446744073709551616) with|true=>some (.bool (zaX (zaH hi lo) (n:Int) (zaH f o) (m:Int)))|false=>none)
 |_=>none
theorem ziV {base:Nat} {T:World→Prop}:Ev.OrcFn Tryz.prog 100 base T 110 zgI:=by
 refine Ev.oFn_ok (enters_of Tryz.func110 (by kernel_rfl) rfl) fun o p v d=> ?_
 unfold zgI at d
 split at d
 ·split at d
  ·rename_i f
   cases d
   simp only [Bool.and_eq_true] at f
   refine ⟨rfl,rfl,fun W _ _=> ?_⟩
   exact zjD _ _ _ _ _ _ W (Ev.blt_ok f.1.1) (Ev.blt_ok f.1.2) (Ev.blt_ok f.2.1) (Ev.blt_ok f.2.2)
  ·cases d
 ·cases d
noncomputable def zdW:Ev.Orc:=Ev.orcWith zfR 110 zgI
theorem zdY (w:World) (f:PowTab w) (d:BruTab w) (o:MaxVar w):Ev.OrcSound Tryz.prog 100 w.heap.size (Below w.heap.size w) zdW:=(zfJ w f d o).with ziV
def zgV:Ev.OrcH:=fun d _=>match d with
 |[.agg ⟨[.int .u64 (.ofNat hi),.int .u64 (.ofNat lo),.int .i64 (.ofNat n)]⟩,.agg ⟨[.int .u64 (.ofNat f),.int .u64 (.ofNat o),.int .i64 (.ofNat k)]⟩]=>(match ((Nat.blt hi 18446744073709551616&&Nat.blt lo 18446744073709551616)&&(Nat.blt f 18446744073709551616&&Nat.blt o 18446744073709551616))&&(Nat.ble n 128&&Nat.ble k 128) with|true=>some (pfW (ofW (zaH f o) (zcN (zaH hi lo) n (zaH f o) k)) (zcN (zaH hi lo) n (zaH f o) k:Nat))|false=>none)
 |_=>none
theorem zjG {base:Nat} {T:World→Prop}:Ev.OrcFn Tryz.prog 100 base T 112 zgV:=by
 refine Ev.oFn_ok (enters_of Tryz.func112 (by kernel_rfl) rfl) fun o p v f=> ?_
 unfold zgV at f
 split at f
 ·split at f
  ·rename_i d
   cases f
   simp only [Bool.and_eq_true] at d
   refine ⟨rfl,rfl,fun W _ _=> ?_⟩
   exact zjH _ _ _ _ _ _ W (Ev.blt_ok d.1.1.1) (Ev.blt_ok d.1.1.2) (Ev.blt_ok d.1.2.1) (Ev.blt_ok d.1.2.2) (Nat.le_of_ble_eq_true d.2.1) (Nat.le_of_ble_eq_true d.2.2)
  ·cases f
 ·cases f
noncomputable def zbH:Ev.Orc:=Ev.orcWith zdW 112 zgV
theorem zcO (w:World) (f:PowTab w) (d:BruTab w) (o:MaxVar w):Ev.OrcSound Tryz.prog 100 w.heap.size (Below w.heap.size w) zbH:=(zdY w f d o).with zjG
theorem zlY:Ev.runG Tryz.prog 100 (Ev.orcIn evL zbH) 100000 332 []=some (.bool true):=by kernel_rfl
theorem aw01 (w:World) (f:PowTab w) (d:BruTab w) (o:MaxVar w):Calls Tryz.prog 332 #[] w fun e w'=>e= .returned (.bool true)∧Below w.heap.size w w':=
 zaK zlY rfl w (zcO w f d o)
noncomputable def zjL:Ev.Orc:=Ev.orcAdd (Ev.orcAdd zbH 332 (.bool true)) 331 (.bool true)
theorem zlW:Ev.runG Tryz.prog 100 (Ev.orcIn evL (Ev.orcAdd zbH 332 (.bool true))) 100000 331 []=some (.bool true):=by kernel_rfl
theorem zeY (w:World) (f:PowTab w) (d:BruTab w) (o:MaxVar w):Ev.OrcSound Tryz.prog 100 w.heap.size (Below w.heap.size w) (Ev.orcAdd zbH 332 (.bool true)):=
 (zcO w f d o).add rfl ((enters_of Tryz.func332 (by kernel_rfl) rfl) #[]) fun W _ p=>aw01 W (zaD f p) (zaB d p) (zaC o p)
theorem Aw01 (w:World) (f:PowTab w) (d:BruTab w) (o:MaxVar w):Calls Tryz.prog 331 #[] w fun e w'=>e= .returned (.bool true)∧Below w.heap.size w w':=
 zaK zlW rfl w (zeY w f d o)
theorem zhE (w:World) (f:PowTab w) (d:BruTab w) (o:MaxVar w):Ev.OrcSound Tryz.prog 100 w.heap.size (Below w.heap.size w) zjL:=
 (zeY w f d o).add rfl ((enters_of Tryz.func331 (by kernel_rfl) rfl) #[]) fun W _ p=>Aw01 W (zaD f p) (zaB d p) (zaC o p)
theorem znF:Ev.runG Tryz.prog 100 (Ev.orcIn evL zjL) 100000 330 []=some (.bool true):=by kernel_rfl
theorem aw02 (w:World) (f:PowTab w) (d:BruTab w) (o:MaxVar w):Calls Tryz.prog 330 #[] w fun e w'=>e= .returned (.bool true)∧Below w.heap.size w w':=
 zaK znF rfl w (zhE w f d o)
noncomputable def zjO:Ev.Orc:=Ev.orcAdd (Ev.orcAdd zjL 330 (.bool true)) 329 (.bool true)
theorem zjP:Ev.runG Tryz.prog 100 (Ev.orcIn evL (Ev.orcAdd zjL 330 (.bool true))) 100000 329 []=some (.bool true):=by kernel_rfl
theorem zfE (w:World) (f:PowTab w) (d:BruTab w) (o:MaxVar w):Ev.OrcSound Tryz.prog 100 w.heap.size (Below w.heap.size w) (Ev.orcAdd zjL 330 (.bool true)):=
 (zhE w f d o).add rfl ((enters_of Tryz.func330 (by kernel_rfl) rfl) #[]) fun W _ p=>aw02 W (zaD f p) (zaB d p) (zaC o p)
theorem Aw02 (w:World) (f:PowTab w) (d:BruTab w) (o:MaxVar w):Calls Tryz.prog 329 #[] w fun e w'=>e= .returned (.bool true)∧Below w.heap.size w w':=
 zaK zjP rfl w (zfE w f d o)
theorem zhS (w:World) (f:PowTab w) (d:BruTab w) (o:MaxVar w):Ev.OrcSound Tryz.prog 100 w.heap.size (Below w.heap.size w) zjO:=
 (zfE w f d o).add rfl ((enters_of Tryz.func329 (by kernel_rfl) rfl) #[]) fun W _ p=>Aw02 W (zaD f p) (zaB d p) (zaC o p)
theorem zkF:Ev.runG Tryz.prog 100 (Ev.orcIn evL zjO) 100000 328 []=some (.bool true):=by kernel_rfl
theorem aw03 (w:World) (f:PowTab w) (d:BruTab w) (o:MaxVar w):Calls Tryz.prog 328 #[] w fun e w'=>e= .returned (.bool true)∧Below w.heap.size w w':=
 zaK zkF rfl w (zhS w f d o)
noncomputable def zlO:Ev.Orc:=Ev.orcAdd (Ev.orcAdd zjO 328 (.bool true)) 327 (.bool true)
theorem zmE:Ev.runG Tryz.prog 100 (Ev.orcIn evL (Ev.orcAdd zjO 328 (.bool true))) 100000 327 []=some (.bool true):=by kernel_rfl
theorem zfI (w:World) (f:PowTab w) (d:BruTab w) (o:MaxVar w):Ev.OrcSound Tryz.prog 100 w.heap.size (Below w.heap.size w) (Ev.orcAdd zjO 328 (.bool true)):=
 (zhS w f d o).add rfl ((enters_of Tryz.func328 (by kernel_rfl) rfl) #[]) fun W _ p=>aw03 W (zaD f p) (zaB d p) (zaC o p)
theorem Aw03 (w:World) (f:PowTab w) (d:BruTab w) (o:MaxVar w):Calls Tryz.prog 327 #[] w fun e w'=>e= .returned (.bool true)∧Below w.heap.size w w':=
 zaK zmE rfl w (zfI w f d o)
theorem ziF (w:World) (f:PowTab w) (d:BruTab w) (o:MaxVar w):Ev.OrcSound Tryz.prog 100 w.heap.size (Below w.heap.size w) zlO:=
 (zfI w f d o).add rfl ((enters_of Tryz.func327 (by kernel_rfl) rfl) #[]) fun W _ p=>Aw03 W (zaD f p) (zaB d p) (zaC o p)
theorem zjN:Ev.runG Tryz.prog 100 (Ev.orcIn evL zlO) 100000 326 []=some (.bool true):=by kernel_rfl
theorem aw04 (w:World) (f:PowTab w) (d:BruTab w) (o:MaxVar w):Calls Tryz.prog 326 #[] w fun e w'=>e= .returned (.bool true)∧Below w.heap.size w w':=
 zaK zjN rfl w (ziF w f d o)
noncomputable def zmT:Ev.Orc:=Ev.orcAdd (Ev.orcAdd zlO 326 (.bool true)) 325 (.bool true)
theorem zjZ:Ev.runG Tryz.prog 100 (Ev.orcIn evL (Ev.orcAdd zlO 326 (.bool true))) 100000 325 []=some (.bool true):=by kernel_rfl
theorem zfW (w:World) (f:PowTab w) (d:BruTab w) (o:MaxVar w):Ev.OrcSound Tryz.prog 100 w.heap.size (Below w.heap.size w) (Ev.orcAdd zlO 326 (.bool true)):=
 (ziF w f d o).add rfl ((enters_of Tryz.func326 (by kernel_rfl) rfl) #[]) fun W _ p=>aw04 W (zaD f p) (zaB d p) (zaC o p)
theorem Aw04 (w:World) (f:PowTab w) (d:BruTab w) (o:MaxVar w):Calls Tryz.prog 325 #[] w fun e w'=>e= .returned (.bool true)∧Below w.heap.size w w':=
 zaK zjZ rfl w (zfW w f d o)
theorem zhB (w:World) (f:PowTab w) (d:BruTab w) (o:MaxVar w):Ev.OrcSound Tryz.prog 100 w.heap.size (Below w.heap.size w) zmT:=
 (zfW w f d o).add rfl ((enters_of Tryz.func325 (by kernel_rfl) rfl) #[]) fun W _ p=>Aw04 W (zaD f p) (zaB d p) (zaC o p)
theorem zjQ:Ev.runG Tryz.prog 100 (Ev.orcIn evL zmT) 100000 324 []=some (.bool true):=by kernel_rfl
theorem aw05 (w:World) (f:PowTab w) (d:BruTab w) (o:MaxVar w):Calls Tryz.prog 324 #[] w fun e w'=>e= .returned (.bool true)∧Below w.heap.size w w':=
 zaK zjQ rfl w (zhB w f d o)
noncomputable def zjW:Ev.Orc:=Ev.orcAdd (Ev.orcAdd zmT 324 (.bool true)) 322 (.bool true)
theorem znJ:Ev.runG Tryz.prog 100 (Ev.orcIn evL (Ev.orcAdd zmT 324 (.bool true))) 100000 322 []=some (.bool true):=by kernel_rfl
theorem zfM (w:World) (f:PowTab w) (d:BruTab w) (o:MaxVar w):Ev.OrcSound Tryz.prog 100 w.heap.size (Below w.heap.size w) (Ev.orcAdd zmT 324 (.bool true)):=
 (zhB w f d o).add rfl ((enters_of Tryz.func324 (by kernel_rfl) rfl) #[]) fun W _ p=>aw05 W (zaD f p) (zaB d p) (zaC o p)
theorem Aw05 (w:World) (f:PowTab w) (d:BruTab w) (o:MaxVar w):Calls Tryz.prog 322 #[] w fun e w'=>e= .returned (.bool true)∧Below w.heap.size w w':=
 zaK znJ rfl w (zfM w f d o)
theorem zhQ (w:World) (f:PowTab w) (d:BruTab w) (o:MaxVar w):Ev.OrcSound Tryz.prog 100 w.heap.size (Below w.heap.size w) zjW:=
 (zfM w f d o).add rfl ((enters_of Tryz.func322 (by kernel_rfl) rfl) #[]) fun W _ p=>Aw05 W (zaD f p) (zaB d p) (zaC o p)
theorem zmL:Ev.runG Tryz.prog 100 (Ev.orcIn evL zjW) 100000 321 []=some (.bool true):=by kernel_rfl
theorem aw06 (w:World) (f:PowTab w) (d:BruTab w) (o:MaxVar w):Calls Tryz.prog 321 #[] w fun e w'=>e= .returned (.bool true)∧Below w.heap.size w w':=
 zaK zmL rfl w (zhQ w f d o)
noncomputable def zlJ:Ev.Orc:=Ev.orcAdd (Ev.orcAdd zjW 321 (.bool true)) 320 (.bool true)
theorem zmY:Ev.runG Tryz.prog 100 (Ev.orcIn evL (Ev.orcAdd zjW 321 (.bool true))) 100000 320 []=some (.bool true):=by kernel_rfl
theorem zeP (w:World) (f:PowTab w) (d:BruTab w) (o:MaxVar w):Ev.OrcSound Tryz.prog 100 w.heap.size (Below w.heap.size w) (Ev.orcAdd zjW 321 (.bool true)):=
 (zhQ w f d o).add rfl ((enters_of Tryz.func321 (by kernel_rfl) rfl) #[]) fun W _ p=>aw06 W (zaD f p) (zaB d p) (zaC o p)
theorem Aw06 (w:World) (f:PowTab w) (d:BruTab w) (o:MaxVar w):Calls Tryz.prog 320 #[] w fun e w'=>e= .returned (.bool true)∧Below w.heap.size w w':=
 zaK zmY rfl w (zeP w f d o)
theorem zgZ (w:World) (f:PowTab w) (d:BruTab w) (o:MaxVar w):Ev.OrcSound Tryz.prog 100 w.heap.size (Below w.heap.size w) zlJ:=
 (zeP w f d o).add rfl ((enters_of Tryz.func320 (by kernel_rfl) rfl) #[]) fun W _ p=>Aw06 W (zaD f p) (zaB d p) (zaC o p)
theorem zmG:Ev.runG Tryz.prog 100 (Ev.orcIn evL zlJ) 100000 319 []=some (.bool true):=by kernel_rfl
theorem aw07 (w:World) (f:PowTab w) (d:BruTab w) (o:MaxVar w):Calls Tryz.prog 319 #[] w fun e w'=>e= .returned (.bool true)∧Below w.heap.size w w':=
 zaK zmG rfl w (zgZ w f d o)
noncomputable def zkN:Ev.Orc:=Ev.orcAdd (Ev.orcAdd zlJ 319 (.bool true)) 318 (.bool true)
theorem zlH:Ev.runG Tryz.prog 100 (Ev.orcIn evL (Ev.orcAdd zlJ 319 (.bool true))) 100000 318 []=some (.bool true):=by kernel_rfl
theorem zfQ (w:World) (f:PowTab w) (d:BruTab w) (o:MaxVar w):Ev.OrcSound Tryz.prog 100 w.heap.size (Below w.heap.size w) (Ev.orcAdd zlJ 319 (.bool true)):=
 (zgZ w f d o).add rfl ((enters_of Tryz.func319 (by kernel_rfl) rfl) #[]) fun W _ p=>aw07 W (zaD f p) (zaB d p) (zaC o p)
theorem Aw07 (w:World) (f:PowTab w) (d:BruTab w) (o:MaxVar w):Calls Tryz.prog 318 #[] w fun e w'=>e= .returned (.bool true)∧Below w.heap.size w w':=
 zaK zlH rfl w (zfQ w f d o)
theorem ziM (w:World) (f:PowTab w) (d:BruTab w) (o:MaxVar w):Ev.OrcSound Tryz.prog 100 w.heap.size (Below w.heap.size w) zkN:=
 (zfQ w f d o).add rfl ((enters_of Tryz.func318 (by kernel_rfl) rfl) #[]) fun W _ p=>Aw07 W (zaD f p) (zaB d p) (zaC o p)
theorem zmJ:Ev.runG Tryz.prog 100 (Ev.orcIn evL zkN) 100000 316 []=some (.bool true):=by kernel_rfl
theorem aw08 (w:World) (f:PowTab w) (d:BruTab w) (o:MaxVar w):Calls Tryz.prog 316 #[] w fun e w'=>e= .returned (.bool true)∧Below w.heap.size w w':=
 zaK zmJ rfl w (ziM w f d o)
noncomputable def znC:Ev.Orc:=Ev.orcAdd (Ev.orcAdd zkN 316 (.bool true)) 311 (.bool true)
theorem zlI:Ev.runG Tryz.prog 100 (Ev.orcIn evL (Ev.orcAdd zkN 316 (.bool true))) 100000 311 []=some (.bool true):=by kernel_rfl
theorem zeV (w:World) (f:PowTab w) (d:BruTab w) (o:MaxVar w):Ev.OrcSound Tryz.prog 100 w.heap.size (Below w.heap.size w) (Ev.orcAdd zkN 316 (.bool true)):=
 (ziM w f d o).add rfl ((enters_of Tryz.func316 (by kernel_rfl) rfl) #[]) fun W _ p=>aw08 W (zaD f p) (zaB d p) (zaC o p)
theorem Aw08 (w:World) (f:PowTab w) (d:BruTab w) (o:MaxVar w):Calls Tryz.prog 311 #[] w fun e w'=>e= .returned (.bool true)∧Below w.heap.size w w':=
 zaK zlI rfl w (zeV w f d o)
theorem zhC (w:World) (f:PowTab w) (d:BruTab w) (o:MaxVar w):Ev.OrcSound Tryz.prog 100 w.heap.size (Below w.heap.size w) znC:=
 (zeV w f d o).add rfl ((enters_of Tryz.func311 (by kernel_rfl) rfl) #[]) fun W _ p=>Aw08 W (zaD f p) (zaB d p) (zaC o p)
theorem zlZ:Ev.runG Tryz.prog 100 (Ev.orcIn evL znC) 100000 304 []=some (.bool true):=by kernel_rfl
theorem aw09 (w:World) (f:PowTab w) (d:BruTab w) (o:MaxVar w):Calls Tryz.prog 304 #[] w fun e w'=>e= .returned (.bool true)∧Below w.heap.size w w':=
 zaK zlZ rfl w (zhC w f d o)
noncomputable def zkQ:Ev.Orc:=Ev.orcAdd (Ev.orcAdd znC 304 (.bool true)) 299 (.bool true)
theorem zmH:Ev.runG Tryz.prog 100 (Ev.orcIn evL (Ev.orcAdd znC 304 (.bool true))) 100000 299 []=some (.bool true):=by kernel_rfl
theorem zfO (w:World) (f:PowTab w) (d:BruTab w) (o:MaxVar w):Ev.OrcSound Tryz.prog 100 w.heap.size (Below w.heap.size w) (Ev.orcAdd znC 304 (.bool true)):=
 (zhC w f d o).add rfl ((enters_of Tryz.func304 (by kernel_rfl) rfl) #[]) fun W _ p=>aw09 W (zaD f p) (zaB d p) (zaC o p)
theorem Aw09 (w:World) (f:PowTab w) (d:BruTab w) (o:MaxVar w):Calls Tryz.prog 299 #[] w fun e w'=>e= .returned (.bool true)∧Below w.heap.size w w':=
 zaK zmH rfl w (zfO w f d o)
theorem zhP (w:World) (f:PowTab w) (d:BruTab w) (o:MaxVar w):Ev.OrcSound Tryz.prog 100 w.heap.size (Below w.heap.size w) zkQ:=
 (zfO w f d o).add rfl ((enters_of Tryz.func299 (by kernel_rfl) rfl) #[]) fun W _ p=>Aw09 W (zaD f p) (zaB d p) (zaC o p)
theorem zmS:Ev.runG Tryz.prog 100 (Ev.orcIn evL zkQ) 100000 297 []=some (.bool true):=by kernel_rfl
theorem aw10 (w:World) (f:PowTab w) (d:BruTab w) (o:MaxVar w):Calls Tryz.prog 297 #[] w fun e w'=>e= .returned (.bool true)∧Below w.heap.size w w':=
 zaK zmS rfl w (zhP w f d o)
noncomputable def zmB:Ev.Orc:=Ev.orcAdd (Ev.orcAdd zkQ 297 (.bool true)) 296 (.bool true)
theorem zjK:Ev.runG Tryz.prog 100 (Ev.orcIn evL (Ev.orcAdd zkQ 297 (.bool true))) 100000 296 []=some (.bool true):=by kernel_rfl
theorem zfP (w:World) (f:PowTab w) (d:BruTab w) (o:MaxVar w):Ev.OrcSound Tryz.prog 100 w.heap.size (Below w.heap.size w) (Ev.orcAdd zkQ 297 (.bool true)):=
 (zhP w f d o).add rfl ((enters_of Tryz.func297 (by kernel_rfl) rfl) #[]) fun W _ p=>aw10 W (zaD f p) (zaB d p) (zaC o p)
theorem Aw10 (w:World) (f:PowTab w) (d:BruTab w) (o:MaxVar w):Calls Tryz.prog 296 #[] w fun e w'=>e= .returned (.bool true)∧Below w.heap.size w w':=
 zaK zjK rfl w (zfP w f d o)
theorem ziE (w:World) (f:PowTab w) (d:BruTab w) (o:MaxVar w):Ev.OrcSound Tryz.prog 100 w.heap.size (Below w.heap.size w) zmB:=
 (zfP w f d o).add rfl ((enters_of Tryz.func296 (by kernel_rfl) rfl) #[]) fun W _ p=>Aw10 W (zaD f p) (zaB d p) (zaC o p)
theorem zkJ:Ev.runG Tryz.prog 100 (Ev.orcIn evL zmB) 100000 295 []=some (.bool true):=by kernel_rfl
theorem aw11 (w:World) (f:PowTab w) (d:BruTab w) (o:MaxVar w):Calls Tryz.prog 295 #[] w fun e w'=>e= .returned (.bool true)∧Below w.heap.size w w':=
 zaK zkJ rfl w (ziE w f d o)
noncomputable def znG:Ev.Orc:=Ev.orcAdd (Ev.orcAdd zmB 295 (.bool true)) 288 (.bool true)
theorem zlV:Ev.runG Tryz.prog 100 (Ev.orcIn evL (Ev.orcAdd zmB 295 (.bool true))) 100000 288 []=some (.bool true):=by kernel_rfl
theorem zeS (w:World) (f:PowTab w) (d:BruTab w) (o:MaxVar w):Ev.OrcSound Tryz.prog 100 w.heap.size (Below w.heap.size w) (Ev.orcAdd zmB 295 (.bool true)):=
 (ziE w f d o).add rfl ((enters_of Tryz.func295 (by kernel_rfl) rfl) #[]) fun W _ p=>aw11 W (zaD f p) (zaB d p) (zaC o p)
theorem Aw11 (w:World) (f:PowTab w) (d:BruTab w) (o:MaxVar w):Calls Tryz.prog 288 #[] w fun e w'=>e= .returned (.bool true)∧Below w.heap.size w w':=
 zaK zlV rfl w (zeS w f d o)
theorem zhO (w:World) (f:PowTab w) (d:BruTab w) (o:MaxVar w):Ev.OrcSound Tryz.prog 100 w.heap.size (Below w.heap.size w) znG:=
 (zeS w f d o).add rfl ((enters_of Tryz.func288 (by kernel_rfl) rfl) #[]) fun W _ p=>Aw11 W (zaD f p) (zaB d p) (zaC o p)
theorem zlQ:Ev.runG Tryz.prog 100 (Ev.orcIn evL znG) 100000 282 []=some (.bool true):=by kernel_rfl
theorem aw12 (w:World) (f:PowTab w) (d:BruTab w) (o:MaxVar w):Calls Tryz.prog 282 #[] w fun e w'=>e= .returned (.bool true)∧Below w.heap.size w w':=
 zaK zlQ rfl w (zhO w f d o)
noncomputable def zkP:Ev.Orc:=Ev.orcAdd (Ev.orcAdd znG 282 (.bool true)) 277 (.bool true)
theorem zkW:Ev.runG Tryz.prog 100 (Ev.orcIn evL (Ev.orcAdd znG 282 (.bool true))) 100000 277 []=some (.bool true):=by kernel_rfl
theorem zeQ (w:World) (f:PowTab w) (d:BruTab w) (o:MaxVar w):Ev.OrcSound Tryz.prog 100 w.heap.size (Below w.heap.size w) (Ev.orcAdd znG 282 (.bool true)):=
 (zhO w f d o).add rfl ((enters_of Tryz.func282 (by kernel_rfl) rfl) #[]) fun W _ p=>aw12 W (zaD f p) (zaB d p) (zaC o p)
theorem Aw12 (w:World) (f:PowTab w) (d:BruTab w) (o:MaxVar w):Calls Tryz.prog 277 #[] w fun e w'=>e= .returned (.bool true)∧Below w.heap.size w w':=
 zaK zkW rfl w (zeQ w f d o)
theorem zhR (w:World) (f:PowTab w) (d:BruTab w) (o:MaxVar w):Ev.OrcSound Tryz.prog 100 w.heap.size (Below w.heap.size w) zkP:=
 (zeQ w f d o).add rfl ((enters_of Tryz.func277 (by kernel_rfl) rfl) #[]) fun W _ p=>Aw12 W (zaD f p) (zaB d p) (zaC o p)
theorem zmM:Ev.runG Tryz.prog 100 (Ev.orcIn evL zkP) 100000 275 []=some (.bool true):=by kernel_rfl
theorem aw13 (w:World) (f:PowTab w) (d:BruTab w) (o:MaxVar w):Calls Tryz.prog 275 #[] w fun e w'=>e= .returned (.bool true)∧Below w.heap.size w w':=
 zaK zmM rfl w (zhR w f d o)
noncomputable def zkG:Ev.Orc:=Ev.orcAdd (Ev.orcAdd zkP 275 (.bool true)) 273 (.bool true)
theorem zmP:Ev.runG Tryz.prog 100 (Ev.orcIn evL (Ev.orcAdd zkP 275 (.bool true))) 100000 273 []=some (.bool true):=by kernel_rfl
theorem zeW (w:World) (f:PowTab w) (d:BruTab w) (o:MaxVar w):Ev.OrcSound Tryz.prog 100 w.heap.size (Below w.heap.size w) (Ev.orcAdd zkP 275 (.bool true)):=
 (zhR w f d o).add rfl ((enters_of Tryz.func275 (by kernel_rfl) rfl) #[]) fun W _ p=>aw13 W (zaD f p) (zaB d p) (zaC o p)
theorem Aw13 (w:World) (f:PowTab w) (d:BruTab w) (o:MaxVar w):Calls Tryz.prog 273 #[] w fun e w'=>e= .returned (.bool true)∧Below w.heap.size w w':=
 zaK zmP rfl w (zeW w f d o)
theorem zhA (w:World) (f:PowTab w) (d:BruTab w) (o:MaxVar w):Ev.OrcSound Tryz.prog 100 w.heap.size (Below w.heap.size w) zkG:=
 (zeW w f d o).add rfl ((enters_of Tryz.func273 (by kernel_rfl) rfl) #[]) fun W _ p=>Aw13 W (zaD f p) (zaB d p) (zaC o p)
theorem zlX:Ev.runG Tryz.prog 100 (Ev.orcIn evL zkG) 100000 271 []=some (.bool true):=by kernel_rfl
theorem aw14 (w:World) (f:PowTab w) (d:BruTab w) (o:MaxVar w):Calls Tryz.prog 271 #[] w fun e w'=>e= .returned (.bool true)∧Below w.heap.size w w':=
 zaK zlX rfl w (zhA w f d o)
noncomputable def zlN:Ev.Orc:=Ev.orcAdd (Ev.orcAdd zkG 271 (.bool true)) 270 (.bool true)
theorem zlA:Ev.runG Tryz.prog 100 (Ev.orcIn evL (Ev.orcAdd zkG 271 (.bool true))) 100000 270 []=some (.bool true):=by kernel_rfl
theorem zfS (w:World) (f:PowTab w) (d:BruTab w) (o:MaxVar w):Ev.OrcSound Tryz.prog 100 w.heap.size (Below w.heap.size w) (Ev.orcAdd zkG 271 (.bool true)):=
 (zhA w f d o).add rfl ((enters_of Tryz.func271 (by kernel_rfl) rfl) #[]) fun W _ p=>aw14 W (zaD f p) (zaB d p) (zaC o p)
theorem Aw14 (w:World) (f:PowTab w) (d:BruTab w) (o:MaxVar w):Calls Tryz.prog 270 #[] w fun e w'=>e= .returned (.bool true)∧Below w.heap.size w w':=
 zaK zlA rfl w (zfS w f d o)
theorem zhM (w:World) (f:PowTab w) (d:BruTab w) (o:MaxVar w):Ev.OrcSound Tryz.prog 100 w.heap.size (Below w.heap.size w) zlN:=
 (zfS w f d o).add rfl ((enters_of Tryz.func270 (by kernel_rfl) rfl) #[]) fun W _ p=>Aw14 W (zaD f p) (zaB d p) (zaC o p)
theorem zjY:Ev.runG Tryz.prog 100 (Ev.orcIn evL zlN) 100000 261 []=some (.bool true):=by kernel_rfl
theorem aw15 (w:World) (f:PowTab w) (d:BruTab w) (o:MaxVar w):Calls Tryz.prog 261 #[] w fun e w'=>e= .returned (.bool true)∧Below w.heap.size w w':=
 zaK zjY rfl w (zhM w f d o)
noncomputable def zmA:Ev.Orc:=Ev.orcAdd (Ev.orcAdd zlN 261 (.bool true)) 247 (.bool true)
theorem zkE:Ev.runG Tryz.prog 100 (Ev.orcIn evL (Ev.orcAdd zlN 261 (.bool true))) 100000 247 []=some (.bool true):=by kernel_rfl
theorem zfK (w:World) (f:PowTab w) (d:BruTab w) (o:MaxVar w):Ev.OrcSound Tryz.prog 100 w.heap.size (Below w.heap.size w) (Ev.orcAdd zlN 261 (.bool true)):=
 (zhM w f d o).add rfl ((enters_of Tryz.func261 (by kernel_rfl) rfl) #[]) fun W _ p=>aw15 W (zaD f p) (zaB d p) (zaC o p)
theorem Aw15 (w:World) (f:PowTab w) (d:BruTab w) (o:MaxVar w):Calls Tryz.prog 247 #[] w fun e w'=>e= .returned (.bool true)∧Below w.heap.size w w':=
 zaK zkE rfl w (zfK w f d o)
theorem ziD (w:World) (f:PowTab w) (d:BruTab w) (o:MaxVar w):Ev.OrcSound Tryz.prog 100 w.heap.size (Below w.heap.size w) zmA:=
 (zfK w f d o).add rfl ((enters_of Tryz.func247 (by kernel_rfl) rfl) #[]) fun W _ p=>Aw15 W (zaD f p) (zaB d p) (zaC o p)
theorem zkX:Ev.runG Tryz.prog 100 (Ev.orcIn evL zmA) 100000 223 []=some (.bool true):=by kernel_rfl
theorem aw16 (w:World) (f:PowTab w) (d:BruTab w) (o:MaxVar w):Calls Tryz.prog 223 #[] w fun e w'=>e= .returned (.bool true)∧Below w.heap.size w w':=
 zaK zkX rfl w (ziD w f d o)
noncomputable def zkY:Ev.Orc:=Ev.orcAdd (Ev.orcAdd zmA 223 (.bool true)) 189 (.bool true)
theorem zkL:Ev.runG Tryz.prog 100 (Ev.orcIn evL (Ev.orcAdd zmA 223 (.bool true))) 100000 189 []=some (.bool true):=by kernel_rfl
theorem zfF (w:World) (f:PowTab w) (d:BruTab w) (o:MaxVar w):Ev.OrcSound Tryz.prog 100 w.heap.size (Below w.heap.size w) (Ev.orcAdd zmA 223 (.bool true)):=
 (ziD w f d o).add rfl ((enters_of Tryz.func223 (by kernel_rfl) rfl) #[]) fun W _ p=>aw16 W (zaD f p) (zaB d p) (zaC o p)
theorem Aw16 (w:World) (f:PowTab w) (d:BruTab w) (o:MaxVar w):Calls Tryz.prog 189 #[] w fun e w'=>e= .returned (.bool true)∧Below w.heap.size w w':=
 zaK zkL rfl w (zfF w f d o)
theorem zhY (w:World) (f:PowTab w) (d:BruTab w) (o:MaxVar w):Ev.OrcSound Tryz.prog 100 w.heap.size (Below w.heap.size w) zkY:=
 (zfF w f d o).add rfl ((enters_of Tryz.func189 (by kernel_rfl) rfl) #[]) fun W _ p=>Aw16 W (zaD f p) (zaB d p) (zaC o p)
theorem zmV:Ev.runG Tryz.prog 100 (Ev.orcIn evL zkY) 100000 142 []=some (.bool true):=by kernel_rfl
theorem aw17 (w:World) (f:PowTab w) (d:BruTab w) (o:MaxVar w):Calls Tryz.prog 142 #[] w fun e w'=>e= .returned (.bool true)∧Below w.heap.size w w':=
 zaK zmV rfl w (zhY w f d o)
noncomputable def zmW:Ev.Orc:=Ev.orcAdd (Ev.orcAdd zkY 142 (.bool true)) 98 (.bool true)
theorem zmC:Ev.runG Tryz.prog 100 (Ev.orcIn evL (Ev.orcAdd zkY 142 (.bool true))) 100000 98 []=some (.bool true):=by kernel_rfl
theorem zeX (w:World) (f:PowTab w) (d:BruTab w) (o:MaxVar w):Ev.OrcSound Tryz.prog 100 w.heap.size (Below w.heap.size w) (Ev.orcAdd zkY 142 (.bool true)):=
 (zhY w f d o).add rfl ((enters_of Tryz.func142 (by kernel_rfl) rfl) #[]) fun W _ p=>aw17 W (zaD f p) (zaB d p) (zaC o p)
theorem Aw17 (w:World) (f:PowTab w) (d:BruTab w) (o:MaxVar w):Calls Tryz.prog 98 #[] w fun e w'=>e= .returned (.bool true)∧Below w.heap.size w w':=
 zaK zmC rfl w (zeX w f d o)
theorem zhI (w:World) (f:PowTab w) (d:BruTab w) (o:MaxVar w):Ev.OrcSound Tryz.prog 100 w.heap.size (Below w.heap.size w) zmW:=
 (zeX w f d o).add rfl ((enters_of Tryz.func98 (by kernel_rfl) rfl) #[]) fun W _ p=>Aw17 W (zaD f p) (zaB d p) (zaC o p)
theorem zlE:Ev.runG Tryz.prog 100 (Ev.orcIn evL zmW) 100000 69 []=some (.bool true):=by kernel_rfl
theorem aw18 (w:World) (f:PowTab w) (d:BruTab w) (o:MaxVar w):Calls Tryz.prog 69 #[] w fun e w'=>e= .returned (.bool true)∧Below w.heap.size w w':=
 zaK zlE rfl w (zhI w f d o)
noncomputable def zmN:Ev.Orc:=Ev.orcAdd (Ev.orcAdd zmW 69 (.bool true)) 52 (.bool true)
theorem zmK:Ev.runG Tryz.prog 100 (Ev.orcIn evL (Ev.orcAdd zmW 69 (.bool true))) 100000 52 []=some (.bool true):=by kernel_rfl
theorem zfT (w:World) (f:PowTab w) (d:BruTab w) (o:MaxVar w):Ev.OrcSound Tryz.prog 100 w.heap.size (Below w.heap.size w) (Ev.orcAdd zmW 69 (.bool true)):=
 (zhI w f d o).add rfl ((enters_of Tryz.func69 (by kernel_rfl) rfl) #[]) fun W _ p=>aw18 W (zaD f p) (zaB d p) (zaC o p)
theorem Aw18 (w:World) (f:PowTab w) (d:BruTab w) (o:MaxVar w):Calls Tryz.prog 52 #[] w fun e w'=>e= .returned (.bool true)∧Below w.heap.size w w':=
 zaK zmK rfl w (zfT w f d o)
theorem zhX (w:World) (f:PowTab w) (d:BruTab w) (o:MaxVar w):Ev.OrcSound Tryz.prog 100 w.heap.size (Below w.heap.size w) zmN:=
 (zfT w f d o).add rfl ((enters_of Tryz.func52 (by kernel_rfl) rfl) #[]) fun W _ p=>Aw18 W (zaD f p) (zaB d p) (zaC o p)
theorem zkS:Ev.runG Tryz.prog 100 (Ev.orcIn evL zmN) 100000 40 []=some (.bool true):=by kernel_rfl
theorem aw19 (w:World) (f:PowTab w) (d:BruTab w) (o:MaxVar w):Calls Tryz.prog 40 #[] w fun e w'=>e= .returned (.bool true)∧Below w.heap.size w w':=
 zaK zkS rfl w (zhX w f d o)
noncomputable def zmX:Ev.Orc:=Ev.orcAdd (Ev.orcAdd zmN 40 (.bool true)) 26 (.bool true)
theorem zmQ:Ev.runG Tryz.prog 100 (Ev.orcIn evL (Ev.orcAdd zmN 40 (.bool true))) 100000 26 []=some (.bool true):=by kernel_rfl
theorem zeZ (w:World) (f:PowTab w) (d:BruTab w) (o:MaxVar w):Ev.OrcSound Tryz.prog 100 w.heap.size (Below w.heap.size w) (Ev.orcAdd zmN 40 (.bool true)):=
 (zhX w f d o).add rfl ((enters_of Tryz.func40 (by kernel_rfl) rfl) #[]) fun W _ p=>aw19 W (zaD f p) (zaB d p) (zaC o p)
theorem Aw19 (w:World) (f:PowTab w) (d:BruTab w) (o:MaxVar w):Calls Tryz.prog 26 #[] w fun e w'=>e= .returned (.bool true)∧Below w.heap.size w w':=
 zaK zmQ rfl w (zeZ w f d o)
theorem zhF (w:World) (f:PowTab w) (d:BruTab w) (o:MaxVar w):Ev.OrcSound Tryz.prog 100 w.heap.size (Below w.heap.size w) zmX:=
 (zeZ w f d o).add rfl ((enters_of Tryz.func26 (by kernel_rfl) rfl) #[]) fun W _ p=>Aw19 W (zaD f p) (zaB d p) (zaC o p)
theorem zkO:Ev.runG Tryz.prog 100 (Ev.orcIn evL zmX) 100000 6 []=some (.bool true):=by kernel_rfl
theorem aw20 (w:World) (f:PowTab w) (d:BruTab w) (o:MaxVar w):Calls Tryz.prog 6 #[] w fun e w'=>e= .returned (.bool true)∧Below w.heap.size w w':=
 zaK zkO rfl w (zhF w f d o)
noncomputable def orc20:Ev.Orc:=Ev.orcAdd (Ev.orcAdd zmX 6 (.bool true)) 31 (.bool true)
theorem zkM:Ev.runG Tryz.prog 100 (Ev.orcIn evL (Ev.orcAdd zmX 6 (.bool true))) 100000 31 []=some (.bool true):=by kernel_rfl
theorem zfX (w:World) (f:PowTab w) (d:BruTab w) (o:MaxVar w):Ev.OrcSound Tryz.prog 100 w.heap.size (Below w.heap.size w) (Ev.orcAdd zmX 6 (.bool true)):=
 (zhF w f d o).add rfl ((enters_of Tryz.func6 (by kernel_rfl) rfl) #[]) fun W _ p=>aw20 W (zaD f p) (zaB d p) (zaC o p)
theorem Aw20 (w:World) (f:PowTab w) (d:BruTab w) (o:MaxVar w):Calls Tryz.prog 31 #[] w fun e w'=>e= .returned (.bool true)∧Below w.heap.size w w':=
 zaK zkM rfl w (zfX w f d o)
theorem zoD (w:World) (f:PowTab w) (d:BruTab w) (o:MaxVar w):Ev.OrcSound Tryz.prog 100 w.heap.size (Below w.heap.size w) orc20:=
 (zfX w f d o).add rfl ((enters_of Tryz.func31 (by kernel_rfl) rfl) #[]) fun W _ p=>Aw20 W (zaD f p) (zaB d p) (zaC o p)
theorem zlL:Ev.runG Tryz.prog 100 (Ev.orcIn evL orc20) 100000 13 []=some (.bool true):=by kernel_rfl
theorem aw21 (w:World) (f:PowTab w) (d:BruTab w) (o:MaxVar w):Calls Tryz.prog 13 #[] w fun e w'=>e= .returned (.bool true)∧Below w.heap.size w w':=
 zaK zlL rfl w (zoD w f d o)
end
end Go.Proofs.YtkiehdigpchebaaGreatDoor
