/-
  What the law WhatwgClean leans on, and its walk (6 of 31).
-/
import Derived.Deep.DeepCutAuto
import Derived.Defers
import Derived.Recover
import Derived.Deep.OwnRows
import Derived.Test.YthacmlahnpdeeaaGreatDoorWhatwgCleanPkE
import Derived.Test.YthacmlahnpdeeaaGreatDoorWhatwgCleanPkC
import Derived.Test.YthacmlahnpdeeaaGreatDoorWhatwgCleanPkK
namespace Go.Proofs.YthacmlahnpdeeaaGreatDoor
set_option maxRecDepth 100000
set_option maxHeartbeats 16000000
section
section
open Go.RowKit
/-- an address of either sort -/
inductive AZ where
 |four (n:Int)
 |six (hi lo:Int)
def AZ.val:AZ→Value
 | .four n=> .iface 117 (.int .u32 n)
 | .six hi lo=> .iface 120 (.agg #[.int .u64 hi,.int .u64 lo])
def AZ.Ok:AZ→Prop
 | .four n=>0≤n∧n≤4294967295
 | .six hi lo=>(0≤hi∧hi≤18446744073709551615)∧(0≤lo∧lo≤18446744073709551615)
def AZ.make (is:Bool) (hi lo:Int):AZ:=if is then .six hi lo else .four (lo % 4294967296)
theorem as44 (v:Value) (w:World):(Instr.typeAssert (.iface 117 v) 86 117 true).run Tryz.prog w= .ok (.tuple #[v,.bool true]) w:=by kernel_rfl
theorem as64 (v:Value) (w:World):(Instr.typeAssert (.iface 120 v) 86 117 true).run Tryz.prog w= .ok (.tuple #[.int .u32 0,.bool false]) w:=by kernel_rfl
theorem as46 (v:Value) (w:World):(Instr.typeAssert (.iface 117 v) 86 120 true).run Tryz.prog w= .ok (.tuple #[.agg #[.int .u64 0,.int .u64 0],.bool false]) w:=by kernel_rfl
theorem as66 (v:Value) (w:World):(Instr.typeAssert (.iface 120 v) 86 120 true).run Tryz.prog w= .ok (.tuple #[v,.bool true]) w:=by kernel_rfl
theorem zaE (x:Int):IntKind.u32.wrap x=x % 4294967296:=by rw [IntKind.wrap_u32]
theorem zlG (n:Int) (w:World):
  Calls Tryz.prog 269 #[.iface 117 (.int .u32 n)] w fun e w'=>e= .returned (.tuple #[.int .u32 n,.bool true])∧w=w':=by
 have hta:=as44
 go_enter Tryz.func269,Tryz.ntmps269
 go_wp2
 go_ret2
 exact ⟨rfl,rfl⟩
theorem zoZ (hi lo:Int) (w:World):
  Calls Tryz.prog 269 #[.iface 120 (.agg #[.int .u64 hi,.int .u64 lo])] w fun e w'=>e= .returned (.tuple #[.int .u32 0,.bool false])∧w=w':=by
 have hta:=as64
 go_enter Tryz.func269,Tryz.ntmps269
 go_wp2
 go_ret2
 exact ⟨rfl,rfl⟩
/-- what a text is -/
def zaY (l:List UInt8):Option AZ:=
 if (zaN l).2=true then some (.four (zaN l).1) else if (sixZ l).2=true then some (.six (sixZ l).1.1 (sixZ l).1.2) else none
def optV:Option AZ→Value
 |none=> .nilIface
 |some a=>a.val
theorem z6N (l:List UInt8):(0≤(sixZ l).1.1∧(sixZ l).1.1≤18446744073709551615)∧(0≤(sixZ l).1.2∧(sixZ l).1.2≤18446744073709551615):=⟨z2Z (ycT l),z4C (ycT l)⟩
theorem yeS {l:List UInt8} {a:AZ} (h:zaY l=some a):a.Ok:=by
 unfold zaY at h
 split at h
 ·cases h;exact zgK l
 ·split at h
  ·cases h;exact z6N l
  ·cases h
def yeC (w:World) (x:Option AZ) (e:Ending) (w':World):Prop:=e= .returned (.tuple #[optV x,.bool x.isSome])∧Below w.heap.size w w'
theorem zbH (s:ByteArray) (w:World) (hs:s.size≤1073741824) (hmax:MaxVar w):
  Calls Tryz.prog 268 #[.string s] w (yeC w (zaY s.data.toList)):=by
 have HX:=Lib.hid hmax
 clear hmax
 obtain ⟨y,b4,hy⟩: ∃x b,zaN s.data.toList=(x,b):=⟨_,_,rfl⟩
 have HY:=Lib.hid hy
 obtain ⟨h,l,b6,hz⟩: ∃h l b,sixZ s.data.toList=((h,l),b):=⟨_,_,_,rfl⟩
 have HZ:=Lib.hid hz
 have HA:Hid (zaY s.data.toList=if b4=true then some (.four y) else if b6=true then some (.six h l) else none):=by
  show zaY s.data.toList=_
  unfold zaY;rw [hy,hz]
 clear hy hz
 cases b4 with
 |true=>
  go_enter Tryz.func268,Tryz.ntmps268
  go_wp2_with fail
  refine (zgQ s _ hs).mono ?_
  rw [HY.out]
  rintro e w1 ⟨rfl,hb1⟩
  go_wp2
  go_ret2
  exact ⟨by rw [HA.out];rfl,hb1⟩
 |false=>
  go_enter Tryz.func268,Tryz.ntmps268
  go_wp2_with fail
  refine (zgQ s _ hs).mono ?_
  rw [HY.out]
  rintro e w1 ⟨rfl,hb1⟩
  go_wp2_with fail
  refine (ziR s _ hs (zaB HX.out hb1)).mono ?_
  rw [HZ.out]
  rintro e w2 ⟨rfl,hb2⟩
  have hc2:Below w.heap.size w w2:=hb1.trans (hb2.mono hb1.size)
  cases b6 with
  |true=>
   go_wp2
   go_ret2
   exact ⟨by rw [HA.out];rfl,hc2.alloc hc2.size _⟩
  |false=>
   go_wp2
   go_ret2
   exact ⟨by rw [HA.out];rfl,hc2.alloc hc2.size _⟩
end
section
open Go.RowKit
def inA (hi th lw:Int):List Int:=if hi=0∧th=65535 then [lw] else []
def inCo (hi th lw:Int):List Int:=if hi=0∧th=0∧1<lw then [lw] else []
def inC (hi th lw:Int):List Int:=if hi=28428538856079360∧th=0 then [lw] else []
def inD (hi:Int):List Int:=if hi/281474976710656=8194 then [hi/65536 % 4294967296] else []
def inE (hi lw:Int):List Int:=if hi/4294967296=536936448 then [hi % 4294967296,4294967295 - lw] else []
def inF (th lw:Int):List Int:=if th=24318∨th=33578750 then [lw] else []
def zaG (hi lo:Int):List Int:=
 inA hi (lo/4294967296) (lo % 4294967296)++inCo hi (lo/4294967296) (lo % 4294967296)++inC hi (lo/4294967296) (lo % 4294967296)++inD hi++inE hi (lo % 4294967296)++inF (lo/4294967296) (lo % 4294967296)
theorem Tryz.infoFour:(Tryz.prog.info? 117).map (fun i=>(i.zero,i.size,i.bytes))=some (some (.int .u32 0),1,4):=by kernel_rfl
theorem ydA (n:Int) (h0:0≤n) (h1:n≤4294967295):bits .xor .u32 (if IntKind.u32.signed=true then -1 else IntKind.u32.max) n=4294967295 - n:=by
 obtain ⟨a,rfl⟩:=Int.eq_ofNat_of_zero_le h0
 have ha:a<2^32:=by omega
 have e1:BitVec.ofInt 32 4294967295=BitVec.allOnes 32:=by decide
 show IntKind.u32.wrap (((BitVec.ofInt 32 4294967295)^^^(BitVec.ofInt 32 (a:Int))).toNat:Int)=_
 rw [e1,BitVec.allOnes_xor,BitVec.toNat_not,BitVec.ofInt_natCast,BitVec.toNat_ofNat,Nat.mod_eq_of_lt ha,IntKind.wrap_u32]
 omega
def zbI (w:World) (l:List Int) (e:Ending) (w':World):Prop:= ∃v,e= .returned v∧Nums 117 .u32 w.heap.size w' v l∧Below w.heap.size w w'
theorem z4V (n:Int) (w:World):
  Calls Tryz.prog 245 #[.iface 117 (.int .u32 n)] w (zbI w []):=by
 have hta:=as46
 go_enter Tryz.func245,Tryz.ntmps245
 go_wp2
 go_ret
 exact ⟨_,rfl,Nums.nil _ _ _ _,(Below.refl _ _).alloc (Nat.le_refl _) _⟩
end
section
open Go.RowKit
theorem zpK (hi lo th lw:Int) (w:World) (hbd:(0≤hi∧hi≤18446744073709551615)∧(0≤lo∧lo≤18446744073709551615)) (hth:lo/4294967296=th) (hlw2:lo % 4294967296=lw) (hh:hi=0) (hk:th=65535):
  Calls Tryz.prog 245 #[.iface 120 (.agg #[.int .u64 hi,.int .u64 lo])] w (zbI w (zaG hi lo)):=by
 obtain ⟨⟨h0,h1⟩,l0,l1⟩:=hbd
 obtain ⟨i0,hi0,hz0,hz1,hz2⟩:=info_parts Tryz.infoFour
 have hta:=as66
 have hwl:IntKind.u32.wrap lo=lw:=by rw [zaE];exact hlw2
 have hwd:IntKind.u32.wrap (hi/65536)=hi/65536 % 4294967296:=zaE _
 have hwe:IntKind.u32.wrap hi=hi % 4294967296:=zaE _
 have hA:inA hi th lw=[lw]:=if_pos (by omega)
 have hB:inCo hi th lw=[]:=if_neg (by omega)
 have hC:inC hi th lw=[]:=if_neg (by omega)
 have hD:inD hi=[]:=if_neg (by omega)
 have hE:inE hi lw=[]:=if_neg (by omega)
 have hF:inF th lw=[]:=if_neg (by omega)
 have HZ:Hid (zaG hi lo=[lw]):=by show zaG hi lo=_;rw [zaG,hth,hlw2,hA,hB,hC,hD,hE,hF];rfl
 clear hA hB hC hD hE hF
 have ht0:0≤th:=by omega
 have ht1:th≤4294967295:=by omega
 have hw0:0≤lw:=by omega
 have hw1:lw≤4294967295:=by omega
 have q1:((hi)==(0:Int))=true:=by rw [beq_iff_eq];omega
 have q2:((th)==(65535:Int))=true:=by rw [beq_iff_eq];omega
 have q3:((th)==(0:Int))=false:=by rw [beq_eq_false_iff_ne];omega
 have q5:((hi)==(28428538856079360:Int))=false:=by rw [beq_eq_false_iff_ne];omega
 have q6:((hi/281474976710656)==(8194:Int))=false:=by rw [beq_eq_false_iff_ne];omega
 have q7:((hi/4294967296)==(536936448:Int))=false:=by rw [beq_eq_false_iff_ne];omega
 have q8:((th)==(24318:Int))=false:=by rw [beq_eq_false_iff_ne];omega
 have q9:((th)==(33578750:Int))=false:=by rw [beq_eq_false_iff_ne];omega
 clear hlw2 hh hk
 have hc1:Below w.heap.size w (w.alloc (.cells #[.int .u64 hi,.int .u64 lo] 120)):=(Below.refl _ w).alloc (Nat.le_refl _) _
 go_enter Tryz.func245,Tryz.ntmps245
 go_wp2_with fail
 refine (zbC hi lo _).mono ?_
 rintro e x1 ⟨rfl,hb1⟩
 have hc:Below w.heap.size w x1:=hc1.trans (hb1.mono hc1.size)
 have hsz:=hc.size
 clear hb1 hc1 hta
 have hown0:=World.ownsRow_nil x1 w.heap.size 117 1
 go_wp2_with (first
  |(at_builtin;refine zaX _ rfl _ _ 241 rfl w.heap.size 117 i0 (.int .u32 0) 4 Tryz.underlying241 hi0 hz0 hz1 hz2 rfl _ 0 _ rfl hown0 (.int .u32 lw) rfl rfl (by decide) (by decide) hsz ?_;intro v1 y1 hown1 hk1))
 go_ret
 exact ⟨_,rfl,by rw [HZ.out];exact hown1,(hc.trans hk1)⟩
theorem zjW (hi lo th lw:Int) (w:World) (hbd:(0≤hi∧hi≤18446744073709551615)∧(0≤lo∧lo≤18446744073709551615)) (hth:lo/4294967296=th) (hlw2:lo % 4294967296=lw) (hh:hi=0) (hk:th=0) (hlw:1<lw):
  Calls Tryz.prog 245 #[.iface 120 (.agg #[.int .u64 hi,.int .u64 lo])] w (zbI w (zaG hi lo)):=by
 obtain ⟨⟨h0,h1⟩,l0,l1⟩:=hbd
 obtain ⟨i0,hi0,hz0,hz1,hz2⟩:=info_parts Tryz.infoFour
 have hta:=as66
 have hwl:IntKind.u32.wrap lo=lw:=by rw [zaE];exact hlw2
 have hwd:IntKind.u32.wrap (hi/65536)=hi/65536 % 4294967296:=zaE _
 have hwe:IntKind.u32.wrap hi=hi % 4294967296:=zaE _
 have hA:inA hi th lw=[]:=if_neg (by omega)
 have hB:inCo hi th lw=[lw]:=if_pos (by omega)
 have hC:inC hi th lw=[]:=if_neg (by omega)
 have hD:inD hi=[]:=if_neg (by omega)
 have hE:inE hi lw=[]:=if_neg (by omega)
 have hF:inF th lw=[]:=if_neg (by omega)
 have HZ:Hid (zaG hi lo=[lw]):=by show zaG hi lo=_;rw [zaG,hth,hlw2,hA,hB,hC,hD,hE,hF];rfl
 clear hA hB hC hD hE hF
 have ht0:0≤th:=by omega
 have ht1:th≤4294967295:=by omega
 have hw0:0≤lw:=by omega
 have hw1:lw≤4294967295:=by omega
 have q1:((hi)==(0:Int))=true:=by rw [beq_iff_eq];omega
 have q2:((th)==(65535:Int))=false:=by rw [beq_eq_false_iff_ne];omega
 have q3:((th)==(0:Int))=true:=by rw [beq_iff_eq];omega
 have q5:((hi)==(28428538856079360:Int))=false:=by rw [beq_eq_false_iff_ne];omega
 have q6:((hi/281474976710656)==(8194:Int))=false:=by rw [beq_eq_false_iff_ne];omega
 have q7:((hi/4294967296)==(536936448:Int))=false:=by rw [beq_eq_false_iff_ne];omega
 have q8:((th)==(24318:Int))=false:=by rw [beq_eq_false_iff_ne];omega
 have q9:((th)==(33578750:Int))=false:=by rw [beq_eq_false_iff_ne];omega
 have q4:decide ((1:Int)<lw)=true:=decide_eq_true (by omega)
 clear hlw2 hh hk
 have hc1:Below w.heap.size w (w.alloc (.cells #[.int .u64 hi,.int .u64 lo] 120)):=(Below.refl _ w).alloc (Nat.le_refl _) _
 go_enter Tryz.func245,Tryz.ntmps245
 go_wp2_with fail
 refine (zbC hi lo _).mono ?_
 rintro e x1 ⟨rfl,hb1⟩
 have hc:Below w.heap.size w x1:=hc1.trans (hb1.mono hc1.size)
 have hsz:=hc.size
 clear hb1 hc1 hta
 have hown0:=World.ownsRow_nil x1 w.heap.size 117 1
 go_wp2_with (first
  |(at_builtin;refine zaX _ rfl _ _ 241 rfl w.heap.size 117 i0 (.int .u32 0) 4 Tryz.underlying241 hi0 hz0 hz1 hz2 rfl _ 0 _ rfl hown0 (.int .u32 lw) rfl rfl (by decide) (by decide) hsz ?_;intro v1 y1 hown1 hk1))
 go_ret
 exact ⟨_,rfl,by rw [HZ.out];exact hown1,(hc.trans hk1)⟩
theorem zoS (hi lo th lw:Int) (w:World) (hbd:(0≤hi∧hi≤18446744073709551615)∧(0≤lo∧lo≤18446744073709551615)) (hth:lo/4294967296=th) (hlw2:lo % 4294967296=lw) (hh:hi=0) (hk:th=0) (hlw:lw≤1):
  Calls Tryz.prog 245 #[.iface 120 (.agg #[.int .u64 hi,.int .u64 lo])] w (zbI w (zaG hi lo)):=by
 obtain ⟨⟨h0,h1⟩,l0,l1⟩:=hbd
 obtain ⟨i0,hi0,hz0,hz1,hz2⟩:=info_parts Tryz.infoFour
 have hta:=as66
 have hwl:IntKind.u32.wrap lo=lw:=by rw [zaE];exact hlw2
 have hwd:IntKind.u32.wrap (hi/65536)=hi/65536 % 4294967296:=zaE _
 have hwe:IntKind.u32.wrap hi=hi % 4294967296:=zaE _
 have hA:inA hi th lw=[]:=if_neg (by omega)
 have hB:inCo hi th lw=[]:=if_neg (by omega)
 have hC:inC hi th lw=[]:=if_neg (by omega)
 have hD:inD hi=[]:=if_neg (by omega)
 have hE:inE hi lw=[]:=if_neg (by omega)
 have hF:inF th lw=[]:=if_neg (by omega)
 have HZ:Hid (zaG hi lo=[]):=by show zaG hi lo=_;rw [zaG,hth,hlw2,hA,hB,hC,hD,hE,hF];rfl
 clear hA hB hC hD hE hF
 have ht0:0≤th:=by omega
 have ht1:th≤4294967295:=by omega
 have hw0:0≤lw:=by omega
 have hw1:lw≤4294967295:=by omega
 have q1:((hi)==(0:Int))=true:=by rw [beq_iff_eq];omega
 have q2:((th)==(65535:Int))=false:=by rw [beq_eq_false_iff_ne];omega
 have q3:((th)==(0:Int))=true:=by rw [beq_iff_eq];omega
 have q5:((hi)==(28428538856079360:Int))=false:=by rw [beq_eq_false_iff_ne];omega
 have q6:((hi/281474976710656)==(8194:Int))=false:=by rw [beq_eq_false_iff_ne];omega
 have q7:((hi/4294967296)==(536936448:Int))=false:=by rw [beq_eq_false_iff_ne];omega
 have q8:((th)==(24318:Int))=false:=by rw [beq_eq_false_iff_ne];omega
 have q9:((th)==(33578750:Int))=false:=by rw [beq_eq_false_iff_ne];omega
 have q4:decide ((1:Int)<lw)=false:=decide_eq_false (by omega)
 clear hlw2 hh hk
 have hc1:Below w.heap.size w (w.alloc (.cells #[.int .u64 hi,.int .u64 lo] 120)):=(Below.refl _ w).alloc (Nat.le_refl _) _
 go_enter Tryz.func245,Tryz.ntmps245
 go_wp2_with fail
 refine (zbC hi lo _).mono ?_
 rintro e x1 ⟨rfl,hb1⟩
 have hc:Below w.heap.size w x1:=hc1.trans (hb1.mono hc1.size)
 have hsz:=hc.size
 clear hb1 hc1 hta
 have hown0:=World.ownsRow_nil x1 w.heap.size 117 1
 go_wp2
 go_ret
 exact ⟨_,rfl,by rw [HZ.out];exact Nums.nil _ _ _ _,hc⟩
theorem zsO (hi lo th lw:Int) (w:World) (hbd:(0≤hi∧hi≤18446744073709551615)∧(0≤lo∧lo≤18446744073709551615)) (hth:lo/4294967296=th) (hlw2:lo % 4294967296=lw) (hh:hi=0) (hk:th=24318):
  Calls Tryz.prog 245 #[.iface 120 (.agg #[.int .u64 hi,.int .u64 lo])] w (zbI w (zaG hi lo)):=by
 obtain ⟨⟨h0,h1⟩,l0,l1⟩:=hbd
 obtain ⟨i0,hi0,hz0,hz1,hz2⟩:=info_parts Tryz.infoFour
 have hta:=as66
 have hwl:IntKind.u32.wrap lo=lw:=by rw [zaE];exact hlw2
 have hwd:IntKind.u32.wrap (hi/65536)=hi/65536 % 4294967296:=zaE _
 have hwe:IntKind.u32.wrap hi=hi % 4294967296:=zaE _
 have hA:inA hi th lw=[]:=if_neg (by omega)
 have hB:inCo hi th lw=[]:=if_neg (by omega)
 have hC:inC hi th lw=[]:=if_neg (by omega)
 have hD:inD hi=[]:=if_neg (by omega)
 have hE:inE hi lw=[]:=if_neg (by omega)
 have hF:inF th lw=[lw]:=if_pos (by omega)
 have HZ:Hid (zaG hi lo=[lw]):=by show zaG hi lo=_;rw [zaG,hth,hlw2,hA,hB,hC,hD,hE,hF];rfl
 clear hA hB hC hD hE hF
 have ht0:0≤th:=by omega
 have ht1:th≤4294967295:=by omega
 have hw0:0≤lw:=by omega
 have hw1:lw≤4294967295:=by omega
 have q1:((hi)==(0:Int))=true:=by rw [beq_iff_eq];omega
 have q2:((th)==(65535:Int))=false:=by rw [beq_eq_false_iff_ne];omega
 have q3:((th)==(0:Int))=false:=by rw [beq_eq_false_iff_ne];omega
 have q5:((hi)==(28428538856079360:Int))=false:=by rw [beq_eq_false_iff_ne];omega
 have q6:((hi/281474976710656)==(8194:Int))=false:=by rw [beq_eq_false_iff_ne];omega
 have q7:((hi/4294967296)==(536936448:Int))=false:=by rw [beq_eq_false_iff_ne];omega
 have q8:((th)==(24318:Int))=true:=by rw [beq_iff_eq];omega
 have q9:((th)==(33578750:Int))=false:=by rw [beq_eq_false_iff_ne];omega
 clear hlw2 hh hk
 have hc1:Below w.heap.size w (w.alloc (.cells #[.int .u64 hi,.int .u64 lo] 120)):=(Below.refl _ w).alloc (Nat.le_refl _) _
 go_enter Tryz.func245,Tryz.ntmps245
 go_wp2_with fail
 refine (zbC hi lo _).mono ?_
 rintro e x1 ⟨rfl,hb1⟩
 have hc:Below w.heap.size w x1:=hc1.trans (hb1.mono hc1.size)
 have hsz:=hc.size
 clear hb1 hc1 hta
 have hown0:=World.ownsRow_nil x1 w.heap.size 117 1
 go_wp2_with (first
  |(at_builtin;refine zaX _ rfl _ _ 241 rfl w.heap.size 117 i0 (.int .u32 0) 4 Tryz.underlying241 hi0 hz0 hz1 hz2 rfl _ 0 _ rfl hown0 (.int .u32 lw) rfl rfl (by decide) (by decide) hsz ?_;intro v1 y1 hown1 hk1))
 go_ret
 exact ⟨_,rfl,by rw [HZ.out];exact hown1,(hc.trans hk1)⟩
theorem zsK (hi lo th lw:Int) (w:World) (hbd:(0≤hi∧hi≤18446744073709551615)∧(0≤lo∧lo≤18446744073709551615)) (hth:lo/4294967296=th) (hlw2:lo % 4294967296=lw) (hh:hi=0) (hk:th=33578750):
  Calls Tryz.prog 245 #[.iface 120 (.agg #[.int .u64 hi,.int .u64 lo])] w (zbI w (zaG hi lo)):=by
 obtain ⟨⟨h0,h1⟩,l0,l1⟩:=hbd
 obtain ⟨i0,hi0,hz0,hz1,hz2⟩:=info_parts Tryz.infoFour
 have hta:=as66
 have hwl:IntKind.u32.wrap lo=lw:=by rw [zaE];exact hlw2
 have hwd:IntKind.u32.wrap (hi/65536)=hi/65536 % 4294967296:=zaE _
 have hwe:IntKind.u32.wrap hi=hi % 4294967296:=zaE _
 have hA:inA hi th lw=[]:=if_neg (by omega)
 have hB:inCo hi th lw=[]:=if_neg (by omega)
 have hC:inC hi th lw=[]:=if_neg (by omega)
 have hD:inD hi=[]:=if_neg (by omega)
 have hE:inE hi lw=[]:=if_neg (by omega)
 have hF:inF th lw=[lw]:=if_pos (by omega)
 have HZ:Hid (zaG hi lo=[lw]):=by show zaG hi lo=_;rw [zaG,hth,hlw2,hA,hB,hC,hD,hE,hF];rfl
 clear hA hB hC hD hE hF
 have ht0:0≤th:=by omega
 have ht1:th≤4294967295:=by omega
 have hw0:0≤lw:=by omega
 have hw1:lw≤4294967295:=by omega
 have q1:((hi)==(0:Int))=true:=by rw [beq_iff_eq];omega
 have q2:((th)==(65535:Int))=false:=by rw [beq_eq_false_iff_ne];omega
 have q3:((th)==(0:Int))=false:=by rw [beq_eq_false_iff_ne];omega
 have q5:((hi)==(28428538856079360:Int))=false:=by rw [beq_eq_false_iff_ne];omega
 have q6:((hi/281474976710656)==(8194:Int))=false:=by rw [beq_eq_false_iff_ne];omega
 have q7:((hi/4294967296)==(536936448:Int))=false:=by rw [beq_eq_false_iff_ne];omega
 have q8:((th)==(24318:Int))=false:=by rw [beq_eq_false_iff_ne];omega
 have q9:((th)==(33578750:Int))=true:=by rw [beq_iff_eq];omega
 clear hlw2 hh hk
 have hc1:Below w.heap.size w (w.alloc (.cells #[.int .u64 hi,.int .u64 lo] 120)):=(Below.refl _ w).alloc (Nat.le_refl _) _
 go_enter Tryz.func245,Tryz.ntmps245
 go_wp2_with fail
 refine (zbC hi lo _).mono ?_
 rintro e x1 ⟨rfl,hb1⟩
 have hc:Below w.heap.size w x1:=hc1.trans (hb1.mono hc1.size)
 have hsz:=hc.size
 clear hb1 hc1 hta
 have hown0:=World.ownsRow_nil x1 w.heap.size 117 1
 go_wp2_with (first
  |(at_builtin;refine zaX _ rfl _ _ 241 rfl w.heap.size 117 i0 (.int .u32 0) 4 Tryz.underlying241 hi0 hz0 hz1 hz2 rfl _ 0 _ rfl hown0 (.int .u32 lw) rfl rfl (by decide) (by decide) hsz ?_;intro v1 y1 hown1 hk1))
 go_ret
 exact ⟨_,rfl,by rw [HZ.out];exact hown1,(hc.trans hk1)⟩
theorem zpS (hi lo th lw:Int) (w:World) (hbd:(0≤hi∧hi≤18446744073709551615)∧(0≤lo∧lo≤18446744073709551615)) (hth:lo/4294967296=th) (hlw2:lo % 4294967296=lw) (hh:hi=0) (hk:th≠65535∧th≠0∧th≠24318∧th≠33578750):
  Calls Tryz.prog 245 #[.iface 120 (.agg #[.int .u64 hi,.int .u64 lo])] w (zbI w (zaG hi lo)):=by
 obtain ⟨⟨h0,h1⟩,l0,l1⟩:=hbd
 obtain ⟨i0,hi0,hz0,hz1,hz2⟩:=info_parts Tryz.infoFour
 have hta:=as66
 have hwl:IntKind.u32.wrap lo=lw:=by rw [zaE];exact hlw2
 have hwd:IntKind.u32.wrap (hi/65536)=hi/65536 % 4294967296:=zaE _
 have hwe:IntKind.u32.wrap hi=hi % 4294967296:=zaE _
 have hA:inA hi th lw=[]:=if_neg (by omega)
 have hB:inCo hi th lw=[]:=if_neg (by omega)
 have hC:inC hi th lw=[]:=if_neg (by omega)
 have hD:inD hi=[]:=if_neg (by omega)
 have hE:inE hi lw=[]:=if_neg (by omega)
 have hF:inF th lw=[]:=if_neg (by omega)
 have HZ:Hid (zaG hi lo=[]):=by show zaG hi lo=_;rw [zaG,hth,hlw2,hA,hB,hC,hD,hE,hF];rfl
 clear hA hB hC hD hE hF
 have ht0:0≤th:=by omega
 have ht1:th≤4294967295:=by omega
 have hw0:0≤lw:=by omega
 have hw1:lw≤4294967295:=by omega
 have q1:((hi)==(0:Int))=true:=by rw [beq_iff_eq];omega
 have q2:((th)==(65535:Int))=false:=by rw [beq_eq_false_iff_ne];omega
 have q3:((th)==(0:Int))=false:=by rw [beq_eq_false_iff_ne];omega
 have q5:((hi)==(28428538856079360:Int))=false:=by rw [beq_eq_false_iff_ne];omega
 have q6:((hi/281474976710656)==(8194:Int))=false:=by rw [beq_eq_false_iff_ne];omega
 have q7:((hi/4294967296)==(536936448:Int))=false:=by rw [beq_eq_false_iff_ne];omega
 have q8:((th)==(24318:Int))=false:=by rw [beq_eq_false_iff_ne];omega
 have q9:((th)==(33578750:Int))=false:=by rw [beq_eq_false_iff_ne];omega
 clear hlw2 hh hk
 have hc1:Below w.heap.size w (w.alloc (.cells #[.int .u64 hi,.int .u64 lo] 120)):=(Below.refl _ w).alloc (Nat.le_refl _) _
 go_enter Tryz.func245,Tryz.ntmps245
 go_wp2_with fail
 refine (zbC hi lo _).mono ?_
 rintro e x1 ⟨rfl,hb1⟩
 have hc:Below w.heap.size w x1:=hc1.trans (hb1.mono hc1.size)
 have hsz:=hc.size
 clear hb1 hc1 hta
 have hown0:=World.ownsRow_nil x1 w.heap.size 117 1
 go_wp2
 go_ret
 exact ⟨_,rfl,by rw [HZ.out];exact Nums.nil _ _ _ _,hc⟩
theorem zrZ (hi lo th lw:Int) (w:World) (hbd:(0≤hi∧hi≤18446744073709551615)∧(0≤lo∧lo≤18446744073709551615)) (hth:lo/4294967296=th) (hlw2:lo % 4294967296=lw) (hh:hi=28428538856079360) (hk:th=65535):
  Calls Tryz.prog 245 #[.iface 120 (.agg #[.int .u64 hi,.int .u64 lo])] w (zbI w (zaG hi lo)):=by
 obtain ⟨⟨h0,h1⟩,l0,l1⟩:=hbd
 obtain ⟨i0,hi0,hz0,hz1,hz2⟩:=info_parts Tryz.infoFour
 have hta:=as66
 have hwl:IntKind.u32.wrap lo=lw:=by rw [zaE];exact hlw2
 have hwd:IntKind.u32.wrap (hi/65536)=hi/65536 % 4294967296:=zaE _
 have hwe:IntKind.u32.wrap hi=hi % 4294967296:=zaE _
 have hA:inA hi th lw=[]:=if_neg (by omega)
 have hB:inCo hi th lw=[]:=if_neg (by omega)
 have hC:inC hi th lw=[]:=if_neg (by omega)
 have hD:inD hi=[]:=if_neg (by omega)
 have hE:inE hi lw=[]:=if_neg (by omega)
 have hF:inF th lw=[]:=if_neg (by omega)
 have HZ:Hid (zaG hi lo=[]):=by show zaG hi lo=_;rw [zaG,hth,hlw2,hA,hB,hC,hD,hE,hF];rfl
 clear hA hB hC hD hE hF
 have ht0:0≤th:=by omega
 have ht1:th≤4294967295:=by omega
 have hw0:0≤lw:=by omega
 have hw1:lw≤4294967295:=by omega
 have q1:((hi)==(0:Int))=false:=by rw [beq_eq_false_iff_ne];omega
 have q2:((th)==(65535:Int))=true:=by rw [beq_iff_eq];omega
 have q3:((th)==(0:Int))=false:=by rw [beq_eq_false_iff_ne];omega
 have q5:((hi)==(28428538856079360:Int))=true:=by rw [beq_iff_eq];omega
 have q6:((hi/281474976710656)==(8194:Int))=false:=by rw [beq_eq_false_iff_ne];omega
 have q7:((hi/4294967296)==(536936448:Int))=false:=by rw [beq_eq_false_iff_ne];omega
 have q8:((th)==(24318:Int))=false:=by rw [beq_eq_false_iff_ne];omega
 have q9:((th)==(33578750:Int))=false:=by rw [beq_eq_false_iff_ne];omega
 clear hlw2 hh hk
 have hc1:Below w.heap.size w (w.alloc (.cells #[.int .u64 hi,.int .u64 lo] 120)):=(Below.refl _ w).alloc (Nat.le_refl _) _
 go_enter Tryz.func245,Tryz.ntmps245
 go_wp2_with fail
 refine (zbC hi lo _).mono ?_
 rintro e x1 ⟨rfl,hb1⟩
 have hc:Below w.heap.size w x1:=hc1.trans (hb1.mono hc1.size)
 have hsz:=hc.size
 clear hb1 hc1 hta
 have hown0:=World.ownsRow_nil x1 w.heap.size 117 1
 go_wp2
 go_ret
 exact ⟨_,rfl,by rw [HZ.out];exact Nums.nil _ _ _ _,hc⟩
theorem ztC (hi lo th lw:Int) (w:World) (hbd:(0≤hi∧hi≤18446744073709551615)∧(0≤lo∧lo≤18446744073709551615)) (hth:lo/4294967296=th) (hlw2:lo % 4294967296=lw) (hh:hi=28428538856079360) (hk:th=0):
  Calls Tryz.prog 245 #[.iface 120 (.agg #[.int .u64 hi,.int .u64 lo])] w (zbI w (zaG hi lo)):=by
 obtain ⟨⟨h0,h1⟩,l0,l1⟩:=hbd
 obtain ⟨i0,hi0,hz0,hz1,hz2⟩:=info_parts Tryz.infoFour
 have hta:=as66
 have hwl:IntKind.u32.wrap lo=lw:=by rw [zaE];exact hlw2
 have hwd:IntKind.u32.wrap (hi/65536)=hi/65536 % 4294967296:=zaE _
 have hwe:IntKind.u32.wrap hi=hi % 4294967296:=zaE _
 have hA:inA hi th lw=[]:=if_neg (by omega)
 have hB:inCo hi th lw=[]:=if_neg (by omega)
 have hC:inC hi th lw=[lw]:=if_pos (by omega)
 have hD:inD hi=[]:=if_neg (by omega)
 have hE:inE hi lw=[]:=if_neg (by omega)
 have hF:inF th lw=[]:=if_neg (by omega)
 have HZ:Hid (zaG hi lo=[lw]):=by show zaG hi lo=_;rw [zaG,hth,hlw2,hA,hB,hC,hD,hE,hF];rfl
 clear hA hB hC hD hE hF
 have ht0:0≤th:=by omega
 have ht1:th≤4294967295:=by omega
 have hw0:0≤lw:=by omega
 have hw1:lw≤4294967295:=by omega
 have q1:((hi)==(0:Int))=false:=by rw [beq_eq_false_iff_ne];omega
 have q2:((th)==(65535:Int))=false:=by rw [beq_eq_false_iff_ne];omega
 have q3:((th)==(0:Int))=true:=by rw [beq_iff_eq];omega
 have q5:((hi)==(28428538856079360:Int))=true:=by rw [beq_iff_eq];omega
 have q6:((hi/281474976710656)==(8194:Int))=false:=by rw [beq_eq_false_iff_ne];omega
 have q7:((hi/4294967296)==(536936448:Int))=false:=by rw [beq_eq_false_iff_ne];omega
 have q8:((th)==(24318:Int))=false:=by rw [beq_eq_false_iff_ne];omega
 have q9:((th)==(33578750:Int))=false:=by rw [beq_eq_false_iff_ne];omega
 clear hlw2 hh hk
 have hc1:Below w.heap.size w (w.alloc (.cells #[.int .u64 hi,.int .u64 lo] 120)):=(Below.refl _ w).alloc (Nat.le_refl _) _
 go_enter Tryz.func245,Tryz.ntmps245
 go_wp2_with fail
 refine (zbC hi lo _).mono ?_
 rintro e x1 ⟨rfl,hb1⟩
 have hc:Below w.heap.size w x1:=hc1.trans (hb1.mono hc1.size)
 have hsz:=hc.size
 clear hb1 hc1 hta
 have hown0:=World.ownsRow_nil x1 w.heap.size 117 1
 go_wp2_with (first
  |(at_builtin;refine zaX _ rfl _ _ 241 rfl w.heap.size 117 i0 (.int .u32 0) 4 Tryz.underlying241 hi0 hz0 hz1 hz2 rfl _ 0 _ rfl hown0 (.int .u32 lw) rfl rfl (by decide) (by decide) hsz ?_;intro v1 y1 hown1 hk1))
 go_ret
 exact ⟨_,rfl,by rw [HZ.out];exact hown1,(hc.trans hk1)⟩
theorem zyD (hi lo th lw:Int) (w:World) (hbd:(0≤hi∧hi≤18446744073709551615)∧(0≤lo∧lo≤18446744073709551615)) (hth:lo/4294967296=th) (hlw2:lo % 4294967296=lw) (hh:hi=28428538856079360) (hk:th=24318):
  Calls Tryz.prog 245 #[.iface 120 (.agg #[.int .u64 hi,.int .u64 lo])] w (zbI w (zaG hi lo)):=by
 obtain ⟨⟨h0,h1⟩,l0,l1⟩:=hbd
 obtain ⟨i0,hi0,hz0,hz1,hz2⟩:=info_parts Tryz.infoFour
 have hta:=as66
 have hwl:IntKind.u32.wrap lo=lw:=by rw [zaE];exact hlw2
 have hwd:IntKind.u32.wrap (hi/65536)=hi/65536 % 4294967296:=zaE _
 have hwe:IntKind.u32.wrap hi=hi % 4294967296:=zaE _
 have hA:inA hi th lw=[]:=if_neg (by omega)
 have hB:inCo hi th lw=[]:=if_neg (by omega)
 have hC:inC hi th lw=[]:=if_neg (by omega)
 have hD:inD hi=[]:=if_neg (by omega)
 have hE:inE hi lw=[]:=if_neg (by omega)
 have hF:inF th lw=[lw]:=if_pos (by omega)
 have HZ:Hid (zaG hi lo=[lw]):=by show zaG hi lo=_;rw [zaG,hth,hlw2,hA,hB,hC,hD,hE,hF];rfl
 clear hA hB hC hD hE hF
 have ht0:0≤th:=by omega
 have ht1:th≤4294967295:=by omega
 have hw0:0≤lw:=by omega
 have hw1:lw≤4294967295:=by omega
 have q1:((hi)==(0:Int))=false:=by rw [beq_eq_false_iff_ne];omega
 have q2:((th)==(65535:Int))=false:=by rw [beq_eq_false_iff_ne];omega
 have q3:((th)==(0:Int))=false:=by rw [beq_eq_false_iff_ne];omega
 have q5:((hi)==(28428538856079360:Int))=true:=by rw [beq_iff_eq];omega
 have q6:((hi/281474976710656)==(8194:Int))=false:=by rw [beq_eq_false_iff_ne];omega
 have q7:((hi/4294967296)==(536936448:Int))=false:=by rw [beq_eq_false_iff_ne];omega
 have q8:((th)==(24318:Int))=true:=by rw [beq_iff_eq];omega
 have q9:((th)==(33578750:Int))=false:=by rw [beq_eq_false_iff_ne];omega
 clear hlw2 hh hk
 have hc1:Below w.heap.size w (w.alloc (.cells #[.int .u64 hi,.int .u64 lo] 120)):=(Below.refl _ w).alloc (Nat.le_refl _) _
 go_enter Tryz.func245,Tryz.ntmps245
 go_wp2_with fail
 refine (zbC hi lo _).mono ?_
 rintro e x1 ⟨rfl,hb1⟩
 have hc:Below w.heap.size w x1:=hc1.trans (hb1.mono hc1.size)
 have hsz:=hc.size
 clear hb1 hc1 hta
 have hown0:=World.ownsRow_nil x1 w.heap.size 117 1
 go_wp2_with (first
  |(at_builtin;refine zaX _ rfl _ _ 241 rfl w.heap.size 117 i0 (.int .u32 0) 4 Tryz.underlying241 hi0 hz0 hz1 hz2 rfl _ 0 _ rfl hown0 (.int .u32 lw) rfl rfl (by decide) (by decide) hsz ?_;intro v1 y1 hown1 hk1))
 go_ret
 exact ⟨_,rfl,by rw [HZ.out];exact hown1,(hc.trans hk1)⟩
theorem zzL (hi lo th lw:Int) (w:World) (hbd:(0≤hi∧hi≤18446744073709551615)∧(0≤lo∧lo≤18446744073709551615)) (hth:lo/4294967296=th) (hlw2:lo % 4294967296=lw) (hh:hi=28428538856079360) (hk:th=33578750):
  Calls Tryz.prog 245 #[.iface 120 (.agg #[.int .u64 hi,.int .u64 lo])] w (zbI w (zaG hi lo)):=by
 obtain ⟨⟨h0,h1⟩,l0,l1⟩:=hbd
 obtain ⟨i0,hi0,hz0,hz1,hz2⟩:=info_parts Tryz.infoFour
 have hta:=as66
 have hwl:IntKind.u32.wrap lo=lw:=by rw [zaE];exact hlw2
 have hwd:IntKind.u32.wrap (hi/65536)=hi/65536 % 4294967296:=zaE _
 have hwe:IntKind.u32.wrap hi=hi % 4294967296:=zaE _
 have hA:inA hi th lw=[]:=if_neg (by omega)
 have hB:inCo hi th lw=[]:=if_neg (by omega)
 have hC:inC hi th lw=[]:=if_neg (by omega)
 have hD:inD hi=[]:=if_neg (by omega)
 have hE:inE hi lw=[]:=if_neg (by omega)
 have hF:inF th lw=[lw]:=if_pos (by omega)
 have HZ:Hid (zaG hi lo=[lw]):=by show zaG hi lo=_;rw [zaG,hth,hlw2,hA,hB,hC,hD,hE,hF];rfl
 clear hA hB hC hD hE hF
 have ht0:0≤th:=by omega
 have ht1:th≤4294967295:=by omega
 have hw0:0≤lw:=by omega
 have hw1:lw≤4294967295:=by omega
 have q1:((hi)==(0:Int))=false:=by rw [beq_eq_false_iff_ne];omega
 have q2:((th)==(65535:Int))=false:=by rw [beq_eq_false_iff_ne];omega
 have q3:((th)==(0:Int))=false:=by rw [beq_eq_false_iff_ne];omega
 have q5:((hi)==(28428538856079360:Int))=true:=by rw [beq_iff_eq];omega
 have q6:((hi/281474976710656)==(8194:Int))=false:=by rw [beq_eq_false_iff_ne];omega
 have q7:((hi/4294967296)==(536936448:Int))=false:=by rw [beq_eq_false_iff_ne];omega
 have q8:((th)==(24318:Int))=false:=by rw [beq_eq_false_iff_ne];omega
 have q9:((th)==(33578750:Int))=true:=by rw [beq_iff_eq];omega
 clear hlw2 hh hk
 have hc1:Below w.heap.size w (w.alloc (.cells #[.int .u64 hi,.int .u64 lo] 120)):=(Below.refl _ w).alloc (Nat.le_refl _) _
 go_enter Tryz.func245,Tryz.ntmps245
 go_wp2_with fail
 refine (zbC hi lo _).mono ?_
 rintro e x1 ⟨rfl,hb1⟩
 have hc:Below w.heap.size w x1:=hc1.trans (hb1.mono hc1.size)
 have hsz:=hc.size
 clear hb1 hc1 hta
 have hown0:=World.ownsRow_nil x1 w.heap.size 117 1
 go_wp2_with (first
  |(at_builtin;refine zaX _ rfl _ _ 241 rfl w.heap.size 117 i0 (.int .u32 0) 4 Tryz.underlying241 hi0 hz0 hz1 hz2 rfl _ 0 _ rfl hown0 (.int .u32 lw) rfl rfl (by decide) (by decide) hsz ?_;intro v1 y1 hown1 hk1))
 go_ret
 exact ⟨_,rfl,by rw [HZ.out];exact hown1,(hc.trans hk1)⟩
theorem zvL (hi lo th lw:Int) (w:World) (hbd:(0≤hi∧hi≤18446744073709551615)∧(0≤lo∧lo≤18446744073709551615)) (hth:lo/4294967296=th) (hlw2:lo % 4294967296=lw) (hh:hi=28428538856079360) (hk:th≠65535∧th≠0∧th≠24318∧th≠33578750):
  Calls Tryz.prog 245 #[.iface 120 (.agg #[.int .u64 hi,.int .u64 lo])] w (zbI w (zaG hi lo)):=by
 obtain ⟨⟨h0,h1⟩,l0,l1⟩:=hbd
 obtain ⟨i0,hi0,hz0,hz1,hz2⟩:=info_parts Tryz.infoFour
 have hta:=as66
 have hwl:IntKind.u32.wrap lo=lw:=by rw [zaE];exact hlw2
 have hwd:IntKind.u32.wrap (hi/65536)=hi/65536 % 4294967296:=zaE _
 have hwe:IntKind.u32.wrap hi=hi % 4294967296:=zaE _
 have hA:inA hi th lw=[]:=if_neg (by omega)
 have hB:inCo hi th lw=[]:=if_neg (by omega)
 have hC:inC hi th lw=[]:=if_neg (by omega)
 have hD:inD hi=[]:=if_neg (by omega)
 have hE:inE hi lw=[]:=if_neg (by omega)
 have hF:inF th lw=[]:=if_neg (by omega)
 have HZ:Hid (zaG hi lo=[]):=by show zaG hi lo=_;rw [zaG,hth,hlw2,hA,hB,hC,hD,hE,hF];rfl
 clear hA hB hC hD hE hF
 have ht0:0≤th:=by omega
 have ht1:th≤4294967295:=by omega
 have hw0:0≤lw:=by omega
 have hw1:lw≤4294967295:=by omega
 have q1:((hi)==(0:Int))=false:=by rw [beq_eq_false_iff_ne];omega
 have q2:((th)==(65535:Int))=false:=by rw [beq_eq_false_iff_ne];omega
 have q3:((th)==(0:Int))=false:=by rw [beq_eq_false_iff_ne];omega
 have q5:((hi)==(28428538856079360:Int))=true:=by rw [beq_iff_eq];omega
 have q6:((hi/281474976710656)==(8194:Int))=false:=by rw [beq_eq_false_iff_ne];omega
 have q7:((hi/4294967296)==(536936448:Int))=false:=by rw [beq_eq_false_iff_ne];omega
 have q8:((th)==(24318:Int))=false:=by rw [beq_eq_false_iff_ne];omega
 have q9:((th)==(33578750:Int))=false:=by rw [beq_eq_false_iff_ne];omega
 clear hlw2 hh hk
 have hc1:Below w.heap.size w (w.alloc (.cells #[.int .u64 hi,.int .u64 lo] 120)):=(Below.refl _ w).alloc (Nat.le_refl _) _
 go_enter Tryz.func245,Tryz.ntmps245
 go_wp2_with fail
 refine (zbC hi lo _).mono ?_
 rintro e x1 ⟨rfl,hb1⟩
 have hc:Below w.heap.size w x1:=hc1.trans (hb1.mono hc1.size)
 have hsz:=hc.size
 clear hb1 hc1 hta
 have hown0:=World.ownsRow_nil x1 w.heap.size 117 1
 go_wp2
 go_ret
 exact ⟨_,rfl,by rw [HZ.out];exact Nums.nil _ _ _ _,hc⟩
theorem zxI (hi lo th lw:Int) (w:World) (hbd:(0≤hi∧hi≤18446744073709551615)∧(0≤lo∧lo≤18446744073709551615)) (hth:lo/4294967296=th) (hlw2:lo % 4294967296=lw) (hh:hi/281474976710656=8194) (hk:th=65535):
  Calls Tryz.prog 245 #[.iface 120 (.agg #[.int .u64 hi,.int .u64 lo])] w (zbI w (zaG hi lo)):=by
 obtain ⟨⟨h0,h1⟩,l0,l1⟩:=hbd
 obtain ⟨i0,hi0,hz0,hz1,hz2⟩:=info_parts Tryz.infoFour
 have hta:=as66
 have hwl:IntKind.u32.wrap lo=lw:=by rw [zaE];exact hlw2
 have hwd:IntKind.u32.wrap (hi/65536)=hi/65536 % 4294967296:=zaE _
 have hwe:IntKind.u32.wrap hi=hi % 4294967296:=zaE _
 have hA:inA hi th lw=[]:=if_neg (by omega)
 have hB:inCo hi th lw=[]:=if_neg (by omega)
 have hC:inC hi th lw=[]:=if_neg (by omega)
 have hD:inD hi=[hi/65536 % 4294967296]:=if_pos (by omega)
 have hE:inE hi lw=[]:=if_neg (by omega)
 have hF:inF th lw=[]:=if_neg (by omega)
 have HZ:Hid (zaG hi lo=[hi/65536 % 4294967296]):=by show zaG hi lo=_;rw [zaG,hth,hlw2,hA,hB,hC,hD,hE,hF];rfl
 clear hA hB hC hD hE hF
 have ht0:0≤th:=by omega
 have ht1:th≤4294967295:=by omega
 have hw0:0≤lw:=by omega
 have hw1:lw≤4294967295:=by omega
 have q1:((hi)==(0:Int))=false:=by rw [beq_eq_false_iff_ne];omega
 have q2:((th)==(65535:Int))=true:=by rw [beq_iff_eq];omega
 have q3:((th)==(0:Int))=false:=by rw [beq_eq_false_iff_ne];omega
 have q5:((hi)==(28428538856079360:Int))=false:=by rw [beq_eq_false_iff_ne];omega
 have q6:((hi/281474976710656)==(8194:Int))=true:=by rw [beq_iff_eq];omega
 have q7:((hi/4294967296)==(536936448:Int))=false:=by rw [beq_eq_false_iff_ne];omega
 have q8:((th)==(24318:Int))=false:=by rw [beq_eq_false_iff_ne];omega
 have q9:((th)==(33578750:Int))=false:=by rw [beq_eq_false_iff_ne];omega
 clear hlw2 hh hk
 have hc1:Below w.heap.size w (w.alloc (.cells #[.int .u64 hi,.int .u64 lo] 120)):=(Below.refl _ w).alloc (Nat.le_refl _) _
 go_enter Tryz.func245,Tryz.ntmps245
 go_wp2_with fail
 refine (zbC hi lo _).mono ?_
 rintro e x1 ⟨rfl,hb1⟩
 have hc:Below w.heap.size w x1:=hc1.trans (hb1.mono hc1.size)
 have hsz:=hc.size
 clear hb1 hc1 hta
 have hown0:=World.ownsRow_nil x1 w.heap.size 117 1
 go_wp2_with (first
  |(at_builtin;refine zaX _ rfl _ _ 241 rfl w.heap.size 117 i0 (.int .u32 0) 4 Tryz.underlying241 hi0 hz0 hz1 hz2 rfl _ 0 _ rfl hown0 (.int .u32 (hi/65536 % 4294967296)) rfl rfl (by decide) (by decide) hsz ?_;intro v1 y1 hown1 hk1))
 go_ret
 exact ⟨_,rfl,by rw [HZ.out];exact hown1,(hc.trans hk1)⟩
theorem zwU (hi lo th lw:Int) (w:World) (hbd:(0≤hi∧hi≤18446744073709551615)∧(0≤lo∧lo≤18446744073709551615)) (hth:lo/4294967296=th) (hlw2:lo % 4294967296=lw) (hh:hi/281474976710656=8194) (hk:th=0):
  Calls Tryz.prog 245 #[.iface 120 (.agg #[.int .u64 hi,.int .u64 lo])] w (zbI w (zaG hi lo)):=by
 obtain ⟨⟨h0,h1⟩,l0,l1⟩:=hbd
 obtain ⟨i0,hi0,hz0,hz1,hz2⟩:=info_parts Tryz.infoFour
 have hta:=as66
 have hwl:IntKind.u32.wrap lo=lw:=by rw [zaE];exact hlw2
 have hwd:IntKind.u32.wrap (hi/65536)=hi/65536 % 4294967296:=zaE _
 have hwe:IntKind.u32.wrap hi=hi % 4294967296:=zaE _
 have hA:inA hi th lw=[]:=if_neg (by omega)
 have hB:inCo hi th lw=[]:=if_neg (by omega)
 have hC:inC hi th lw=[]:=if_neg (by omega)
 have hD:inD hi=[hi/65536 % 4294967296]:=if_pos (by omega)
 have hE:inE hi lw=[]:=if_neg (by omega)
 have hF:inF th lw=[]:=if_neg (by omega)
 have HZ:Hid (zaG hi lo=[hi/65536 % 4294967296]):=by show zaG hi lo=_;rw [zaG,hth,hlw2,hA,hB,hC,hD,hE,hF];rfl
 clear hA hB hC hD hE hF
 have ht0:0≤th:=by omega
 have ht1:th≤4294967295:=by omega
 have hw0:0≤lw:=by omega
 have hw1:lw≤4294967295:=by omega
 have q1:((hi)==(0:Int))=false:=by rw [beq_eq_false_iff_ne];omega
 have q2:((th)==(65535:Int))=false:=by rw [beq_eq_false_iff_ne];omega
 have q3:((th)==(0:Int))=true:=by rw [beq_iff_eq];omega
 have q5:((hi)==(28428538856079360:Int))=false:=by rw [beq_eq_false_iff_ne];omega
 have q6:((hi/281474976710656)==(8194:Int))=true:=by rw [beq_iff_eq];omega
 have q7:((hi/4294967296)==(536936448:Int))=false:=by rw [beq_eq_false_iff_ne];omega
 have q8:((th)==(24318:Int))=false:=by rw [beq_eq_false_iff_ne];omega
 have q9:((th)==(33578750:Int))=false:=by rw [beq_eq_false_iff_ne];omega
 clear hlw2 hh hk
 have hc1:Below w.heap.size w (w.alloc (.cells #[.int .u64 hi,.int .u64 lo] 120)):=(Below.refl _ w).alloc (Nat.le_refl _) _
 go_enter Tryz.func245,Tryz.ntmps245
 go_wp2_with fail
 refine (zbC hi lo _).mono ?_
 rintro e x1 ⟨rfl,hb1⟩
 have hc:Below w.heap.size w x1:=hc1.trans (hb1.mono hc1.size)
 have hsz:=hc.size
 clear hb1 hc1 hta
 have hown0:=World.ownsRow_nil x1 w.heap.size 117 1
 go_wp2_with (first
  |(at_builtin;refine zaX _ rfl _ _ 241 rfl w.heap.size 117 i0 (.int .u32 0) 4 Tryz.underlying241 hi0 hz0 hz1 hz2 rfl _ 0 _ rfl hown0 (.int .u32 (hi/65536 % 4294967296)) rfl rfl (by decide) (by decide) hsz ?_;intro v1 y1 hown1 hk1))
 go_ret
 exact ⟨_,rfl,by rw [HZ.out];exact hown1,(hc.trans hk1)⟩
theorem z4S (hi lo th lw:Int) (w:World) (hbd:(0≤hi∧hi≤18446744073709551615)∧(0≤lo∧lo≤18446744073709551615)) (hth:lo/4294967296=th) (hlw2:lo % 4294967296=lw) (hh:hi/281474976710656=8194) (hk:th=24318):
  Calls Tryz.prog 245 #[.iface 120 (.agg #[.int .u64 hi,.int .u64 lo])] w (zbI w (zaG hi lo)):=by
 obtain ⟨⟨h0,h1⟩,l0,l1⟩:=hbd
 obtain ⟨i0,hi0,hz0,hz1,hz2⟩:=info_parts Tryz.infoFour
 have hta:=as66
 have hwl:IntKind.u32.wrap lo=lw:=by rw [zaE];exact hlw2
 have hwd:IntKind.u32.wrap (hi/65536)=hi/65536 % 4294967296:=zaE _
 have hwe:IntKind.u32.wrap hi=hi % 4294967296:=zaE _
 have hA:inA hi th lw=[]:=if_neg (by omega)
 have hB:inCo hi th lw=[]:=if_neg (by omega)
 have hC:inC hi th lw=[]:=if_neg (by omega)
 have hD:inD hi=[hi/65536 % 4294967296]:=if_pos (by omega)
 have hE:inE hi lw=[]:=if_neg (by omega)
 have hF:inF th lw=[lw]:=if_pos (by omega)
 have HZ:Hid (zaG hi lo=[hi/65536 % 4294967296,lw]):=by show zaG hi lo=_;rw [zaG,hth,hlw2,hA,hB,hC,hD,hE,hF];rfl
 clear hA hB hC hD hE hF
 have ht0:0≤th:=by omega
 have ht1:th≤4294967295:=by omega
 have hw0:0≤lw:=by omega
 have hw1:lw≤4294967295:=by omega
 have q1:((hi)==(0:Int))=false:=by rw [beq_eq_false_iff_ne];omega
 have q2:((th)==(65535:Int))=false:=by rw [beq_eq_false_iff_ne];omega
 have q3:((th)==(0:Int))=false:=by rw [beq_eq_false_iff_ne];omega
 have q5:((hi)==(28428538856079360:Int))=false:=by rw [beq_eq_false_iff_ne];omega
 have q6:((hi/281474976710656)==(8194:Int))=true:=by rw [beq_iff_eq];omega
 have q7:((hi/4294967296)==(536936448:Int))=false:=by rw [beq_eq_false_iff_ne];omega
 have q8:((th)==(24318:Int))=true:=by rw [beq_iff_eq];omega
 have q9:((th)==(33578750:Int))=false:=by rw [beq_eq_false_iff_ne];omega
 clear hlw2 hh hk
 have hc1:Below w.heap.size w (w.alloc (.cells #[.int .u64 hi,.int .u64 lo] 120)):=(Below.refl _ w).alloc (Nat.le_refl _) _
 go_enter Tryz.func245,Tryz.ntmps245
 go_wp2_with fail
 refine (zbC hi lo _).mono ?_
 rintro e x1 ⟨rfl,hb1⟩
 have hc:Below w.heap.size w x1:=hc1.trans (hb1.mono hc1.size)
 have hsz:=hc.size
 clear hb1 hc1 hta
 have hown0:=World.ownsRow_nil x1 w.heap.size 117 1
 go_wp2_with (first
  |(at_builtin;refine zaX _ rfl _ _ 241 rfl w.heap.size 117 i0 (.int .u32 0) 4 Tryz.underlying241 hi0 hz0 hz1 hz2 rfl _ 0 _ rfl hown0 (.int .u32 (hi/65536 % 4294967296)) rfl rfl (by decide) (by decide) hsz ?_;intro v1 y1 hown1 hk1)
  |(at_builtin;refine zaX _ rfl _ _ 241 rfl w.heap.size 117 i0 (.int .u32 0) 4 Tryz.underlying241 hi0 hz0 hz1 hz2 rfl _ 1 _ rfl hown1 (.int .u32 lw) rfl rfl (by decide) (by decide) (hc.trans hk1).size ?_;intro v2 y2 hown2 hk2))
 go_ret
 exact ⟨_,rfl,by rw [HZ.out];exact hown2,((hc.trans hk1).trans hk2)⟩
theorem z4O (hi lo th lw:Int) (w:World) (hbd:(0≤hi∧hi≤18446744073709551615)∧(0≤lo∧lo≤18446744073709551615)) (hth:lo/4294967296=th) (hlw2:lo % 4294967296=lw) (hh:hi/281474976710656=8194) (hk:th=33578750):
  Calls Tryz.prog 245 #[.iface 120 (.agg #[.int .u64 hi,.int .u64 lo])] w (zbI w (zaG hi lo)):=by
 obtain ⟨⟨h0,h1⟩,l0,l1⟩:=hbd
 obtain ⟨i0,hi0,hz0,hz1,hz2⟩:=info_parts Tryz.infoFour
 have hta:=as66
 have hwl:IntKind.u32.wrap lo=lw:=by rw [zaE];exact hlw2
 have hwd:IntKind.u32.wrap (hi/65536)=hi/65536 % 4294967296:=zaE _
 have hwe:IntKind.u32.wrap hi=hi % 4294967296:=zaE _
 have hA:inA hi th lw=[]:=if_neg (by omega)
 have hB:inCo hi th lw=[]:=if_neg (by omega)
 have hC:inC hi th lw=[]:=if_neg (by omega)
 have hD:inD hi=[hi/65536 % 4294967296]:=if_pos (by omega)
 have hE:inE hi lw=[]:=if_neg (by omega)
 have hF:inF th lw=[lw]:=if_pos (by omega)
 have HZ:Hid (zaG hi lo=[hi/65536 % 4294967296,lw]):=by show zaG hi lo=_;rw [zaG,hth,hlw2,hA,hB,hC,hD,hE,hF];rfl
 clear hA hB hC hD hE hF
 have ht0:0≤th:=by omega
 have ht1:th≤4294967295:=by omega
 have hw0:0≤lw:=by omega
 have hw1:lw≤4294967295:=by omega
 have q1:((hi)==(0:Int))=false:=by rw [beq_eq_false_iff_ne];omega
 have q2:((th)==(65535:Int))=false:=by rw [beq_eq_false_iff_ne];omega
 have q3:((th)==(0:Int))=false:=by rw [beq_eq_false_iff_ne];omega
 have q5:((hi)==(28428538856079360:Int))=false:=by rw [beq_eq_false_iff_ne];omega
 have q6:((hi/281474976710656)==(8194:Int))=true:=by rw [beq_iff_eq];omega
 have q7:((hi/4294967296)==(536936448:Int))=false:=by rw [beq_eq_false_iff_ne];omega
 have q8:((th)==(24318:Int))=false:=by rw [beq_eq_false_iff_ne];omega
 have q9:((th)==(33578750:Int))=true:=by rw [beq_iff_eq];omega
 clear hlw2 hh hk
 have hc1:Below w.heap.size w (w.alloc (.cells #[.int .u64 hi,.int .u64 lo] 120)):=(Below.refl _ w).alloc (Nat.le_refl _) _
 go_enter Tryz.func245,Tryz.ntmps245
 go_wp2_with fail
 refine (zbC hi lo _).mono ?_
 rintro e x1 ⟨rfl,hb1⟩
 have hc:Below w.heap.size w x1:=hc1.trans (hb1.mono hc1.size)
 have hsz:=hc.size
 clear hb1 hc1 hta
 have hown0:=World.ownsRow_nil x1 w.heap.size 117 1
 go_wp2_with (first
  |(at_builtin;refine zaX _ rfl _ _ 241 rfl w.heap.size 117 i0 (.int .u32 0) 4 Tryz.underlying241 hi0 hz0 hz1 hz2 rfl _ 0 _ rfl hown0 (.int .u32 (hi/65536 % 4294967296)) rfl rfl (by decide) (by decide) hsz ?_;intro v1 y1 hown1 hk1)
  |(at_builtin;refine zaX _ rfl _ _ 241 rfl w.heap.size 117 i0 (.int .u32 0) 4 Tryz.underlying241 hi0 hz0 hz1 hz2 rfl _ 1 _ rfl hown1 (.int .u32 lw) rfl rfl (by decide) (by decide) (hc.trans hk1).size ?_;intro v2 y2 hown2 hk2))
 go_ret
 exact ⟨_,rfl,by rw [HZ.out];exact hown2,((hc.trans hk1).trans hk2)⟩
theorem zzX (hi lo th lw:Int) (w:World) (hbd:(0≤hi∧hi≤18446744073709551615)∧(0≤lo∧lo≤18446744073709551615)) (hth:lo/4294967296=th) (hlw2:lo % 4294967296=lw) (hh:hi/281474976710656=8194) (hk:th≠65535∧th≠0∧th≠24318∧th≠33578750):
  Calls Tryz.prog 245 #[.iface 120 (.agg #[.int .u64 hi,.int .u64 lo])] w (zbI w (zaG hi lo)):=by
 obtain ⟨⟨h0,h1⟩,l0,l1⟩:=hbd
 obtain ⟨i0,hi0,hz0,hz1,hz2⟩:=info_parts Tryz.infoFour
 have hta:=as66
 have hwl:IntKind.u32.wrap lo=lw:=by rw [zaE];exact hlw2
 have hwd:IntKind.u32.wrap (hi/65536)=hi/65536 % 4294967296:=zaE _
 have hwe:IntKind.u32.wrap hi=hi % 4294967296:=zaE _
 have hA:inA hi th lw=[]:=if_neg (by omega)
 have hB:inCo hi th lw=[]:=if_neg (by omega)
 have hC:inC hi th lw=[]:=if_neg (by omega)
 have hD:inD hi=[hi/65536 % 4294967296]:=if_pos (by omega)
 have hE:inE hi lw=[]:=if_neg (by omega)
 have hF:inF th lw=[]:=if_neg (by omega)
 have HZ:Hid (zaG hi lo=[hi/65536 % 4294967296]):=by show zaG hi lo=_;rw [zaG,hth,hlw2,hA,hB,hC,hD,hE,hF];rfl
 clear hA hB hC hD hE hF
 have ht0:0≤th:=by omega
 have ht1:th≤4294967295:=by omega
 have hw0:0≤lw:=by omega
 have hw1:lw≤4294967295:=by omega
 have q1:((hi)==(0:Int))=false:=by rw [beq_eq_false_iff_ne];omega
 have q2:((th)==(65535:Int))=false:=by rw [beq_eq_false_iff_ne];omega
 have q3:((th)==(0:Int))=false:=by rw [beq_eq_false_iff_ne];omega
 have q5:((hi)==(28428538856079360:Int))=false:=by rw [beq_eq_false_iff_ne];omega
 have q6:((hi/281474976710656)==(8194:Int))=true:=by rw [beq_iff_eq];omega
 have q7:((hi/4294967296)==(536936448:Int))=false:=by rw [beq_eq_false_iff_ne];omega
 have q8:((th)==(24318:Int))=false:=by rw [beq_eq_false_iff_ne];omega
 have q9:((th)==(33578750:Int))=false:=by rw [beq_eq_false_iff_ne];omega
 clear hlw2 hh hk
 have hc1:Below w.heap.size w (w.alloc (.cells #[.int .u64 hi,.int .u64 lo] 120)):=(Below.refl _ w).alloc (Nat.le_refl _) _
 go_enter Tryz.func245,Tryz.ntmps245
 go_wp2_with fail
 refine (zbC hi lo _).mono ?_
 rintro e x1 ⟨rfl,hb1⟩
 have hc:Below w.heap.size w x1:=hc1.trans (hb1.mono hc1.size)
 have hsz:=hc.size
 clear hb1 hc1 hta
 have hown0:=World.ownsRow_nil x1 w.heap.size 117 1
 go_wp2_with (first
  |(at_builtin;refine zaX _ rfl _ _ 241 rfl w.heap.size 117 i0 (.int .u32 0) 4 Tryz.underlying241 hi0 hz0 hz1 hz2 rfl _ 0 _ rfl hown0 (.int .u32 (hi/65536 % 4294967296)) rfl rfl (by decide) (by decide) hsz ?_;intro v1 y1 hown1 hk1))
 go_ret
 exact ⟨_,rfl,by rw [HZ.out];exact hown1,(hc.trans hk1)⟩
theorem zxG (hi lo th lw:Int) (w:World) (hbd:(0≤hi∧hi≤18446744073709551615)∧(0≤lo∧lo≤18446744073709551615)) (hth:lo/4294967296=th) (hlw2:lo % 4294967296=lw) (hh:hi/4294967296=536936448) (hk:th=65535):
  Calls Tryz.prog 245 #[.iface 120 (.agg #[.int .u64 hi,.int .u64 lo])] w (zbI w (zaG hi lo)):=by
 obtain ⟨⟨h0,h1⟩,l0,l1⟩:=hbd
 obtain ⟨i0,hi0,hz0,hz1,hz2⟩:=info_parts Tryz.infoFour
 have hta:=as66
 have hwl:IntKind.u32.wrap lo=lw:=by rw [zaE];exact hlw2
 have hwd:IntKind.u32.wrap (hi/65536)=hi/65536 % 4294967296:=zaE _
 have hwe:IntKind.u32.wrap hi=hi % 4294967296:=zaE _
 have hA:inA hi th lw=[]:=if_neg (by omega)
 have hB:inCo hi th lw=[]:=if_neg (by omega)
 have hC:inC hi th lw=[]:=if_neg (by omega)
 have hD:inD hi=[]:=if_neg (by omega)
 have hE:inE hi lw=[hi % 4294967296,4294967295 - lw]:=if_pos (by omega)
 have hF:inF th lw=[]:=if_neg (by omega)
 have HZ:Hid (zaG hi lo=[hi % 4294967296,4294967295 - lw]):=by show zaG hi lo=_;rw [zaG,hth,hlw2,hA,hB,hC,hD,hE,hF];rfl
 clear hA hB hC hD hE hF
 have ht0:0≤th:=by omega
 have ht1:th≤4294967295:=by omega
 have hw0:0≤lw:=by omega
 have hw1:lw≤4294967295:=by omega
 have q1:((hi)==(0:Int))=false:=by rw [beq_eq_false_iff_ne];omega
 have q2:((th)==(65535:Int))=true:=by rw [beq_iff_eq];omega
 have q3:((th)==(0:Int))=false:=by rw [beq_eq_false_iff_ne];omega
 have q5:((hi)==(28428538856079360:Int))=false:=by rw [beq_eq_false_iff_ne];omega
 have q6:((hi/281474976710656)==(8194:Int))=false:=by rw [beq_eq_false_iff_ne];omega
 have q7:((hi/4294967296)==(536936448:Int))=true:=by rw [beq_iff_eq];omega
 have q8:((th)==(24318:Int))=false:=by rw [beq_eq_false_iff_ne];omega
 have q9:((th)==(33578750:Int))=false:=by rw [beq_eq_false_iff_ne];omega
 have hxor:=ydA lw hw0 hw1
 clear hlw2 hh hk
 have hc1:Below w.heap.size w (w.alloc (.cells #[.int .u64 hi,.int .u64 lo] 120)):=(Below.refl _ w).alloc (Nat.le_refl _) _
 go_enter Tryz.func245,Tryz.ntmps245
 go_wp2_with fail
 refine (zbC hi lo _).mono ?_
 rintro e x1 ⟨rfl,hb1⟩
 have hc:Below w.heap.size w x1:=hc1.trans (hb1.mono hc1.size)
 have hsz:=hc.size
 clear hb1 hc1 hta
 have hown0:=World.ownsRow_nil x1 w.heap.size 117 1
 go_wp2_with (first
  |(at_builtin;refine zfA _ rfl _ _ 241 rfl w.heap.size 117 i0 (.int .u32 0) 4 Tryz.underlying241 hi0 hz0 hz1 hz2 rfl _ 0 _ rfl hown0 (.int .u32 (hi % 4294967296)) (.int .u32 (4294967295 - lw)) rfl rfl rfl (by unfold maxLen;omega) (by omega) hsz ?_;intro v1 y1 hown1 hk1))
 go_ret
 exact ⟨_,rfl,by rw [HZ.out];exact hown1,(hc.trans hk1)⟩
theorem zuE (hi lo th lw:Int) (w:World) (hbd:(0≤hi∧hi≤18446744073709551615)∧(0≤lo∧lo≤18446744073709551615)) (hth:lo/4294967296=th) (hlw2:lo % 4294967296=lw) (hh:hi/4294967296=536936448) (hk:th=0):
  Calls Tryz.prog 245 #[.iface 120 (.agg #[.int .u64 hi,.int .u64 lo])] w (zbI w (zaG hi lo)):=by
 obtain ⟨⟨h0,h1⟩,l0,l1⟩:=hbd
 obtain ⟨i0,hi0,hz0,hz1,hz2⟩:=info_parts Tryz.infoFour
 have hta:=as66
 have hwl:IntKind.u32.wrap lo=lw:=by rw [zaE];exact hlw2
 have hwd:IntKind.u32.wrap (hi/65536)=hi/65536 % 4294967296:=zaE _
 have hwe:IntKind.u32.wrap hi=hi % 4294967296:=zaE _
 have hA:inA hi th lw=[]:=if_neg (by omega)
 have hB:inCo hi th lw=[]:=if_neg (by omega)
 have hC:inC hi th lw=[]:=if_neg (by omega)
 have hD:inD hi=[]:=if_neg (by omega)
 have hE:inE hi lw=[hi % 4294967296,4294967295 - lw]:=if_pos (by omega)
 have hF:inF th lw=[]:=if_neg (by omega)
 have HZ:Hid (zaG hi lo=[hi % 4294967296,4294967295 - lw]):=by show zaG hi lo=_;rw [zaG,hth,hlw2,hA,hB,hC,hD,hE,hF];rfl
 clear hA hB hC hD hE hF
 have ht0:0≤th:=by omega
 have ht1:th≤4294967295:=by omega
 have hw0:0≤lw:=by omega
 have hw1:lw≤4294967295:=by omega
 have q1:((hi)==(0:Int))=false:=by rw [beq_eq_false_iff_ne];omega
 have q2:((th)==(65535:Int))=false:=by rw [beq_eq_false_iff_ne];omega
 have q3:((th)==(0:Int))=true:=by rw [beq_iff_eq];omega
 have q5:((hi)==(28428538856079360:Int))=false:=by rw [beq_eq_false_iff_ne];omega
 have q6:((hi/281474976710656)==(8194:Int))=false:=by rw [beq_eq_false_iff_ne];omega
 have q7:((hi/4294967296)==(536936448:Int))=true:=by rw [beq_iff_eq];omega
 have q8:((th)==(24318:Int))=false:=by rw [beq_eq_false_iff_ne];omega
 have q9:((th)==(33578750:Int))=false:=by rw [beq_eq_false_iff_ne];omega
 have hxor:=ydA lw hw0 hw1
 clear hlw2 hh hk
 have hc1:Below w.heap.size w (w.alloc (.cells #[.int .u64 hi,.int .u64 lo] 120)):=(Below.refl _ w).alloc (Nat.le_refl _) _
 go_enter Tryz.func245,Tryz.ntmps245
 go_wp2_with fail
 refine (zbC hi lo _).mono ?_
 rintro e x1 ⟨rfl,hb1⟩
 have hc:Below w.heap.size w x1:=hc1.trans (hb1.mono hc1.size)
 have hsz:=hc.size
 clear hb1 hc1 hta
 have hown0:=World.ownsRow_nil x1 w.heap.size 117 1
 go_wp2_with (first
  |(at_builtin;refine zfA _ rfl _ _ 241 rfl w.heap.size 117 i0 (.int .u32 0) 4 Tryz.underlying241 hi0 hz0 hz1 hz2 rfl _ 0 _ rfl hown0 (.int .u32 (hi % 4294967296)) (.int .u32 (4294967295 - lw)) rfl rfl rfl (by unfold maxLen;omega) (by omega) hsz ?_;intro v1 y1 hown1 hk1))
 go_ret
 exact ⟨_,rfl,by rw [HZ.out];exact hown1,(hc.trans hk1)⟩
theorem z3H (hi lo th lw:Int) (w:World) (hbd:(0≤hi∧hi≤18446744073709551615)∧(0≤lo∧lo≤18446744073709551615)) (hth:lo/4294967296=th) (hlw2:lo % 4294967296=lw) (hh:hi/4294967296=536936448) (hk:th=24318):
  Calls Tryz.prog 245 #[.iface 120 (.agg #[.int .u64 hi,.int .u64 lo])] w (zbI w (zaG hi lo)):=by
 obtain ⟨⟨h0,h1⟩,l0,l1⟩:=hbd
 obtain ⟨i0,hi0,hz0,hz1,hz2⟩:=info_parts Tryz.infoFour
 have hta:=as66
 have hwl:IntKind.u32.wrap lo=lw:=by rw [zaE];exact hlw2
 have hwd:IntKind.u32.wrap (hi/65536)=hi/65536 % 4294967296:=zaE _
 have hwe:IntKind.u32.wrap hi=hi % 4294967296:=zaE _
 have hA:inA hi th lw=[]:=if_neg (by omega)
 have hB:inCo hi th lw=[]:=if_neg (by omega)
 have hC:inC hi th lw=[]:=if_neg (by omega)
 have hD:inD hi=[]:=if_neg (by omega)
 have hE:inE hi lw=[hi % 4294967296,4294967295 - lw]:=if_pos (by omega)
 have hF:inF th lw=[lw]:=if_pos (by omega)
 have HZ:Hid (zaG hi lo=[hi % 4294967296,4294967295 - lw,lw]):=by show zaG hi lo=_;rw [zaG,hth,hlw2,hA,hB,hC,hD,hE,hF];rfl
 clear hA hB hC hD hE hF
 have ht0:0≤th:=by omega
 have ht1:th≤4294967295:=by omega
 have hw0:0≤lw:=by omega
 have hw1:lw≤4294967295:=by omega
 have q1:((hi)==(0:Int))=false:=by rw [beq_eq_false_iff_ne];omega
 have q2:((th)==(65535:Int))=false:=by rw [beq_eq_false_iff_ne];omega
 have q3:((th)==(0:Int))=false:=by rw [beq_eq_false_iff_ne];omega
 have q5:((hi)==(28428538856079360:Int))=false:=by rw [beq_eq_false_iff_ne];omega
 have q6:((hi/281474976710656)==(8194:Int))=false:=by rw [beq_eq_false_iff_ne];omega
 have q7:((hi/4294967296)==(536936448:Int))=true:=by rw [beq_iff_eq];omega
 have q8:((th)==(24318:Int))=true:=by rw [beq_iff_eq];omega
 have q9:((th)==(33578750:Int))=false:=by rw [beq_eq_false_iff_ne];omega
 have hxor:=ydA lw hw0 hw1
 clear hlw2 hh hk
 have hc1:Below w.heap.size w (w.alloc (.cells #[.int .u64 hi,.int .u64 lo] 120)):=(Below.refl _ w).alloc (Nat.le_refl _) _
 go_enter Tryz.func245,Tryz.ntmps245
 go_wp2_with fail
 refine (zbC hi lo _).mono ?_
 rintro e x1 ⟨rfl,hb1⟩
 have hc:Below w.heap.size w x1:=hc1.trans (hb1.mono hc1.size)
 have hsz:=hc.size
 clear hb1 hc1 hta
 have hown0:=World.ownsRow_nil x1 w.heap.size 117 1
 go_wp2_with (first
  |(at_builtin;refine zfA _ rfl _ _ 241 rfl w.heap.size 117 i0 (.int .u32 0) 4 Tryz.underlying241 hi0 hz0 hz1 hz2 rfl _ 0 _ rfl hown0 (.int .u32 (hi % 4294967296)) (.int .u32 (4294967295 - lw)) rfl rfl rfl (by unfold maxLen;omega) (by omega) hsz ?_;intro v1 y1 hown1 hk1)
  |(at_builtin;refine zaX _ rfl _ _ 241 rfl w.heap.size 117 i0 (.int .u32 0) 4 Tryz.underlying241 hi0 hz0 hz1 hz2 rfl _ 2 _ rfl hown1 (.int .u32 lw) rfl rfl (by decide) (by decide) (hc.trans hk1).size ?_;intro v2 y2 hown2 hk2))
 go_ret
 exact ⟨_,rfl,by rw [HZ.out];exact hown2,((hc.trans hk1).trans hk2)⟩
theorem z5J (hi lo th lw:Int) (w:World) (hbd:(0≤hi∧hi≤18446744073709551615)∧(0≤lo∧lo≤18446744073709551615)) (hth:lo/4294967296=th) (hlw2:lo % 4294967296=lw) (hh:hi/4294967296=536936448) (hk:th=33578750):
  Calls Tryz.prog 245 #[.iface 120 (.agg #[.int .u64 hi,.int .u64 lo])] w (zbI w (zaG hi lo)):=by
 obtain ⟨⟨h0,h1⟩,l0,l1⟩:=hbd
 obtain ⟨i0,hi0,hz0,hz1,hz2⟩:=info_parts Tryz.infoFour
 have hta:=as66
 have hwl:IntKind.u32.wrap lo=lw:=by rw [zaE];exact hlw2
 have hwd:IntKind.u32.wrap (hi/65536)=hi/65536 % 4294967296:=zaE _
 have hwe:IntKind.u32.wrap hi=hi % 4294967296:=zaE _
 have hA:inA hi th lw=[]:=if_neg (by omega)
 have hB:inCo hi th lw=[]:=if_neg (by omega)
 have hC:inC hi th lw=[]:=if_neg (by omega)
 have hD:inD hi=[]:=if_neg (by omega)
 have hE:inE hi lw=[hi % 4294967296,4294967295 - lw]:=if_pos (by omega)
 have hF:inF th lw=[lw]:=if_pos (by omega)
 have HZ:Hid (zaG hi lo=[hi % 4294967296,4294967295 - lw,lw]):=by show zaG hi lo=_;rw [zaG,hth,hlw2,hA,hB,hC,hD,hE,hF];rfl
 clear hA hB hC hD hE hF
 have ht0:0≤th:=by omega
 have ht1:th≤4294967295:=by omega
 have hw0:0≤lw:=by omega
 have hw1:lw≤4294967295:=by omega
 have q1:((hi)==(0:Int))=false:=by rw [beq_eq_false_iff_ne];omega
 have q2:((th)==(65535:Int))=false:=by rw [beq_eq_false_iff_ne];omega
 have q3:((th)==(0:Int))=false:=by rw [beq_eq_false_iff_ne];omega
 have q5:((hi)==(28428538856079360:Int))=false:=by rw [beq_eq_false_iff_ne];omega
 have q6:((hi/281474976710656)==(8194:Int))=false:=by rw [beq_eq_false_iff_ne];omega
 have q7:((hi/4294967296)==(536936448:Int))=true:=by rw [beq_iff_eq];omega
 have q8:((th)==(24318:Int))=false:=by rw [beq_eq_false_iff_ne];omega
 have q9:((th)==(33578750:Int))=true:=by rw [beq_iff_eq];omega
 have hxor:=ydA lw hw0 hw1
 clear hlw2 hh hk
 have hc1:Below w.heap.size w (w.alloc (.cells #[.int .u64 hi,.int .u64 lo] 120)):=(Below.refl _ w).alloc (Nat.le_refl _) _
 go_enter Tryz.func245,Tryz.ntmps245
 go_wp2_with fail
 refine (zbC hi lo _).mono ?_
 rintro e x1 ⟨rfl,hb1⟩
 have hc:Below w.heap.size w x1:=hc1.trans (hb1.mono hc1.size)
 have hsz:=hc.size
 clear hb1 hc1 hta
 have hown0:=World.ownsRow_nil x1 w.heap.size 117 1
 go_wp2_with (first
  |(at_builtin;refine zfA _ rfl _ _ 241 rfl w.heap.size 117 i0 (.int .u32 0) 4 Tryz.underlying241 hi0 hz0 hz1 hz2 rfl _ 0 _ rfl hown0 (.int .u32 (hi % 4294967296)) (.int .u32 (4294967295 - lw)) rfl rfl rfl (by unfold maxLen;omega) (by omega) hsz ?_;intro v1 y1 hown1 hk1)
  |(at_builtin;refine zaX _ rfl _ _ 241 rfl w.heap.size 117 i0 (.int .u32 0) 4 Tryz.underlying241 hi0 hz0 hz1 hz2 rfl _ 2 _ rfl hown1 (.int .u32 lw) rfl rfl (by decide) (by decide) (hc.trans hk1).size ?_;intro v2 y2 hown2 hk2))
 go_ret
 exact ⟨_,rfl,by rw [HZ.out];exact hown2,((hc.trans hk1).trans hk2)⟩
theorem zyJ (hi lo th lw:Int) (w:World) (hbd:(0≤hi∧hi≤18446744073709551615)∧(0≤lo∧lo≤18446744073709551615)) (hth:lo/4294967296=th) (hlw2:lo % 4294967296=lw) (hh:hi/4294967296=536936448) (hk:th≠65535∧th≠0∧th≠24318∧th≠33578750):
  Calls Tryz.prog 245 #[.iface 120 (.agg #[.int .u64 hi,.int .u64 lo])] w (zbI w (zaG hi lo)):=by
 obtain ⟨⟨h0,h1⟩,l0,l1⟩:=hbd
 obtain ⟨i0,hi0,hz0,hz1,hz2⟩:=info_parts Tryz.infoFour
 have hta:=as66
 have hwl:IntKind.u32.wrap lo=lw:=by rw [zaE];exact hlw2
 have hwd:IntKind.u32.wrap (hi/65536)=hi/65536 % 4294967296:=zaE _
 have hwe:IntKind.u32.wrap hi=hi % 4294967296:=zaE _
 have hA:inA hi th lw=[]:=if_neg (by omega)
 have hB:inCo hi th lw=[]:=if_neg (by omega)
 have hC:inC hi th lw=[]:=if_neg (by omega)
 have hD:inD hi=[]:=if_neg (by omega)
 have hE:inE hi lw=[hi % 4294967296,4294967295 - lw]:=if_pos (by omega)
 have hF:inF th lw=[]:=if_neg (by omega)
 have HZ:Hid (zaG hi lo=[hi % 4294967296,4294967295 - lw]):=by show zaG hi lo=_;rw [zaG,hth,hlw2,hA,hB,hC,hD,hE,hF];rfl
 clear hA hB hC hD hE hF
 have ht0:0≤th:=by omega
 have ht1:th≤4294967295:=by omega
 have hw0:0≤lw:=by omega
 have hw1:lw≤4294967295:=by omega
 have q1:((hi)==(0:Int))=false:=by rw [beq_eq_false_iff_ne];omega
 have q2:((th)==(65535:Int))=false:=by rw [beq_eq_false_iff_ne];omega
 have q3:((th)==(0:Int))=false:=by rw [beq_eq_false_iff_ne];omega
 have q5:((hi)==(28428538856079360:Int))=false:=by rw [beq_eq_false_iff_ne];omega
 have q6:((hi/281474976710656)==(8194:Int))=false:=by rw [beq_eq_false_iff_ne];omega
 have q7:((hi/4294967296)==(536936448:Int))=true:=by rw [beq_iff_eq];omega
 have q8:((th)==(24318:Int))=false:=by rw [beq_eq_false_iff_ne];omega
 have q9:((th)==(33578750:Int))=false:=by rw [beq_eq_false_iff_ne];omega
 have hxor:=ydA lw hw0 hw1
 clear hlw2 hh hk
 have hc1:Below w.heap.size w (w.alloc (.cells #[.int .u64 hi,.int .u64 lo] 120)):=(Below.refl _ w).alloc (Nat.le_refl _) _
 go_enter Tryz.func245,Tryz.ntmps245
 go_wp2_with fail
 refine (zbC hi lo _).mono ?_
 rintro e x1 ⟨rfl,hb1⟩
 have hc:Below w.heap.size w x1:=hc1.trans (hb1.mono hc1.size)
 have hsz:=hc.size
 clear hb1 hc1 hta
 have hown0:=World.ownsRow_nil x1 w.heap.size 117 1
 go_wp2_with (first
  |(at_builtin;refine zfA _ rfl _ _ 241 rfl w.heap.size 117 i0 (.int .u32 0) 4 Tryz.underlying241 hi0 hz0 hz1 hz2 rfl _ 0 _ rfl hown0 (.int .u32 (hi % 4294967296)) (.int .u32 (4294967295 - lw)) rfl rfl rfl (by unfold maxLen;omega) (by omega) hsz ?_;intro v1 y1 hown1 hk1))
 go_ret
 exact ⟨_,rfl,by rw [HZ.out];exact hown1,(hc.trans hk1)⟩
theorem zpW (hi lo th lw:Int) (w:World) (hbd:(0≤hi∧hi≤18446744073709551615)∧(0≤lo∧lo≤18446744073709551615)) (hth:lo/4294967296=th) (hlw2:lo % 4294967296=lw) (hh:hi≠0∧hi≠28428538856079360∧hi/281474976710656≠8194∧hi/4294967296≠536936448) (hk:th=65535):
  Calls Tryz.prog 245 #[.iface 120 (.agg #[.int .u64 hi,.int .u64 lo])] w (zbI w (zaG hi lo)):=by
 obtain ⟨⟨h0,h1⟩,l0,l1⟩:=hbd
 obtain ⟨i0,hi0,hz0,hz1,hz2⟩:=info_parts Tryz.infoFour
 have hta:=as66
 have hwl:IntKind.u32.wrap lo=lw:=by rw [zaE];exact hlw2
 have hwd:IntKind.u32.wrap (hi/65536)=hi/65536 % 4294967296:=zaE _
 have hwe:IntKind.u32.wrap hi=hi % 4294967296:=zaE _
 have hA:inA hi th lw=[]:=if_neg (by omega)
 have hB:inCo hi th lw=[]:=if_neg (by omega)
 have hC:inC hi th lw=[]:=if_neg (by omega)
 have hD:inD hi=[]:=if_neg (by omega)
 have hE:inE hi lw=[]:=if_neg (by omega)
 have hF:inF th lw=[]:=if_neg (by omega)
 have HZ:Hid (zaG hi lo=[]):=by show zaG hi lo=_;rw [zaG,hth,hlw2,hA,hB,hC,hD,hE,hF];rfl
 clear hA hB hC hD hE hF
 have ht0:0≤th:=by omega
 have ht1:th≤4294967295:=by omega
 have hw0:0≤lw:=by omega
 have hw1:lw≤4294967295:=by omega
 have q1:((hi)==(0:Int))=false:=by rw [beq_eq_false_iff_ne];omega
 have q2:((th)==(65535:Int))=true:=by rw [beq_iff_eq];omega
 have q3:((th)==(0:Int))=false:=by rw [beq_eq_false_iff_ne];omega
 have q5:((hi)==(28428538856079360:Int))=false:=by rw [beq_eq_false_iff_ne];omega
 have q6:((hi/281474976710656)==(8194:Int))=false:=by rw [beq_eq_false_iff_ne];omega
 have q7:((hi/4294967296)==(536936448:Int))=false:=by rw [beq_eq_false_iff_ne];omega
 have q8:((th)==(24318:Int))=false:=by rw [beq_eq_false_iff_ne];omega
 have q9:((th)==(33578750:Int))=false:=by rw [beq_eq_false_iff_ne];omega
 clear hlw2 hh hk
 have hc1:Below w.heap.size w (w.alloc (.cells #[.int .u64 hi,.int .u64 lo] 120)):=(Below.refl _ w).alloc (Nat.le_refl _) _
 go_enter Tryz.func245,Tryz.ntmps245
 go_wp2_with fail
 refine (zbC hi lo _).mono ?_
 rintro e x1 ⟨rfl,hb1⟩
 have hc:Below w.heap.size w x1:=hc1.trans (hb1.mono hc1.size)
 have hsz:=hc.size
 clear hb1 hc1 hta
 have hown0:=World.ownsRow_nil x1 w.heap.size 117 1
 go_wp2
 go_ret
 exact ⟨_,rfl,by rw [HZ.out];exact Nums.nil _ _ _ _,hc⟩
theorem zpX (hi lo th lw:Int) (w:World) (hbd:(0≤hi∧hi≤18446744073709551615)∧(0≤lo∧lo≤18446744073709551615)) (hth:lo/4294967296=th) (hlw2:lo % 4294967296=lw) (hh:hi≠0∧hi≠28428538856079360∧hi/281474976710656≠8194∧hi/4294967296≠536936448) (hk:th=0):
  Calls Tryz.prog 245 #[.iface 120 (.agg #[.int .u64 hi,.int .u64 lo])] w (zbI w (zaG hi lo)):=by
 obtain ⟨⟨h0,h1⟩,l0,l1⟩:=hbd
 obtain ⟨i0,hi0,hz0,hz1,hz2⟩:=info_parts Tryz.infoFour
 have hta:=as66
 have hwl:IntKind.u32.wrap lo=lw:=by rw [zaE];exact hlw2
 have hwd:IntKind.u32.wrap (hi/65536)=hi/65536 % 4294967296:=zaE _
 have hwe:IntKind.u32.wrap hi=hi % 4294967296:=zaE _
 have hA:inA hi th lw=[]:=if_neg (by omega)
 have hB:inCo hi th lw=[]:=if_neg (by omega)
 have hC:inC hi th lw=[]:=if_neg (by omega)
 have hD:inD hi=[]:=if_neg (by omega)
 have hE:inE hi lw=[]:=if_neg (by omega)
 have hF:inF th lw=[]:=if_neg (by omega)
 have HZ:Hid (zaG hi lo=[]):=by show zaG hi lo=_;rw [zaG,hth,hlw2,hA,hB,hC,hD,hE,hF];rfl
 clear hA hB hC hD hE hF
 have ht0:0≤th:=by omega
 have ht1:th≤4294967295:=by omega
 have hw0:0≤lw:=by omega
 have hw1:lw≤4294967295:=by omega
 have q1:((hi)==(0:Int))=false:=by rw [beq_eq_false_iff_ne];omega
 have q2:((th)==(65535:Int))=false:=by rw [beq_eq_false_iff_ne];omega
 have q3:((th)==(0:Int))=true:=by rw [beq_iff_eq];omega
 have q5:((hi)==(28428538856079360:Int))=false:=by rw [beq_eq_false_iff_ne];omega
 have q6:((hi/281474976710656)==(8194:Int))=false:=by rw [beq_eq_false_iff_ne];omega
 have q7:((hi/4294967296)==(536936448:Int))=false:=by rw [beq_eq_false_iff_ne];omega
 have q8:((th)==(24318:Int))=false:=by rw [beq_eq_false_iff_ne];omega
 have q9:((th)==(33578750:Int))=false:=by rw [beq_eq_false_iff_ne];omega
 clear hlw2 hh hk
 have hc1:Below w.heap.size w (w.alloc (.cells #[.int .u64 hi,.int .u64 lo] 120)):=(Below.refl _ w).alloc (Nat.le_refl _) _
 go_enter Tryz.func245,Tryz.ntmps245
 go_wp2_with fail
 refine (zbC hi lo _).mono ?_
 rintro e x1 ⟨rfl,hb1⟩
 have hc:Below w.heap.size w x1:=hc1.trans (hb1.mono hc1.size)
 have hsz:=hc.size
 clear hb1 hc1 hta
 have hown0:=World.ownsRow_nil x1 w.heap.size 117 1
 go_wp2
 go_ret
 exact ⟨_,rfl,by rw [HZ.out];exact Nums.nil _ _ _ _,hc⟩
theorem zvP (hi lo th lw:Int) (w:World) (hbd:(0≤hi∧hi≤18446744073709551615)∧(0≤lo∧lo≤18446744073709551615)) (hth:lo/4294967296=th) (hlw2:lo % 4294967296=lw) (hh:hi≠0∧hi≠28428538856079360∧hi/281474976710656≠8194∧hi/4294967296≠536936448) (hk:th=24318):
  Calls Tryz.prog 245 #[.iface 120 (.agg #[.int .u64 hi,.int .u64 lo])] w (zbI w (zaG hi lo)):=by
 obtain ⟨⟨h0,h1⟩,l0,l1⟩:=hbd
 obtain ⟨i0,hi0,hz0,hz1,hz2⟩:=info_parts Tryz.infoFour
 have hta:=as66
 have hwl:IntKind.u32.wrap lo=lw:=by rw [zaE];exact hlw2
 have hwd:IntKind.u32.wrap (hi/65536)=hi/65536 % 4294967296:=zaE _
 have hwe:IntKind.u32.wrap hi=hi % 4294967296:=zaE _
 have hA:inA hi th lw=[]:=if_neg (by omega)
 have hB:inCo hi th lw=[]:=if_neg (by omega)
 have hC:inC hi th lw=[]:=if_neg (by omega)
 have hD:inD hi=[]:=if_neg (by omega)
 have hE:inE hi lw=[]:=if_neg (by omega)
 have hF:inF th lw=[lw]:=if_pos (by omega)
 have HZ:Hid (zaG hi lo=[lw]):=by show zaG hi lo=_;rw [zaG,hth,hlw2,hA,hB,hC,hD,hE,hF];rfl
 clear hA hB hC hD hE hF
 have ht0:0≤th:=by omega
 have ht1:th≤4294967295:=by omega
 have hw0:0≤lw:=by omega
 have hw1:lw≤4294967295:=by omega
 have q1:((hi)==(0:Int))=false:=by rw [beq_eq_false_iff_ne];omega
 have q2:((th)==(65535:Int))=false:=by rw [beq_eq_false_iff_ne];omega
 have q3:((th)==(0:Int))=false:=by rw [beq_eq_false_iff_ne];omega
 have q5:((hi)==(28428538856079360:Int))=false:=by rw [beq_eq_false_iff_ne];omega
 have q6:((hi/281474976710656)==(8194:Int))=false:=by rw [beq_eq_false_iff_ne];omega
 have q7:((hi/4294967296)==(536936448:Int))=false:=by rw [beq_eq_false_iff_ne];omega
 have q8:((th)==(24318:Int))=true:=by rw [beq_iff_eq];omega
 have q9:((th)==(33578750:Int))=false:=by rw [beq_eq_false_iff_ne];omega
 clear hlw2 hh hk
 have hc1:Below w.heap.size w (w.alloc (.cells #[.int .u64 hi,.int .u64 lo] 120)):=(Below.refl _ w).alloc (Nat.le_refl _) _
 go_enter Tryz.func245,Tryz.ntmps245
 go_wp2_with fail
 refine (zbC hi lo _).mono ?_
 rintro e x1 ⟨rfl,hb1⟩
 have hc:Below w.heap.size w x1:=hc1.trans (hb1.mono hc1.size)
 have hsz:=hc.size
 clear hb1 hc1 hta
 have hown0:=World.ownsRow_nil x1 w.heap.size 117 1
 go_wp2_with (first
  |(at_builtin;refine zaX _ rfl _ _ 241 rfl w.heap.size 117 i0 (.int .u32 0) 4 Tryz.underlying241 hi0 hz0 hz1 hz2 rfl _ 0 _ rfl hown0 (.int .u32 lw) rfl rfl (by decide) (by decide) hsz ?_;intro v1 y1 hown1 hk1))
 go_ret
 exact ⟨_,rfl,by rw [HZ.out];exact hown1,(hc.trans hk1)⟩
theorem zvG (hi lo th lw:Int) (w:World) (hbd:(0≤hi∧hi≤18446744073709551615)∧(0≤lo∧lo≤18446744073709551615)) (hth:lo/4294967296=th) (hlw2:lo % 4294967296=lw) (hh:hi≠0∧hi≠28428538856079360∧hi/281474976710656≠8194∧hi/4294967296≠536936448) (hk:th=33578750):
  Calls Tryz.prog 245 #[.iface 120 (.agg #[.int .u64 hi,.int .u64 lo])] w (zbI w (zaG hi lo)):=by
 obtain ⟨⟨h0,h1⟩,l0,l1⟩:=hbd
 obtain ⟨i0,hi0,hz0,hz1,hz2⟩:=info_parts Tryz.infoFour
 have hta:=as66
 have hwl:IntKind.u32.wrap lo=lw:=by rw [zaE];exact hlw2
 have hwd:IntKind.u32.wrap (hi/65536)=hi/65536 % 4294967296:=zaE _
 have hwe:IntKind.u32.wrap hi=hi % 4294967296:=zaE _
 have hA:inA hi th lw=[]:=if_neg (by omega)
 have hB:inCo hi th lw=[]:=if_neg (by omega)
 have hC:inC hi th lw=[]:=if_neg (by omega)
 have hD:inD hi=[]:=if_neg (by omega)
 have hE:inE hi lw=[]:=if_neg (by omega)
 have hF:inF th lw=[lw]:=if_pos (by omega)
 have HZ:Hid (zaG hi lo=[lw]):=by show zaG hi lo=_;rw [zaG,hth,hlw2,hA,hB,hC,hD,hE,hF];rfl
 clear hA hB hC hD hE hF
 have ht0:0≤th:=by omega
 have ht1:th≤4294967295:=by omega
 have hw0:0≤lw:=by omega
 have hw1:lw≤4294967295:=by omega
 have q1:((hi)==(0:Int))=false:=by rw [beq_eq_false_iff_ne];omega
 have q2:((th)==(65535:Int))=false:=by rw [beq_eq_false_iff_ne];omega
 have q3:((th)==(0:Int))=false:=by rw [beq_eq_false_iff_ne];omega
 have q5:((hi)==(28428538856079360:Int))=false:=by rw [beq_eq_false_iff_ne];omega
 have q6:((hi/281474976710656)==(8194:Int))=false:=by rw [beq_eq_false_iff_ne];omega
 have q7:((hi/4294967296)==(536936448:Int))=false:=by rw [beq_eq_false_iff_ne];omega
 have q8:((th)==(24318:Int))=false:=by rw [beq_eq_false_iff_ne];omega
 have q9:((th)==(33578750:Int))=true:=by rw [beq_iff_eq];omega
 clear hlw2 hh hk
 have hc1:Below w.heap.size w (w.alloc (.cells #[.int .u64 hi,.int .u64 lo] 120)):=(Below.refl _ w).alloc (Nat.le_refl _) _
 go_enter Tryz.func245,Tryz.ntmps245
 go_wp2_with fail
 refine (zbC hi lo _).mono ?_
 rintro e x1 ⟨rfl,hb1⟩
 have hc:Below w.heap.size w x1:=hc1.trans (hb1.mono hc1.size)
 have hsz:=hc.size
 clear hb1 hc1 hta
 have hown0:=World.ownsRow_nil x1 w.heap.size 117 1
 go_wp2_with (first
  |(at_builtin;refine zaX _ rfl _ _ 241 rfl w.heap.size 117 i0 (.int .u32 0) 4 Tryz.underlying241 hi0 hz0 hz1 hz2 rfl _ 0 _ rfl hown0 (.int .u32 lw) rfl rfl (by decide) (by decide) hsz ?_;intro v1 y1 hown1 hk1))
 go_ret
 exact ⟨_,rfl,by rw [HZ.out];exact hown1,(hc.trans hk1)⟩
theorem zsP (hi lo th lw:Int) (w:World) (hbd:(0≤hi∧hi≤18446744073709551615)∧(0≤lo∧lo≤18446744073709551615)) (hth:lo/4294967296=th) (hlw2:lo % 4294967296=lw) (hh:hi≠0∧hi≠28428538856079360∧hi/281474976710656≠8194∧hi/4294967296≠536936448) (hk:th≠65535∧th≠0∧th≠24318∧th≠33578750):
  Calls Tryz.prog 245 #[.iface 120 (.agg #[.int .u64 hi,.int .u64 lo])] w (zbI w (zaG hi lo)):=by
 obtain ⟨⟨h0,h1⟩,l0,l1⟩:=hbd
 obtain ⟨i0,hi0,hz0,hz1,hz2⟩:=info_parts Tryz.infoFour
 have hta:=as66
 have hwl:IntKind.u32.wrap lo=lw:=by rw [zaE];exact hlw2
 have hwd:IntKind.u32.wrap (hi/65536)=hi/65536 % 4294967296:=zaE _
 have hwe:IntKind.u32.wrap hi=hi % 4294967296:=zaE _
 have hA:inA hi th lw=[]:=if_neg (by omega)
 have hB:inCo hi th lw=[]:=if_neg (by omega)
 have hC:inC hi th lw=[]:=if_neg (by omega)
 have hD:inD hi=[]:=if_neg (by omega)
 have hE:inE hi lw=[]:=if_neg (by omega)
 have hF:inF th lw=[]:=if_neg (by omega)
 have HZ:Hid (zaG hi lo=[]):=by show zaG hi lo=_;rw [zaG,hth,hlw2,hA,hB,hC,hD,hE,hF];rfl
 clear hA hB hC hD hE hF
 have ht0:0≤th:=by omega
 have ht1:th≤4294967295:=by omega
 have hw0:0≤lw:=by omega
 have hw1:lw≤4294967295:=by omega
 have q1:((hi)==(0:Int))=false:=by rw [beq_eq_false_iff_ne];omega
 have q2:((th)==(65535:Int))=false:=by rw [beq_eq_false_iff_ne];omega
 have q3:((th)==(0:Int))=false:=by rw [beq_eq_false_iff_ne];omega
 have q5:((hi)==(28428538856079360:Int))=false:=by rw [beq_eq_false_iff_ne];omega
 have q6:((hi/281474976710656)==(8194:Int))=false:=by rw [beq_eq_false_iff_ne];omega
 have q7:((hi/4294967296)==(536936448:Int))=false:=by rw [beq_eq_false_iff_ne];omega
 have q8:((th)==(24318:Int))=false:=by rw [beq_eq_false_iff_ne];omega
 have q9:((th)==(33578750:Int))=false:=by rw [beq_eq_false_iff_ne];omega
 clear hlw2 hh hk
 have hc1:Below w.heap.size w (w.alloc (.cells #[.int .u64 hi,.int .u64 lo] 120)):=(Below.refl _ w).alloc (Nat.le_refl _) _
 go_enter Tryz.func245,Tryz.ntmps245
 go_wp2_with fail
 refine (zbC hi lo _).mono ?_
 rintro e x1 ⟨rfl,hb1⟩
 have hc:Below w.heap.size w x1:=hc1.trans (hb1.mono hc1.size)
 have hsz:=hc.size
 clear hb1 hc1 hta
 have hown0:=World.ownsRow_nil x1 w.heap.size 117 1
 go_wp2
 go_ret
 exact ⟨_,rfl,by rw [HZ.out];exact Nums.nil _ _ _ _,hc⟩
theorem zoK (hi lo:Int) (w:World) (h0:0≤hi) (h1:hi≤18446744073709551615) (l0:0≤lo) (l1:lo≤18446744073709551615):
  Calls Tryz.prog 245 #[.iface 120 (.agg #[.int .u64 hi,.int .u64 lo])] w (zbI w (zaG hi lo)):=by
 obtain ⟨th,hth⟩: ∃th,lo/4294967296=th:=⟨_,rfl⟩
 obtain ⟨lw,hlw⟩: ∃lw,lo % 4294967296=lw:=⟨_,rfl⟩
 rcases (show hi=0∨hi=28428538856079360∨hi/281474976710656=8194∨hi/4294967296=536936448∨(hi≠0∧hi≠28428538856079360∧hi/281474976710656≠8194∧hi/4294967296≠536936448) from by omega) with hh|hh|hh|hh|hh
 ·rcases (show th=65535∨th=0∨th=24318∨th=33578750∨(th≠65535∧th≠0∧th≠24318∧th≠33578750) from by omega) with hk|hk|hk|hk|hk
  ·exact zpK hi lo th lw w ⟨⟨h0,h1⟩,l0,l1⟩ hth hlw hh hk
  ·by_cases hl:1<lw
   ·exact zjW hi lo th lw w ⟨⟨h0,h1⟩,l0,l1⟩ hth hlw hh hk hl
   ·exact zoS hi lo th lw w ⟨⟨h0,h1⟩,l0,l1⟩ hth hlw hh hk (by omega)
  ·exact zsO hi lo th lw w ⟨⟨h0,h1⟩,l0,l1⟩ hth hlw hh hk
  ·exact zsK hi lo th lw w ⟨⟨h0,h1⟩,l0,l1⟩ hth hlw hh hk
  ·exact zpS hi lo th lw w ⟨⟨h0,h1⟩,l0,l1⟩ hth hlw hh hk
 ·rcases (show th=65535∨th=0∨th=24318∨th=33578750∨(th≠65535∧th≠0∧th≠24318∧th≠33578750) from by omega) with hk|hk|hk|hk|hk
  ·exact zrZ hi lo th lw w ⟨⟨h0,h1⟩,l0,l1⟩ hth hlw hh hk
  ·exact ztC hi lo th lw w ⟨⟨h0,h1⟩,l0,l1⟩ hth hlw hh hk
  ·exact zyD hi lo th lw w ⟨⟨h0,h1⟩,l0,l1⟩ hth hlw hh hk
  ·exact zzL hi lo th lw w ⟨⟨h0,h1⟩,l0,l1⟩ hth hlw hh hk
  ·exact zvL hi lo th lw w ⟨⟨h0,h1⟩,l0,l1⟩ hth hlw hh hk
 ·rcases (show th=65535∨th=0∨th=24318∨th=33578750∨(th≠65535∧th≠0∧th≠24318∧th≠33578750) from by omega) with hk|hk|hk|hk|hk
  ·exact zxI hi lo th lw w ⟨⟨h0,h1⟩,l0,l1⟩ hth hlw hh hk
  ·exact zwU hi lo th lw w ⟨⟨h0,h1⟩,l0,l1⟩ hth hlw hh hk
  ·exact z4S hi lo th lw w ⟨⟨h0,h1⟩,l0,l1⟩ hth hlw hh hk
  ·exact z4O hi lo th lw w ⟨⟨h0,h1⟩,l0,l1⟩ hth hlw hh hk
  ·exact zzX hi lo th lw w ⟨⟨h0,h1⟩,l0,l1⟩ hth hlw hh hk
 ·rcases (show th=65535∨th=0∨th=24318∨th=33578750∨(th≠65535∧th≠0∧th≠24318∧th≠33578750) from by omega) with hk|hk|hk|hk|hk
  ·exact zxG hi lo th lw w ⟨⟨h0,h1⟩,l0,l1⟩ hth hlw hh hk
  ·exact zuE hi lo th lw w ⟨⟨h0,h1⟩,l0,l1⟩ hth hlw hh hk
  ·exact z3H hi lo th lw w ⟨⟨h0,h1⟩,l0,l1⟩ hth hlw hh hk
  ·exact z5J hi lo th lw w ⟨⟨h0,h1⟩,l0,l1⟩ hth hlw hh hk
  ·exact zyJ hi lo th lw w ⟨⟨h0,h1⟩,l0,l1⟩ hth hlw hh hk
 ·rcases (show th=65535∨th=0∨th=24318∨th=33578750∨(th≠65535∧th≠0∧th≠24318∧th≠33578750) from by omega) with hk|hk|hk|hk|hk
  ·exact zpW hi lo th lw w ⟨⟨h0,h1⟩,l0,l1⟩ hth hlw hh hk
  ·exact zpX hi lo th lw w ⟨⟨h0,h1⟩,l0,l1⟩ hth hlw hh hk
  ·exact zvP hi lo th lw w ⟨⟨h0,h1⟩,l0,l1⟩ hth hlw hh hk
  ·exact zvG hi lo th lw w ⟨⟨h0,h1⟩,l0,l1⟩ hth hlw hh hk
  ·exact zsP hi lo th lw w ⟨⟨h0,h1⟩,l0,l1⟩ hth hlw hh hk
end
section
open Go.RowKit
theorem zrN (v1 v2:Value) (l1 l2:List Int) (w:World) (h1:RowR w v1 (l1.map (Value.int .u32))) (h2:RowR w v2 (l2.map (Value.int .u32)))
  (hl1:l1.length≤1073741824):
  Calls Tryz.prog 277 #[v1,v2] w fun e w'=>e= .returned (.bool (decide (l1=l2)))∧ ∃n,w'=w.drewN n:=by
 obtain ⟨a1,c1,rfl,hc1⟩:=h1
 obtain ⟨a2,c2,rfl,hc2⟩:=h2
 simp only [List.length_map]
 have HC1:=Lib.hid hc1
 have HC2:=Lib.hid hc2
 clear hc1 hc2
 by_cases hne:l1.length=l2.length
 ·have HL:=Lib.hid hne
  have hle1:l1.length≤l2.length:=by omega
  have hle2:l2.length≤l1.length:=by omega
  have hb:((l1.length:Int) !=(l2.length:Int))=false:=by simp [hne]
  clear hne
  go_enter Tryz.func277,Tryz.ntmps277
  go_wp2
  go_loopw [13] (fun i wr=> ∃k m:Nat,k≤l1.length∧i= .int .i64 k∧wr=w.drewN m∧Hid (l1.take k=l2.take k)) (fun i _=>l1.length - (intOf i).toNat)
  case atStart=>exact ⟨0,0,Nat.zero_le _,rfl,rfl,rfl⟩
  case round=>
   obtain ⟨k,m,hk,rfl,rfl,H⟩:=hrel
   by_cases hlt:k<l1.length
   ·have hlt2:k<l2.length:=by omega
    obtain ⟨x,hx⟩: ∃x,x=l1[k]:=⟨_,rfl⟩
    obtain ⟨y,hy⟩: ∃y,y=l2[k]:=⟨_,rfl⟩
    obtain ⟨d1,rfl,hd1⟩:=HC1.out k (.int .u32 x) (by simp [hx,hlt])
    obtain ⟨d2,rfl,hd2⟩:=HC2.out k (.int .u32 y) (by simp [hy,hlt2])
    have HX:=Lib.hid hx
    have HY:=Lib.hid hy
    clear hx hy
    by_cases hxy:x=y
    ·subst hxy
     go_wp2
     go_quiet (fail)
     go_wp2
     go_roundw
     case rel=>
      exact ⟨k+1,_,by omega,by go_num,rfl,zuJ H.out hlt hlt2 (HX.out.symm.trans HY.out)⟩
     case measure=>simp [intOf];omega
    ·have hb1:(x !=y)=true:=by simp [hxy]
     have hfin:decide (l1=l2)=false:=by
      refine decide_eq_false fun e=>hxy ?_
      rw [HX.out,HY.out]
      simp only [e]
     have HF:=Lib.hid hfin
     clear hfin
     go_wp2
     go_quiet (fail)
     go_wp2
     go_ret
     exact ⟨zaT HF.out.symm,_,World.drewN_drewN _ _ _⟩
   ·have hfin:decide (l1=l2)=true:=by
     refine decide_eq_true ?_
     have:=H.out
     rwa [List.take_of_length_le (by omega),List.take_of_length_le (by omega)] at this
    have HF:=Lib.hid hfin
    clear hfin
    go_wp2
    go_ret
    exact ⟨zaT HF.out.symm,m,rfl⟩
 ·have hb:((l1.length:Int) !=(l2.length:Int))=true:=by simp;omega
  have hfin:decide (l1=l2)=false:=decide_eq_false fun e=>hne (by rw [e])
  have HF:=Lib.hid hfin
  clear hfin
  go_enter Tryz.func277,Tryz.ntmps277
  go_wp2
  go_ret
  exact ⟨zaT HF.out.symm,0,rfl⟩
theorem a6_a:zaY [58,58,102,102,102,102,58,55,102,48,48,58,49]=some (.six 0 281472812449793):=by
 unfold zaY
 rw [show zaN [58,58,102,102,102,102,58,55,102,48,48,58,49]=(0,false) from by decide+kernel,show sixZ [58,58,102,102,102,102,58,55,102,48,48,58,49]=((0,281472812449793),true) from by decide+kernel]
 rfl
theorem a6_b:zaY [50,48,48,50,58,55,102,48,48,58,49,58,58]=some (.six 2306545597143908352 0):=by
 unfold zaY
 rw [show zaN [50,48,48,50,58,55,102,48,48,58,49,58,58]=(0,false) from by decide+kernel,show sixZ [50,48,48,50,58,55,102,48,48,58,49,58,58]=((2306545597143908352,0),true) from by decide+kernel]
 rfl
theorem i6_a:zaG 0 281472812449793=[2130706433]:=by decide+kernel
theorem i6_b:zaG 2306545597143908352 0=[2130706433]:=by decide+kernel
theorem z4M (w:World) (hbru:BruTab w) (hmax:MaxVar w):
  Calls Tryz.prog 276 #[] w fun e w'=>e= .returned (.bool true)∧Below w.heap.size w w':=by
 have HT:=Lib.hid hbru
 have HX:=Lib.hid hmax
 clear hbru hmax
 go_enter Tryz.func276,Tryz.ntmps276
 go_wp2_with fail
 refine (zzP _ HT.out HX.out).mono ?_
 rintro e w1 ⟨rfl,hb1⟩
 go_wp2
 go_ret
 exact ⟨rfl,hb1⟩
theorem ydR (x:World) (n:Int):RowR (x.alloc (.cells #[.int .u32 n] 117)) (.slice (some ⟨x.heap.size,0,none⟩) 1 1) ([n].map (Value.int .u32)):=by
 refine ⟨some ⟨x.heap.size,0,none⟩,1,rfl,fun j u hj=>⟨_,rfl,?_⟩⟩
 rw [Lib.add_plain,Nat.zero_add,cell_of_row _ _ j _ _ _ (heap_alloc_new x _)]
 simpa using hj
theorem zzB (w:World) (hbru:BruTab w) (hmax:MaxVar w):
  Calls Tryz.prog 275 #[] w fun e w'=>e= .returned (.bool true)∧Below w.heap.size w w':=by
 have HT:=Lib.hid hbru
 have HX:=Lib.hid hmax
 clear hbru hmax
 go_enter Tryz.func275,Tryz.ntmps275
 go_wp2_with fail
 refine (zbH _ _ (by decide) HX.out).mono ?_
 rw [show zaY (ByteArray.mk #[58,58,102,102,102,102,58,55,102,48,48,58,49]).data.toList=some (.six 0 281472812449793) from a6_a]
 rintro e x1 ⟨rfl,hb1⟩
 simp only [optV,AZ.val,Option.isSome]
 go_wp2_with fail
 refine (zbH _ _ (by decide) (zaB HX.out hb1)).mono ?_
 rw [show zaY (ByteArray.mk #[50,48,48,50,58,55,102,48,48,58,49,58,58]).data.toList=some (.six 2306545597143908352 0) from a6_b]
 rintro e x2 ⟨rfl,hb2⟩
 simp only [optV,AZ.val,Option.isSome]
 have hc2:Below w.heap.size w x2:=hb1.trans (hb2.mono hb1.size)
 clear hb1 hb2
 go_wp2_with fail
 refine (z4M _ (zaL HT.out hc2) (zaB HX.out hc2)).mono ?_
 rintro e x3 ⟨rfl,hb3⟩
 have hc3:Below w.heap.size w x3:=hc2.trans (hb3.mono hc2.size)
 clear hb3 hc2
 go_wp2_with fail
 refine (zoK 0 281472812449793 _ (by decide) (by decide) (by decide) (by decide)).mono ?_
 rw [i6_a]
 rintro e x4 ⟨v4,rfl,hn4,hb4⟩
 have hc4:Below w.heap.size w x4:=hc3.trans (hb4.mono hc3.size)
 have hc5:Below w.heap.size w (x4.alloc (.cells #[.int .u32 2130706433] 117)):=hc4.alloc hc4.size _
 have HR4:=Lib.hid ((hn4.below ((Below.refl _ x4).alloc (Nat.le_refl _) (.cells #[.int .u32 2130706433] 117))).row)
 have HL4:=Lib.hid (ydR x4 2130706433)
 clear hb4 hc3 hn4 hc4
 go_wp2_with fail
 generalize x4.alloc (.cells #[.int .u32 2130706433] 117)=x5 at*
 refine (zrN _ _ [2130706433] [2130706433] _ HR4.out HL4.out (by decide)).mono ?_
 rintro e x6 ⟨rfl,m6,rfl⟩
 have hc6:Below w.heap.size w (x5.drewN m6):=zbY hc5 m6
 generalize x5.drewN m6=x6 at*
 rw [decide_eq_true (rfl:([2130706433]:List Int)=[2130706433])]
 go_wp2_with fail
 refine (zoK 2306545597143908352 0 _ (by decide) (by decide) (by decide) (by decide)).mono ?_
 rw [i6_b]
 rintro e x7 ⟨v7,rfl,hn7,hb7⟩
 have hc7:Below w.heap.size w x7:=hc6.trans (hb7.mono hc6.size)
 have hc8:Below w.heap.size w (x7.alloc (.cells #[.int .u32 2130706433] 117)):=hc7.alloc hc7.size _
 have HR7:=Lib.hid ((hn7.below ((Below.refl _ x7).alloc (Nat.le_refl _) (.cells #[.int .u32 2130706433] 117))).row)
 have HL7:=Lib.hid (ydR x7 2130706433)
 clear hb7 hn7 hc7
 go_wp2_with fail
 generalize x7.alloc (.cells #[.int .u32 2130706433] 117)=x8 at*
 refine (zrN _ _ [2130706433] [2130706433] _ HR7.out HL7.out (by decide)).mono ?_
 rintro e x9 ⟨rfl,m9,rfl⟩
 rw [decide_eq_true (rfl:([2130706433]:List Int)=[2130706433])]
 go_wp2
 go_ret
 exact ⟨by first|rfl|exact zaT (by simp),zbY hc8 m9⟩
end
section
open Go.RowKit
end
section
open Go.RowKit
def AZ.hi:AZ→Int
 | .four _=>0
 | .six hi _=>hi
def AZ.lo:AZ→Int
 | .four n=>281470681743360+n
 | .six _ lo=>lo
end
section
open Go.RowKit
end
section
open Go.RowKit
end
section
open Go.RowKit
theorem Nums.none {t:TypeId} {k:IntKind} {B:Nat} {w:World} {v:Value} (h:Nums t k B w v []): ∃a c,v= .slice a 0 c:=by
 obtain ⟨a,c,hv,_⟩:=h.row
 exact ⟨a,c,by simpa using hv⟩
end
section
open Go.RowKit
end
section
open Go.RowKit
def pa (c:Bool) (l:List Int):List Int:=if c then l else []
end
section
open Go.RowKit
end
section
open Go.RowKit
def zeR:AZ→List Int
 | .four _=>[]
 | .six hi lo=>zaG hi lo
theorem ybH (a:AZ) (w:World) (h:a.Ok):
  Calls Tryz.prog 245 #[a.val] w (zbI w (zeR a)):=by
 cases a with
 |four n=>exact z4V n w
 |six hi lo=>exact zoK hi lo w h.1.1 h.1.2 h.2.1 h.2.2
theorem yaA (hi lo:Int):(zaG hi lo).length≤12:=by
 have hA:(inA hi (lo/4294967296) (lo % 4294967296)).length≤2:=by unfold inA;split<;>simp
 have hB:(inCo hi (lo/4294967296) (lo % 4294967296)).length≤2:=by unfold inCo;split<;>simp
 have hC:(inC hi (lo/4294967296) (lo % 4294967296)).length≤2:=by unfold inC;split<;>simp
 have hD:(inD hi).length≤2:=by unfold inD;split<;>simp
 have hE:(inE hi (lo % 4294967296)).length≤2:=by unfold inE;split<;>simp
 have hF:(inF (lo/4294967296) (lo % 4294967296)).length≤2:=by unfold inF;split<;>simp
 unfold zaG
 simp only [List.length_append]
 omega
theorem z3F (a:AZ):(zeR a).length≤12:=by
 cases a with
 |four n=>exact Nat.zero_le _
 |six hi lo=>exact yaA hi lo
end
end

section
open Go.RowKit
/-- an address as a wide number -/
def AZ.wd (a:AZ):Nat:=zaH a.hi.toNat a.lo.toNat
theorem AZ.ok_hl {a:AZ} (h:a.Ok): ∃hi lo:Nat,a.hi=hi∧a.lo=lo∧hi<18446744073709551616∧lo<18446744073709551616∧a.wd=zaH hi lo:=by
 have:(0≤a.hi∧a.hi≤18446744073709551615)∧(0≤a.lo∧a.lo≤18446744073709551615):=by
  cases a with
  |four n=>have:=h.1;have:=h.2;simp only [AZ.hi,AZ.lo];omega
  |six x y=>exact h
 exact ⟨a.hi.toNat,a.lo.toNat,by omega,by omega,by omega,by omega,rfl⟩
theorem ycV {W w1:World} (hb:Below W.heap.size W w1):(∀b o,b<W.heap.size→w1.cell? ⟨b,o,none⟩=W.cell? ⟨b,o,none⟩)∧(∀b o,b<W.heap.size→w1.frozen? ⟨b,o,none⟩=W.frozen? ⟨b,o,none⟩):=
 ⟨fun b o h=>hb.cell (p:=⟨b,o,none⟩) h,fun b o h=>hb.frozen (p:=⟨b,o,none⟩) h⟩
theorem zcG {w W:World} {o:Obj} (h:Below (w.alloc o).heap.size (w.alloc o) W):Below w.heap.size w W:=zbL (h.mono (by simp))
theorem zaA {x y z:World} (h:Below x.heap.size x y) (k:Below y.heap.size y z):Below x.heap.size x z:=h.trans (k.mono h.size)
theorem AZ.wd_lt {a:AZ} (h:a.Ok):a.wd<2^128:=by
 obtain ⟨hi,lo,_,_,h1,h2,e⟩:=AZ.ok_hl h
 rw [e];exact znH h1 h2
theorem yeI (n:Int) (k:Nat) (w:World) (h0:0≤n) (h1:n≤4294967295) (hk:k≤128):
  Calls Tryz.prog 267 #[.iface 117 (.int .u32 n),.int .i64 k] w fun e w'=>e= .returned (.tuple #[pfW (ofW (AZ.four n).wd k) k,.bool true])∧Below w.heap.size w w':=by
 obtain ⟨hi,lo,e1,e2,b1,b2,e3⟩:=AZ.ok_hl (a:= .four n) ⟨h0,h1⟩
 have HC:Hid (∀W,Calls Tryz.prog 260 #[.int .u64 0,.int .u64 (281470681743360+n),.int .i64 k] W fun e w'=>e= .returned (pfW (ofW (AZ.four n).wd k) k)∧Below W.heap.size W w'):=fun W=>by
  have:=zhC hi lo k W b1 b2 hk
  rw [←e1,←e2,←e3] at this
  exact this
 have hv: ∃x y:Int,pfW (ofW (AZ.four n).wd k) k= .agg #[.int .u64 x,.int .u64 y,.int .i64 k]:=⟨_,_,rfl⟩
 obtain ⟨x,y,hv⟩:=hv
 rw [hv]
 rw [hv] at HC
 have hma: ∀w:World,(method 393 117 (.int .u32 n) "Wide").run Tryz.prog w= .ok (305,(.int .u32 n)) w:=fun _=>by kernel_rfl
 clear e1 e2 e3 hv
 go_enter Tryz.func267,Tryz.ntmps267
 go_wp2_with fail
 refine (ztI n _ h0 h1).mono ?_
 rintro e x1 ⟨rfl,rfl⟩
 go_wp2_with fail
 refine (HC.out _).mono ?_
 rintro e x2 ⟨rfl,hb2⟩
 obtain ⟨hc,hf⟩:=ycV hb2
 go_wp2
 refine bodyPost_ret (v:= .tuple #[.agg #[.int .u64 x,.int .u64 y,.int .i64 k],.bool true]) (by simp [results,Tryz.results267,go_sem,hc]) rfl ⟨rfl,?_⟩
 exact (((zcG hb2).setCell (Nat.le_refl _) _).setCell (Nat.le_refl _) _).setCell (Nat.le_refl _) _
theorem ykW (hi lo k:Nat) (w:World) (b1:hi<18446744073709551616) (b2:lo<18446744073709551616) (hk:k≤128):
  Calls Tryz.prog 267 #[.iface 120 (.agg #[.int .u64 hi,.int .u64 lo]),.int .i64 k] w fun e w'=>e= .returned (.tuple #[pfW (ofW (zaH hi lo) k) k,.bool true])∧Below w.heap.size w w':=by
 have HC:Hid (∀W,Calls Tryz.prog 260 #[.int .u64 hi,.int .u64 lo,.int .i64 k] W fun e w'=>e= .returned (pfW (ofW (zaH hi lo) k) k)∧Below W.heap.size W w'):=fun W=>
  zhC hi lo k W b1 b2 hk
 have hv: ∃x y:Int,pfW (ofW (zaH hi lo) k) k= .agg #[.int .u64 x,.int .u64 y,.int .i64 k]:=⟨_,_,rfl⟩
 obtain ⟨x,y,hv⟩:=hv
 rw [hv]
 rw [hv] at HC
 have hma: ∀w:World,(method 393 120 (.agg #[.int .u64 hi,.int .u64 lo]) "Wide").run Tryz.prog w= .ok (257,(.agg #[.int .u64 hi,.int .u64 lo])) w:=fun _=>by kernel_rfl
 clear hv
 go_enter Tryz.func267,Tryz.ntmps267
 go_wp2_with fail
 refine (zbC _ _ _).mono ?_
 rintro e x1 ⟨rfl,hb1⟩
 obtain ⟨hc1,hf1⟩:=ycV hb1
 go_wp2_with fail
 refine (HC.out _).mono ?_
 rintro e x2 ⟨rfl,hb2⟩
 have hb3:=zaA hb1 hb2
 clear hc1 hf1 hb1 hb2
 obtain ⟨hc,hf⟩:=ycV hb3
 go_wp2
 refine bodyPost_ret (v:= .tuple #[.agg #[.int .u64 x,.int .u64 y,.int .i64 k],.bool true]) (by simp [results,Tryz.results267,go_sem,hc]) rfl ⟨rfl,?_⟩
 exact (((zcG hb3).setCell (Nat.le_refl _) _).setCell (Nat.le_refl _) _).setCell (Nat.le_refl _) _
theorem yaO (a:AZ) (k:Nat) (w:World) (h:a.Ok) (hk:k≤128):
  Calls Tryz.prog 267 #[a.val,.int .i64 k] w fun e w'=>e= .returned (.tuple #[pfW (ofW a.wd k) k,.bool true])∧Below w.heap.size w w':=by
 cases a with
 |four n=>exact yeI n k w h.1 h.2 hk
 |six x y=>
  obtain ⟨hi,lo,e1,e2,b1,b2,e3⟩:=AZ.ok_hl h
  simp only [AZ.hi,AZ.lo] at e1 e2
  subst e1 e2
  rw [e3]
  exact ykW hi lo k w b1 b2 hk
theorem ykL (x:Option AZ) (n:Int) (w:World) (h:n<0∨128<n):
  Calls Tryz.prog 267 #[optV x,.int .i64 n] w fun e w'=>e= .returned (.tuple #[pfW 0 0,.bool false])∧Below w.heap.size w w':=by
 obtain ⟨v,hv⟩: ∃v,optV x=v:=⟨_,rfl⟩
 rw [hv]
 clear hv
 by_cases h0:n<0
 ·clear h
  go_enter Tryz.func267,Tryz.ntmps267
  go_wp2
  refine bodyPost_ret (v:= .tuple #[.agg #[.int .u64 0,.int .u64 0,.int .i64 0],.bool false]) (by simp [results,Tryz.results267,go_sem]) rfl ⟨rfl,?_⟩
  exact (Below.refl _ _).alloc (Nat.le_refl _) _
 ·have h1:128<n:=by omega
  clear h
  go_enter Tryz.func267,Tryz.ntmps267
  go_wp2
  refine bodyPost_ret (v:= .tuple #[.agg #[.int .u64 0,.int .u64 0,.int .i64 0],.bool false]) (by simp [results,Tryz.results267,go_sem]) rfl ⟨rfl,?_⟩
  exact (Below.refl _ _).alloc (Nat.le_refl _) _
theorem ymC (hi lo k:Nat) (a:AZ) (w:World) (_:hi<18446744073709551616) (h2:lo<18446744073709551616) (ha:a.Ok) (hk:k≤128):
  Calls Tryz.prog 265 #[.agg #[.int .u64 hi,.int .u64 lo,.int .i64 k],a.val] w fun e w'=>e= .returned (.bool (zfP (zaH hi lo) k a.wd))∧Below w.heap.size w w':=by
 obtain ⟨x,g1⟩: ∃x,hiN (ofW a.wd k)=x:=⟨_,rfl⟩
 obtain ⟨y,g2⟩: ∃y,loN (ofW a.wd k)=y:=⟨_,rfl⟩
 have HC:Hid (∀W,Calls Tryz.prog 267 #[a.val,.int .i64 k] W fun e w'=>e= .returned (.tuple #[.agg #[.int .u64 (x:Nat),.int .u64 (y:Nat),.int .i64 k],.bool true])∧Below W.heap.size W w'):=fun W=>by
  have:=yaO a k W ha hk
  unfold pfW at this
  rw [g1,g2] at this
  exact this
 have hb:((x:Int)==hi&&((y:Int)==lo&&(k:Int)==k))=zfP (zaH hi lo) k a.wd:=by
  rw [Bool.eq_iff_iff,zlA]
  simp only [Bool.and_eq_true,beq_iff_eq,and_true]
  constructor
  ·rintro ⟨q1,q2⟩
   have:ofW a.wd k=zaH hi lo:=zkC (by rw [g1,zeS h2];omega) (by rw [g2,zfY h2];omega)
   rw [←this]
   exact ⟨⟨hk,zsE _ _⟩,ztS _ _⟩
  ·rintro ⟨⟨_,q1⟩,q2⟩
   have:ofW a.wd k=zaH hi lo:=zoQ (zsE _ _) q1 ((ztS _ _).trans q2.symm)
   rw [this,zeS h2] at g1
   rw [this,zfY h2] at g2
   omega
 have heq:=eqPf x y k hi lo k
 rw [hb] at heq
 have hg:=zeX
 obtain ⟨va,hva⟩: ∃v,a.val=v:=⟨_,rfl⟩
 rw [hva] at HC ⊢
 clear g1 g2 hb hva
 generalize zfP (zaH hi lo) k a.wd=b at*
 go_enter Tryz.func265,Tryz.ntmps265
 go_wp2_with fail
 refine (HC.out _).mono ?_
 rintro e x2 ⟨rfl,hb2⟩
 obtain ⟨c0,c1,c2⟩:=zfR w _ _ _ _ x2 (hb2.mono (by simp))
 have hz:w.heap.size<x2.heap.size:=by have:=hb2.size;simp at this;omega
 go_wp2
 go_ret
 exact ⟨rfl,(zcG hb2).alloc (zcG hb2).size _⟩
theorem ykA (hi lo:Nat) (n:Int) (v:Value) (w:World) (HC:Hid (∀W,Calls Tryz.prog 267 #[v,.int .i64 n] W fun e w'=>e= .returned (.tuple #[.agg #[.int .u64 0,.int .u64 0,.int .i64 0],.bool false])∧Below W.heap.size W w')):
  Calls Tryz.prog 265 #[.agg #[.int .u64 hi,.int .u64 lo,.int .i64 n],v] w fun e w'=>e= .returned (.bool false)∧Below w.heap.size w w':=by
 go_enter Tryz.func265,Tryz.ntmps265
 go_wp2_with fail
 refine (HC.out _).mono ?_
 rintro e x2 ⟨rfl,hb2⟩
 obtain ⟨c0,c1,c2⟩:=zfR w _ _ _ _ x2 (hb2.mono (by simp))
 have hz:w.heap.size<x2.heap.size:=by have:=hb2.size;simp at this;omega
 go_wp2
 go_ret
 exact ⟨rfl,(zcG hb2).alloc (zcG hb2).size _⟩
theorem zkE (hi lo:Nat) (n:Int) (a:AZ) (w:World) (h1:hi<18446744073709551616) (h2:lo<18446744073709551616) (ha:a.Ok):
  Calls Tryz.prog 265 #[.agg #[.int .u64 hi,.int .u64 lo,.int .i64 n],a.val] w fun e w'=>e= .returned (.bool (zfP (zaH hi lo) n a.wd))∧Below w.heap.size w w':=by
 by_cases h:n<0∨128<n
 ·rw [show zfP (zaH hi lo) n a.wd=false from by unfold zfP;rw [zoX h];rfl]
  exact ykA hi lo n a.val w (fun W=>ykL (some a) n W h)
 ·obtain ⟨k,rfl⟩:=Int.eq_ofNat_of_zero_le (show 0≤n by omega)
  exact ymC hi lo k a w h1 h2 ha (by omega)
end

end Go.Proofs.YthacmlahnpdeeaaGreatDoor
