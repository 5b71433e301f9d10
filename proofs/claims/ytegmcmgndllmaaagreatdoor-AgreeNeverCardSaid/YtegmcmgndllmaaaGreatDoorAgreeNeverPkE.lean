/-
  What the law AgreeNever leans on, and its walk (5 of 42).
-/
import Derived.Deep.DeepCutAuto
import Derived.Defers
import Derived.Recover
import Derived.Deep.OwnRows
import Derived.Test.YtegmcmgndllmaaaGreatDoorAgreeNeverPkD
import Derived.Test.YtegmcmgndllmaaaGreatDoorAgreeNeverPkC
import Derived.Test.YtegmcmgndllmaaaGreatDoorAgreeNeverPkF
namespace Go.Proofs.YtegmcmgndllmaaaGreatDoor
set_option maxRecDepth 100000
set_option maxHeartbeats 16000000
section
section
open Go.RowKit
inductive AZ where
 |four (n:Int)
 |six (hi lo:Int)
def AZ.val:AZ→Value
 | .four n=> .iface 168 (.int .u32 n)
 | .six hi lo=> .iface 173 (.agg #[.int .u64 hi,.int .u64 lo])
def AZ.Ok:AZ→Prop
 | .four n=>0≤n∧n≤4294967295
 | .six hi lo=>(0≤hi∧hi≤18446744073709551615)∧(0≤lo∧lo≤18446744073709551615)
theorem as44 (v:Value) (w:World):(Instr.typeAssert (.iface 168 v) 108 168 true).run Tryz.prog w= .ok (.tuple #[v,.bool true]) w:=by kernel_rfl
theorem as64 (v:Value) (w:World):(Instr.typeAssert (.iface 173 v) 108 168 true).run Tryz.prog w= .ok (.tuple #[.int .u32 0,.bool false]) w:=by kernel_rfl
theorem zkW (n:Int) (w:World):
  Calls Tryz.prog 313 #[.iface 168 (.int .u32 n)] w fun e w'=>e= .returned (.tuple #[.int .u32 n,.bool true])∧w=w':=by
 have d:=as44
 go_enter Tryz.func313,Tryz.ntmps313
 go_wp2
 go_ret2
 exact ⟨rfl,rfl⟩
theorem zmS (hi lo:Int) (w:World):
  Calls Tryz.prog 313 #[.iface 173 (.agg #[.int .u64 hi,.int .u64 lo])] w fun e w'=>e= .returned (.tuple #[.int .u32 0,.bool false])∧w=w':=by
 have d:=as64
 go_enter Tryz.func313,Tryz.ntmps313
 go_wp2
 go_ret2
 exact ⟨rfl,rfl⟩
def zbF (l:List UInt8):Option AZ:=
 if (zaP l).2=true then some (.four (zaP l).1) else if (sixZ l).2=true then some (.six (sixZ l).1.1 (sixZ l).1.2) else none
def optV:Option AZ→Value
 |none=> .nilIface
 |some a=>a.val
theorem z9R (l:List UInt8):(0≤(sixZ l).1.1∧(sixZ l).1.1≤18446744073709551615)∧(0≤(sixZ l).1.2∧(sixZ l).1.2≤18446744073709551615):=⟨z1O (z7P l),z2K (z7P l)⟩
theorem ycR {l:List UInt8} {a:AZ} (h:zbF l=some a):a.Ok:=by
 unfold zbF at h
 split at h
 ·cases h;exact zfL l
 ·split at h
  ·cases h;exact z9R l
  ·cases h
def ydX (w:World) (x:Option AZ) (e:Ending) (w':World):Prop:=e= .returned (.tuple #[optV x,.bool x.isSome])∧Below w.heap.size w w'
theorem zcI (s:ByteArray) (w:World) (B:s.size≤1073741824) (i:MaxVar w):
  Calls Tryz.prog 312 #[.string s] w (ydX w (zbF s.data.toList)):=by
 have H:=Lib.hid i
 clear i
 obtain ⟨y,D,o⟩: ∃x b,zaP s.data.toList=(x,b):=⟨_,_,rfl⟩
 have C:=Lib.hid o
 obtain ⟨h,l,E,A⟩: ∃h l b,sixZ s.data.toList=((h,l),b):=⟨_,_,_,rfl⟩
 have HZ:=Lib.hid A
 have j:Hid (zbF s.data.toList=if D=true then some (.four y) else if E=true then some (.six h l) else none):=by
  show zbF s.data.toList=_
  unfold zbF;rw [o,A]
 clear o A
 cases D with
 |true=>
  go_enter Tryz.func312,Tryz.ntmps312
  go_wp2_with fail
  refine (zfX s _ B).mono ?_
  rw [C.out]
  rintro e G ⟨rfl,d⟩
  go_wp2
  go_ret2
  exact ⟨by rw [j.out];rfl,d⟩
 |false=>
  go_enter Tryz.func312,Tryz.ntmps312
  go_wp2_with fail
  refine (zfX s _ B).mono ?_
  rw [C.out]
  rintro e G ⟨rfl,d⟩
  go_wp2_with fail
  refine (zkN s _ B (zaA H.out d)).mono ?_
  rw [HZ.out]
  rintro e I ⟨rfl,m⟩
  have f:Below w.heap.size w I:=d.trans (m.mono d.size)
  cases E with
  |true=>
   go_wp2
   go_ret2
   exact ⟨by rw [j.out];rfl,f.alloc f.size _⟩
  |false=>
   go_wp2
   go_ret2
   exact ⟨by rw [j.out];rfl,f.alloc f.size _⟩
def AZ.hi:AZ→Int
 | .four _=>0
 | .six hi _=>hi
def AZ.lo:AZ→Int
 | .four n=>281470681743360+n
 | .six _ lo=>lo
def pa (c:Bool) (l:List Int):List Int:=if c then l else []
end
end
section
open Go.RowKit
def AZ.wd (a:AZ):Nat:=zaL a.hi.toNat a.lo.toNat
theorem AZ.ok_hl {a:AZ} (h:a.Ok): ∃hi lo:Nat,a.hi=hi∧a.lo=lo∧hi<18446744073709551616∧lo<18446744073709551616∧a.wd=zaL hi lo:=by
 have:(0≤a.hi∧a.hi≤18446744073709551615)∧(0≤a.lo∧a.lo≤18446744073709551615):=by
  cases a with
  |four n=>have:=h.1;have:=h.2;simp only [AZ.hi,AZ.lo];omega
  |six x y=>exact h
 exact ⟨a.hi.toNat,a.lo.toNat,by omega,by omega,by omega,by omega,rfl⟩
theorem zhU {w W:World} {o:Obj} (h:Below (w.alloc o).heap.size (w.alloc o) W):Below w.heap.size w W:=zbC (h.mono (by simp))
theorem zaC {x y z:World} (h:Below x.heap.size x y) (k:Below y.heap.size y z):Below x.heap.size x z:=h.trans (k.mono h.size)
end
end Go.Proofs.YtegmcmgndllmaaaGreatDoor
