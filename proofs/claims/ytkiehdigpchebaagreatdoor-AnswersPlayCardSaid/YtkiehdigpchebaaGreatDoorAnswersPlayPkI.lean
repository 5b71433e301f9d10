/-
  What the law AnswersPlay leans on, and its walk (9 of 22).
-/
import Derived.Deep.DeepCutAuto
import Derived.Defers
import Derived.Recover
import Derived.Deep.OwnRows
import Derived.Test.YtkiehdigpchebaaGreatDoorAnswersPlayPkH
import Derived.Test.YtkiehdigpchebaaGreatDoorAnswersPlayPkG
import Derived.Test.YtkiehdigpchebaaGreatDoorAnswersPlayPkB
namespace Go.Proofs.YtkiehdigpchebaaGreatDoor
set_option maxRecDepth 100000
set_option maxHeartbeats 16000000
abbrev zqC := @Nat.le_refl
section
section
open Go.RowKit
inductive AZ where
 |four (n:Int)
 |six (hi lo:Int)
def AZ.val:AZ→Value
 | .four n=> .iface 36 (.int .u32 n)
 | .six hi lo=> .iface 111 (.agg #[.int .u64 hi,.int .u64 lo])
def AZ.Ok:AZ→Prop
 | .four n=>0≤n∧n≤4294967295
 | .six hi lo=>(0≤hi∧hi≤18446744073709551615)∧(0≤lo∧lo≤18446744073709551615)
def AZ.make (is:Bool) (hi lo:Int):AZ:=if is then .six hi lo else .four (lo % 4294967296)
theorem as44 (v:Value) (w:World):(Instr.typeAssert (.iface 36 v) 38 36 true).run Tryz.prog w= .ok (.tuple #[v,.bool true]) w:=by kernel_rfl
theorem as64 (v:Value) (w:World):(Instr.typeAssert (.iface 111 v) 38 36 true).run Tryz.prog w= .ok (.tuple #[.int .u32 0,.bool false]) w:=by kernel_rfl
theorem as66 (v:Value) (w:World):(Instr.typeAssert (.iface 111 v) 38 111 true).run Tryz.prog w= .ok (.tuple #[v,.bool true]) w:=by kernel_rfl
theorem znN (x:Int):IntKind.u32.wrap x=x % 4294967296:=by rw [IntKind.wrap_u32]
theorem zkR (is:Bool) (hi lo:Int) (w:World):
  Calls Tryz.prog 27 #[.bool is,.int .u64 hi,.int .u64 lo] w fun e w'=>e= .returned (AZ.make is hi lo).val∧w=w':=by
 cases is with
 |true=>
  go_enter Tryz.func27,Tryz.ntmps27
  go_wp2
  go_ret
  exact ⟨rfl,rfl⟩
 |false=>
  have d:=znN lo
  go_enter Tryz.func27,Tryz.ntmps27
  go_wp2
  go_ret
  exact ⟨rfl,rfl⟩
theorem zgJ (n:Int) (w:World) (f:0≤n) (d:n≤4294967295):
  Calls Tryz.prog 46 #[.int .u32 n] w fun e w'=>e= .returned (.agg #[.bool false,.int .u64 0,.int .u64 (281470681743360+n)])∧Below w.heap.size w w':=by
 go_enter Tryz.func46,Tryz.ntmps46
 go_wp2
 exact bodyPost_ret (v:= .agg #[.bool false,.int .u64 0,.int .u64 (281470681743360+n)]) (by simp [results,Tryz.results46,go_sem]) rfl ⟨rfl,(Below.refl _ _).alloc (zqC _) _⟩
theorem ziQ (n:Int) (w:World) (H:0≤n) (O:n≤4294967295):
  Calls Tryz.prog 37 #[.iface 36 (.int .u32 n)] w fun e w'=>e= .returned (.agg #[.bool false,.int .u64 0,.int .u64 (281470681743360+n)])∧Below w.heap.size w w':=by
 have p:=as44
 have E:(w.alloc (.cells #[.bool false,.int .u64 0,.int .u64 0] 72)).heap[w.heap.size]? =some (.cells #[.bool false,.int .u64 0,.int .u64 0] 72 (0,0)):=heap_alloc_new w _
 have G:w.heap.size<(w.alloc (.cells #[.bool false,.int .u64 0,.int .u64 0] 72)).heap.size:=by simp
 have C:Below w.heap.size w (w.alloc (.cells #[.bool false,.int .u64 0,.int .u64 0] 72)):=(Below.refl _ w).alloc (zqC _) _
 have J:=Lib.hid E
 clear E
 go_enter Tryz.func37,Tryz.ntmps37
 go_wp2_with fail
 generalize w.alloc (.cells #[.bool false,.int .u64 0,.int .u64 0] 72)=S at*
 refine (zgJ n _ H O).mono ?_
 rintro e f ⟨rfl,o⟩
 have d:Hid (f.heap[w.heap.size]? =some (.cells #[.bool false,.int .u64 0,.int .u64 0] 72 (0,0))):=(o.block w.heap.size G).trans J.out
 have N:f.cell? ⟨w.heap.size,0,none⟩=some (.bool false):=by rw [cell_of_row f _ 0 _ _ _ d.out];rfl
 have I:f.cell? ⟨w.heap.size,1,none⟩=some (.int .u64 0):=by rw [cell_of_row f _ 1 _ _ _ d.out];rfl
 have K:f.cell? ⟨w.heap.size,2,none⟩=some (.int .u64 0):=by rw [cell_of_row f _ 2 _ _ _ d.out];rfl
 have U:=zbZ d.out 0
 have V:=zbZ d.out 1
 have R:=zbZ d.out 2
 have y:Below w.heap.size w f:=C.trans (o.mono C.size)
 clear o p
 go_wp2
 exact bodyPost_ret (v:= .agg #[.bool false,.int .u64 0,.int .u64 (281470681743360+n)]) (by simp [results,Tryz.results37,go_sem,N,I,K]) rfl ⟨rfl,((y.setCell (zqC _) _).setCell (zqC _) _).setCell (zqC _) _⟩
theorem znI (hi lo:Int) (w:World):
  Calls Tryz.prog 37 #[.iface 111 (.agg #[.int .u64 hi,.int .u64 lo])] w fun e w'=>e= .returned (.agg #[.bool true,.int .u64 hi,.int .u64 lo])∧Below w.heap.size w w':=by
 have f:=as64
 have d:=as66
 go_enter Tryz.func37,Tryz.ntmps37
 go_wp2
 exact bodyPost_ret (v:= .agg #[.bool true,.int .u64 hi,.int .u64 lo]) (by simp [results,Tryz.results37,go_sem]) rfl ⟨rfl,by first|exact (((((Below.refl _ w).alloc (zqC _) _).alloc (by simp) _).setCell (zqC _) _).setCell (zqC _) _).setCell (zqC _) _|exact ((Below.refl _ w).alloc (zqC _) _).alloc (by simp) _⟩
def cmpI (x y:Int):Int:=if x<y then -1 else if y<x then 1 else 0
end
end
section
open Go.RowKit
theorem zaE {x y z:World} (h:Below x.heap.size x y) (k:Below y.heap.size y z):Below x.heap.size x z:=h.trans (k.mono h.size)
end
end Go.Proofs.YtkiehdigpchebaaGreatDoor
