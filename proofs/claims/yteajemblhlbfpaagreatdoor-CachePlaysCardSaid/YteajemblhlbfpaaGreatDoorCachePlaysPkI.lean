/-
  What the law CachePlays leans on, and its walk (9 of 21).
-/
import Derived.Deep.DeepCutAuto
import Derived.Defers
import Derived.Recover
import Derived.Deep.OwnRows
import Derived.Test.YteajemblhlbfpaaGreatDoorCachePlaysPkH
import Derived.Test.YteajemblhlbfpaaGreatDoorCachePlaysPkG
import Derived.Test.YteajemblhlbfpaaGreatDoorCachePlaysPkB
namespace Go.Proofs.YteajemblhlbfpaaGreatDoor
set_option maxRecDepth 100000
set_option maxHeartbeats 16000000
abbrev zoP := @Nat.le_refl
section
section
open Go.RowKit
inductive AZ where
 |four (n:Int)
 |six (hi lo:Int)
def AZ.val:AZ→Value
 | .four n=> .iface 36 (.int .u32 n)
 | .six hi lo=> .iface 87 (.agg #[.int .u64 hi,.int .u64 lo])
def AZ.Ok:AZ→Prop
 | .four n=>0≤n∧n≤4294967295
 | .six hi lo=>(0≤hi∧hi≤18446744073709551615)∧(0≤lo∧lo≤18446744073709551615)
def AZ.make (is:Bool) (hi lo:Int):AZ:=if is then .six hi lo else .four (lo % 4294967296)
theorem as44 (v:Value) (w:World):(Instr.typeAssert (.iface 36 v) 48 36 true).run Tryz.prog w= .ok (.tuple #[v,.bool true]) w:=by kernel_rfl
theorem as64 (v:Value) (w:World):(Instr.typeAssert (.iface 87 v) 48 36 true).run Tryz.prog w= .ok (.tuple #[.int .u32 0,.bool false]) w:=by kernel_rfl
theorem as66 (v:Value) (w:World):(Instr.typeAssert (.iface 87 v) 48 87 true).run Tryz.prog w= .ok (.tuple #[v,.bool true]) w:=by kernel_rfl
theorem zmF (x:Int):IntKind.u32.wrap x=x % 4294967296:=by rw [IntKind.wrap_u32]
theorem zkP (is:Bool) (hi lo:Int) (w:World):
  Calls Tryz.prog 27 #[.bool is,.int .u64 hi,.int .u64 lo] w fun e w'=>e= .returned (AZ.make is hi lo).val∧w=w':=by
 cases is with
 |true=>
  go_enter Tryz.func27,Tryz.ntmps27
  go_wp2
  go_ret
  exact ⟨rfl,rfl⟩
 |false=>
  have f:=zmF lo
  go_enter Tryz.func27,Tryz.ntmps27
  go_wp2
  go_ret
  exact ⟨rfl,rfl⟩
theorem zfV (n:Int) (w:World) (f:0≤n) (g:n≤4294967295):
  Calls Tryz.prog 38 #[.int .u32 n] w fun e w'=>e= .returned (.agg #[.bool false,.int .u64 0,.int .u64 (281470681743360+n)])∧Below w.heap.size w w':=by
 go_enter Tryz.func38,Tryz.ntmps38
 go_wp2
 exact bodyPost_ret (v:= .agg #[.bool false,.int .u64 0,.int .u64 (281470681743360+n)]) (by simp [results,Tryz.results38,go_sem]) rfl ⟨rfl,(Below.refl _ _).alloc (zoP _) _⟩
theorem zhY (n:Int) (w:World) (C:0≤n) (G:n≤4294967295):
  Calls Tryz.prog 29 #[.iface 36 (.int .u32 n)] w fun e w'=>e= .returned (.agg #[.bool false,.int .u64 0,.int .u64 (281470681743360+n)])∧Below w.heap.size w w':=by
 have o:=as44
 have p:(w.alloc (.cells #[.bool false,.int .u64 0,.int .u64 0] 74)).heap[w.heap.size]? =some (.cells #[.bool false,.int .u64 0,.int .u64 0] 74 (0,0)):=heap_alloc_new w _
 have E:w.heap.size<(w.alloc (.cells #[.bool false,.int .u64 0,.int .u64 0] 74)).heap.size:=by simp
 have y:Below w.heap.size w (w.alloc (.cells #[.bool false,.int .u64 0,.int .u64 0] 74)):=(Below.refl _ w).alloc (zoP _) _
 have D:=Lib.hid p
 clear p
 go_enter Tryz.func29,Tryz.ntmps29
 go_wp2_with fail
 generalize w.alloc (.cells #[.bool false,.int .u64 0,.int .u64 0] 74)=N at*
 refine (zfV n _ C G).mono ?_
 rintro e g ⟨rfl,i⟩
 have f:Hid (g.heap[w.heap.size]? =some (.cells #[.bool false,.int .u64 0,.int .u64 0] 74 (0,0))):=(i.block w.heap.size E).trans D.out
 have B:g.cell? ⟨w.heap.size,0,none⟩=some (.bool false):=by rw [cell_of_row g _ 0 _ _ _ f.out];rfl
 have H:g.cell? ⟨w.heap.size,1,none⟩=some (.int .u64 0):=by rw [cell_of_row g _ 1 _ _ _ f.out];rfl
 have A:g.cell? ⟨w.heap.size,2,none⟩=some (.int .u64 0):=by rw [cell_of_row g _ 2 _ _ _ f.out];rfl
 have K:=zbW f.out 0
 have I:=zbW f.out 1
 have J:=zbW f.out 2
 have j:Below w.heap.size w g:=y.trans (i.mono y.size)
 clear i o
 go_wp2
 exact bodyPost_ret (v:= .agg #[.bool false,.int .u64 0,.int .u64 (281470681743360+n)]) (by simp [results,Tryz.results29,go_sem,B,H,A]) rfl ⟨rfl,((j.setCell (zoP _) _).setCell (zoP _) _).setCell (zoP _) _⟩
theorem zjN (hi lo:Int) (w:World):
  Calls Tryz.prog 29 #[.iface 87 (.agg #[.int .u64 hi,.int .u64 lo])] w fun e w'=>e= .returned (.agg #[.bool true,.int .u64 hi,.int .u64 lo])∧Below w.heap.size w w':=by
 have f:=as64
 have g:=as66
 go_enter Tryz.func29,Tryz.ntmps29
 go_wp2
 exact bodyPost_ret (v:= .agg #[.bool true,.int .u64 hi,.int .u64 lo]) (by simp [results,Tryz.results29,go_sem]) rfl ⟨rfl,by first|exact (((((Below.refl _ w).alloc (zoP _) _).alloc (by simp) _).setCell (zoP _) _).setCell (zoP _) _).setCell (zoP _) _|exact ((Below.refl _ w).alloc (zoP _) _).alloc (by simp) _⟩
def cmpI (x y:Int):Int:=if x<y then -1 else if y<x then 1 else 0
end
end
section
open Go.RowKit
theorem zaS {x y z:World} (h:Below x.heap.size x y) (k:Below y.heap.size y z):Below x.heap.size x z:=h.trans (k.mono h.size)
end
end Go.Proofs.YteajemblhlbfpaaGreatDoor
