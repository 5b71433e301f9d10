/-
  What the law AuthorityStrict leans on, and its walk (5 of 35).
-/
import Derived.Deep.DeepCutAuto
import Derived.Defers
import Derived.Recover
import Derived.Deep.OwnRows
import Derived.Test.YtmjappnpedjlnaaGreatDoorAuthorityStrictPkD
import Derived.Test.YtmjappnpedjlnaaGreatDoorAuthorityStrictPkC
import Derived.Test.YtmjappnpedjlnaaGreatDoorAuthorityStrictPkF
namespace Go.Proofs.YtmjappnpedjlnaaGreatDoor
set_option maxRecDepth 100000
set_option maxHeartbeats 16000000
abbrev zzR := @Nat.le_refl
abbrev zzS := @Go.RowKit.Below.refl
section
section
open Go.RowKit
inductive AZ where
 |four (n:Int)
 |six (hi lo:Int)
def AZ.val:AZ→Value
 | .four n=> .iface 134 (.int .u32 n)
 | .six hi lo=> .iface 144 (.agg #[.int .u64 hi,.int .u64 lo])
def AZ.Ok:AZ→Prop
 | .four n=>0≤n∧n≤4294967295
 | .six hi lo=>(0≤hi∧hi≤18446744073709551615)∧(0≤lo∧lo≤18446744073709551615)
theorem as44 (v:Value) (w:World):(Instr.typeAssert (.iface 134 v) 107 134 true).run Tryz.prog w= .ok (.tuple #[v,.bool true]) w:=by kernel_rfl
theorem as64 (v:Value) (w:World):(Instr.typeAssert (.iface 144 v) 107 134 true).run Tryz.prog w= .ok (.tuple #[.int .u32 0,.bool false]) w:=by kernel_rfl
theorem asN4 (w:World):(Instr.typeAssert .nilIface 107 134 true).run Tryz.prog w= .ok (.tuple #[.int .u32 0,.bool false]) w:=by kernel_rfl
theorem as66 (v:Value) (w:World):(Instr.typeAssert (.iface 144 v) 107 144 true).run Tryz.prog w= .ok (.tuple #[v,.bool true]) w:=by kernel_rfl
theorem asN6 (w:World):(Instr.typeAssert .nilIface 107 144 true).run Tryz.prog w= .ok (.tuple #[.agg #[.int .u64 0,.int .u64 0],.bool false]) w:=by kernel_rfl
def optV:Option AZ→Value
 |none=> .nilIface
 |some a=>a.val
theorem zyM (l:List UInt8):(0≤(sixZ l).1.1∧(sixZ l).1.1≤18446744073709551615)∧(0≤(sixZ l).1.2∧(sixZ l).1.2≤18446744073709551615):=⟨zqP (ztV l),zqO (ztV l)⟩
def refA:Option AZ→Bool×Int×Int
 |none=>(false,0,0)
 |some (.four n)=>(false,0,281470681743360+n)
 |some (.six hi lo)=>(true,hi,lo)
def refV (x:Bool×Int×Int):Value:= .agg #[.bool x.1,.int .u64 x.2.1,.int .u64 x.2.2]
theorem ziR (n:Int) (w:World) (h0:0≤n) (h1:n≤4294967295):
  Calls Tryz.prog 134 #[.int .u32 n] w fun e w'=>e= .returned (.agg #[.bool false,.int .u64 0,.int .u64 (281470681743360+n)])∧Below w.heap.size w w':=by
 go_enter Tryz.func134,Tryz.ntmps134
 go_wp2
 exact bodyPost_ret (v:= .agg #[.bool false,.int .u64 0,.int .u64 (281470681743360+n)]) (by simp [results,Tryz.results134,go_sem]) rfl ⟨rfl,(zzS _ _).alloc (zzR _) _⟩
theorem zqS (n:Int) (w:World) (h0:0≤n) (h1:n≤4294967295):
  Calls Tryz.prog 135 #[.iface 134 (.int .u32 n)] w fun e w'=>e= .returned (.agg #[.bool false,.int .u64 0,.int .u64 (281470681743360+n)])∧Below w.heap.size w w':=by
 have hta:=as44
 have hB:(w.alloc (.cells #[.bool false,.int .u64 0,.int .u64 0] 58)).heap[w.heap.size]? =some (.cells #[.bool false,.int .u64 0,.int .u64 0] 58 (0,0)):=heap_alloc_new w _
 have hg:w.heap.size<(w.alloc (.cells #[.bool false,.int .u64 0,.int .u64 0] 58)).heap.size:=by simp
 have hb:Below w.heap.size w (w.alloc (.cells #[.bool false,.int .u64 0,.int .u64 0] 58)):=(zzS _ w).alloc (zzR _) _
 have HB:=Lib.hid hB
 clear hB
 go_enter Tryz.func135,Tryz.ntmps135
 go_wp2_with fail
 generalize w.alloc (.cells #[.bool false,.int .u64 0,.int .u64 0] 58)=x1 at*
 refine (ziR n _ h0 h1).mono ?_
 rintro e x2 ⟨rfl,hb2⟩
 have HB2:Hid (x2.heap[w.heap.size]? =some (.cells #[.bool false,.int .u64 0,.int .u64 0] 58 (0,0))):=(hb2.block w.heap.size hg).trans HB.out
 have k0:x2.cell? ⟨w.heap.size,0,none⟩=some (.bool false):=by rw [cell_of_row x2 _ 0 _ _ _ HB2.out];rfl
 have k1:x2.cell? ⟨w.heap.size,1,none⟩=some (.int .u64 0):=by rw [cell_of_row x2 _ 1 _ _ _ HB2.out];rfl
 have k2:x2.cell? ⟨w.heap.size,2,none⟩=some (.int .u64 0):=by rw [cell_of_row x2 _ 2 _ _ _ HB2.out];rfl
 have f0:=zaI HB2.out 0
 have f1:=zaI HB2.out 1
 have f2:=zaI HB2.out 2
 have hc2:Below w.heap.size w x2:=hb.trans (hb2.mono hb.size)
 clear hb2 hta
 go_wp2
 exact bodyPost_ret (v:= .agg #[.bool false,.int .u64 0,.int .u64 (281470681743360+n)]) (by simp [results,Tryz.results135,go_sem,k0,k1,k2]) rfl ⟨rfl,((hc2.setCell (zzR _) _).setCell (zzR _) _).setCell (zzR _) _⟩
theorem zrU (hi lo:Int) (w:World):
  Calls Tryz.prog 135 #[.iface 144 (.agg #[.int .u64 hi,.int .u64 lo])] w fun e w'=>e= .returned (.agg #[.bool true,.int .u64 hi,.int .u64 lo])∧Below w.heap.size w w':=by
 have hta:=as64
 have htb:=as66
 go_enter Tryz.func135,Tryz.ntmps135
 go_wp2
 exact bodyPost_ret (v:= .agg #[.bool true,.int .u64 hi,.int .u64 lo]) (by simp [results,Tryz.results135,go_sem]) rfl ⟨rfl,by first|exact (((((zzS _ w).alloc (zzR _) _).alloc (by simp) _).setCell (zzR _) _).setCell (zzR _) _).setCell (zzR _) _|exact ((zzS _ w).alloc (zzR _) _).alloc (by simp) _⟩
theorem zrR (w:World):
  Calls Tryz.prog 135 #[.nilIface] w fun e w'=>e= .returned (.agg #[.bool false,.int .u64 0,.int .u64 0])∧Below w.heap.size w w':=by
 have hta:=asN4
 have htb:=asN6
 go_enter Tryz.func135,Tryz.ntmps135
 go_wp2
 exact bodyPost_ret (v:= .agg #[.bool false,.int .u64 0,.int .u64 0]) (by simp [results,Tryz.results135,go_sem]) rfl ⟨rfl,by first|exact (((((zzS _ w).alloc (zzR _) _).alloc (by simp) _).setCell (zzR _) _).setCell (zzR _) _).setCell (zzR _) _|exact ((zzS _ w).alloc (zzR _) _).alloc (by simp) _⟩
theorem zuY (x:Option AZ) (w:World) (h: ∀a,x=some a→a.Ok):
  Calls Tryz.prog 135 #[optV x] w fun e w'=>e= .returned (refV (refA x))∧Below w.heap.size w w':=by
 match x with
 |none=>exact zrR w
 |some (.four n)=>exact zqS n w (h _ rfl).1 (h _ rfl).2
 |some (.six hi lo)=>exact zrU hi lo w
def pa (c:Bool) (l:List Int):List Int:=if c then l else []
end
end
section
open Go.RowKit
theorem zdC {x y z:World} (h:Below x.heap.size x y) (k:Below y.heap.size y z):Below x.heap.size x z:=h.trans (k.mono h.size)
end
end Go.Proofs.YtmjappnpedjlnaaGreatDoor
