/-
  What the law CacheLast leans on, and its walk (9 of 21).
-/
import Derived.Deep.DeepCutAuto
import Derived.Defers
import Derived.Recover
import Derived.Deep.OwnRows
import Derived.Test.YtkiehdigpchebaaGreatDoorCacheLastPkH
import Derived.Test.YtkiehdigpchebaaGreatDoorCacheLastPkG
import Derived.Test.YtkiehdigpchebaaGreatDoorCacheLastPkB
namespace Go.Proofs.YtkiehdigpchebaaGreatDoor
set_option maxRecDepth 100000
set_option maxHeartbeats 16000000
section
section
open Go.RowKit
inductive AZ where
 |four (n:Int)
 |six (hi lo:Int)
def AZ.val:AZ→Value
 | .four n=> .iface 36 (.int .u32 n)
 | .six hi lo=> .iface 111 (.agg #[.int .u64 hi,.int .u64 lo])
def AZ.make (is:Bool) (hi lo:Int):AZ:=if is then .six hi lo else .four (lo % 4294967296)
theorem zlP (x:Int):IntKind.u32.wrap x=x % 4294967296:=by rw [IntKind.wrap_u32]
theorem zhT (is:Bool) (hi lo:Int) (w:World):
  Calls Tryz.prog 27 #[.bool is,.int .u64 hi,.int .u64 lo] w fun e w'=>e= .returned (AZ.make is hi lo).val∧w=w':=by
 cases is with
 |true=>
  go_enter Tryz.func27,Tryz.ntmps27
  go_wp2
  go_ret
  exact ⟨rfl,rfl⟩
 |false=>
  have a:=zlP lo
  go_enter Tryz.func27,Tryz.ntmps27
  go_wp2
  go_ret
  exact ⟨rfl,rfl⟩
def cmpI (x y:Int):Int:=if x<y then -1 else if y<x then 1 else 0
def eqB:AZ→AZ→Bool
 | .four m,.four n=>m==n
 | .six h l,.six a f=>h==a&&l==f
 |_,_=>false
theorem zmU (x y:AZ):eqB x y=true↔x=y:=by
 cases x<;>cases y<;>simp [eqB]
theorem eq44 (m n:Int) (W:World):(Op.equal 38 (.iface 36 (.int .u32 m)) (.iface 36 (.int .u32 n))).run Tryz.prog W= .ok (m==n) W:=by kernel_rfl
theorem eq46 (n:Int) (v:Value) (W:World):(Op.equal 38 (.iface 36 (.int .u32 n)) (.iface 111 v)).run Tryz.prog W= .ok false W:=by kernel_rfl
theorem eq64 (n:Int) (v:Value) (W:World):(Op.equal 38 (.iface 111 v) (.iface 36 (.int .u32 n))).run Tryz.prog W= .ok false W:=by kernel_rfl
theorem eq66' (u v:Value) (W:World):(Op.equal 38 (.iface 111 u) (.iface 111 v)).run Tryz.prog W=(Op.equalIn 9999 111 u v).run Tryz.prog W:=by kernel_rfl
theorem eq66 (h l f a:Int) (W:World):(Op.equal 38 (.iface 111 (.agg #[.int .u64 h,.int .u64 l])) (.iface 111 (.agg #[.int .u64 f,.int .u64 a]))).run Tryz.prog W= .ok (h==f&&l==a) W:=by
 rw [eq66',run_equalIn_struct W 9998 111 _ _ (by kernel_rfl) (by kernel_rfl)]
 simp [Program.fieldsOf,Tryz.underlying111,Op.eqFields,go_sem,part,Tryz.sizeOf70,Tryz.isAgg70,Tryz.underlying70]
 by_cases g:h=f<;>by_cases i:l=a<;>simp [g,i]
theorem zlT (x y:AZ): ∀W:World,(binOp .eql 38 x.val y.val).run Tryz.prog W= .ok (.bool (eqB x y)) W:=by
 intro W
 cases x with
 |four m=>
  cases y with
  |four n=>
   show ((Op.equal _ _ _>>=fun b=>pure (Value.bool b)):Sem Value).run _ _=_
   rw [Sem.run_bind,AZ.val,AZ.val,eq44];rfl
  |six h l=>
   show ((Op.equal _ _ _>>=fun b=>pure (Value.bool b)):Sem Value).run _ _=_
   rw [Sem.run_bind,AZ.val,AZ.val,eq46];rfl
 |six h l=>
  cases y with
  |four n=>
   show ((Op.equal _ _ _>>=fun b=>pure (Value.bool b)):Sem Value).run _ _=_
   rw [Sem.run_bind,AZ.val,AZ.val,eq64];rfl
  |six f a=>
   show ((Op.equal _ _ _>>=fun b=>pure (Value.bool b)):Sem Value).run _ _=_
   rw [Sem.run_bind,AZ.val,AZ.val,eq66];rfl
theorem zlA (x:AZ): ∀W:World,(binOp .neq 38 x.val x.val).run Tryz.prog W= .ok (.bool false) W:=by
 intro W
 have h:=zlT x x W
 rw [(zmU x x).2 rfl] at h
 have g: ∀(a b:Value),(binOp .eql 38 x.val x.val)=(Op.equal 38 x.val x.val>>=fun b=>pure (Value.bool b)):=fun _ _=>by cases x<;>rfl
 have i:(binOp .neq 38 x.val x.val)=(Op.equal 38 x.val x.val>>=fun b=>pure (Value.bool (!b))):=by cases x<;>rfl
 rw [g .nilIface .nilIface,Sem.run_bind] at h
 rw [i,Sem.run_bind]
 cases f:(Op.equal 38 x.val x.val).run Tryz.prog W with
 |ok b w'=>
  rw [f] at h
  cases b
  ·cases h
  ·cases h;rfl
 |halt k w'=>rw [f] at h;cases h
theorem zdK (x:AZ): ∀(p q:Operand) (W:World),(eqGuard .neq 38 p q x.val x.val).run Tryz.prog W= .ok () W:=by
 intro p q W
 cases x<;>rfl
end
end
section
open Go.RowKit
theorem zaQ {x y z:World} (h:Below x.heap.size x y) (k:Below y.heap.size y z):Below x.heap.size x z:=h.trans (k.mono h.size)
end
end Go.Proofs.YtkiehdigpchebaaGreatDoor
