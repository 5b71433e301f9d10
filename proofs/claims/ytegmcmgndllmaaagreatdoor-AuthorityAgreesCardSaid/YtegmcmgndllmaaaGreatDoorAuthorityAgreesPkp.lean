/-
  What the law AuthorityAgrees leans on, and its walk (41 of 43).
-/
import Derived.Test.YtegmcmgndllmaaaGreatDoorAuthorityAgreesPkQ
import Derived.Test.YtegmcmgndllmaaaGreatDoorAuthorityAgreesPko
import Derived.Test.YtegmcmgndllmaaaGreatDoorAuthorityAgreesPkR
namespace Go.Proofs.YtegmcmgndllmaaaGreatDoor
set_option maxRecDepth 100000
set_option maxHeartbeats 16000000
section
open Go.RowKit
theorem ygH (x y:HZ) (h:x≠ .none): ∀(p q:Operand) (W:World),(eqGuard .eql 24 p q x.val y.val).run Tryz.prog W= .ok () W:=by
 intro p q W
 match x,y,h with
 | .name _,.none,_=>rfl
 | .name _,.name _,_=>rfl
 | .name _,.addr (.four _),_=>rfl
 | .name _,.addr (.six _ _),_=>rfl
 | .addr (.four _),.none,_=>rfl
 | .addr (.four _),.name _,_=>rfl
 | .addr (.four _),.addr (.four _),_=>rfl
 | .addr (.four _),.addr (.six _ _),_=>rfl
 | .addr (.six _ _),.none,_=>rfl
 | .addr (.six _ _),.name _,_=>rfl
 | .addr (.six _ _),.addr (.four _),_=>rfl
 | .addr (.six _ _),.addr (.six _ _),_=>rfl
theorem sameN (s:ByteArray) (W:World):(Op.equal 24 (.iface 104 (.string s)) (.iface 104 (.string s))).run Tryz.prog W= .ok (s==s) W:=by kernel_rfl
theorem same4 (n:Int) (W:World):(Op.equal 24 (.iface 168 (.int .u32 n)) (.iface 168 (.int .u32 n))).run Tryz.prog W= .ok (n==n) W:=by kernel_rfl
theorem same6' (u v:Value) (W:World):(Op.equal 24 (.iface 173 u) (.iface 173 v)).run Tryz.prog W=(Op.equalIn 9999 173 u v).run Tryz.prog W:=by kernel_rfl
theorem same6 (h l:Int) (W:World):(Op.equal 24 (.iface 173 (.agg #[.int .u64 h,.int .u64 l])) (.iface 173 (.agg #[.int .u64 h,.int .u64 l]))).run Tryz.prog W= .ok true W:=by
 rw [same6',run_equalIn_struct W 9998 173 _ _ (by kernel_rfl) (by kernel_rfl)]
 simp [Program.fieldsOf,Tryz.underlying173,Op.eqFields,go_sem,part,Tryz.sizeOf59,Tryz.isAgg59,Tryz.underlying59]
theorem zxN (x:HZ) (h:x≠ .none): ∀W:World,(binOp .eql 24 x.val x.val).run Tryz.prog W= .ok (.bool true) W:=by
 intro W
 match x,h with
 | .name l,_=>
  show ((Op.equal _ _ _>>=fun b=>pure (Value.bool b)):Sem Value).run _ _=_
  rw [Sem.run_bind,HZ.val,sameN,show ((ByteArray.mk l.toArray)==(ByteArray.mk l.toArray))=true by show (l.toArray==l.toArray)=true;simp]
  rfl
 | .addr (.four n),_=>
  show ((Op.equal _ _ _>>=fun b=>pure (Value.bool b)):Sem Value).run _ _=_
  rw [Sem.run_bind,HZ.val,AZ.val,same4]
  simp
 | .addr (.six hi lo),_=>
  show ((Op.equal _ _ _>>=fun b=>pure (Value.bool b)):Sem Value).run _ _=_
  rw [Sem.run_bind,HZ.val,AZ.val,same6]
  rfl
end
end Go.Proofs.YtegmcmgndllmaaaGreatDoor
