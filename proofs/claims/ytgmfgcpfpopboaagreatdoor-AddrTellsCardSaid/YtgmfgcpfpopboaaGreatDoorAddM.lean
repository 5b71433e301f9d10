/-
  Layer 6: whether two addresses are the same, as a program's '==' tells it.
-/
import Derived.Test.YtgmfgcpfpopboaaGreatDoorAddI
import Derived.Test.YtgmfgcpfpopboaaGreatDoorSixN
namespace Go.Proofs.YtgmfgcpfpopboaaGreatDoor
open Go.RowKit


theorem make_ok (is : Bool) (hi lo : Int) (h0 : 0 ≤ hi) (h1 : hi ≤ 18446744073709551615) (l0 : 0 ≤ lo) (l1 : lo ≤ 18446744073709551615) : (AZ.make is hi lo).Ok := by
  cases is with
  | true => exact ⟨⟨h0, h1⟩, l0, l1⟩
  | false => exact ⟨by omega, by omega⟩
def eqB : AZ → AZ → Bool
  | .four m, .four n => m == n
  | .six h l, .six h' l' => h == h' && l == l'
  | _, _ => false
theorem eqB_iff (x y : AZ) : eqB x y = true ↔ x = y := by
  cases x <;> cases y <;> simp [eqB]
theorem eqB_cmp (x y : AZ) : (cmpZ x y = -1 ∨ cmpZ x y = 1) ∧ eqB x y = false ∨ cmpZ x y = 0 ∧ eqB x y = true := by
  have h1 := cmpZ_in x y
  by_cases h : x = y
  · exact .inr ⟨(cmpZ_zero x y).2 h, (eqB_iff x y).2 h⟩
  · have h2 : cmpZ x y ≠ 0 := fun e => h ((cmpZ_zero x y).1 e)
    have h3 : eqB x y = false := by
      cases e : eqB x y with
      | false => rfl
      | true => exact absurd ((eqB_iff x y).1 e) h
    exact .inl ⟨by omega, h3⟩
theorem eqGuard_eq (x y : AZ) : ∀ (p q : Operand) (W : World), (eqGuard .eql 25 p q x.val y.val).run Tryz.prog W = .ok () W := by
  intro p q W
  cases x <;> cases y <;> rfl
theorem eq44 (m n : Int) (W : World) : (Op.equal 25 (.iface 31 (.int .u32 m)) (.iface 31 (.int .u32 n))).run Tryz.prog W = .ok (m == n) W := by kernel_rfl
theorem eq46 (n : Int) (v : Value) (W : World) : (Op.equal 25 (.iface 31 (.int .u32 n)) (.iface 46 v)).run Tryz.prog W = .ok false W := by kernel_rfl
theorem eq64 (n : Int) (v : Value) (W : World) : (Op.equal 25 (.iface 46 v) (.iface 31 (.int .u32 n))).run Tryz.prog W = .ok false W := by kernel_rfl
theorem eq66' (u v : Value) (W : World) : (Op.equal 25 (.iface 46 u) (.iface 46 v)).run Tryz.prog W = (Op.equalIn 9999 46 u v).run Tryz.prog W := by kernel_rfl
theorem eq66 (h l h' l' : Int) (W : World) : (Op.equal 25 (.iface 46 (.agg #[.int .u64 h, .int .u64 l])) (.iface 46 (.agg #[.int .u64 h', .int .u64 l']))).run Tryz.prog W = .ok (h == h' && l == l') W := by
  rw [eq66', run_equalIn_struct W 9998 46 _ _ (by kernel_rfl) (by kernel_rfl)]
  simp [Program.fieldsOf, Tryz.underlying46, Op.eqFields, go_sem, part, Tryz.sizeOf22, Tryz.isAgg22, Tryz.underlying22]
  by_cases e1 : h = h' <;> by_cases e2 : l = l' <;> simp [e1, e2]
theorem binOp_eq (x y : AZ) : ∀ W : World, (binOp .eql 25 x.val y.val).run Tryz.prog W = .ok (.bool (eqB x y)) W := by
  intro W
  cases x with
  | four m =>
    cases y with
    | four n =>
      show ((Op.equal _ _ _ >>= fun b => pure (Value.bool b)) : Sem Value).run _ _ = _
      rw [Sem.run_bind, AZ.val, AZ.val, eq44]; rfl
    | six h l =>
      show ((Op.equal _ _ _ >>= fun b => pure (Value.bool b)) : Sem Value).run _ _ = _
      rw [Sem.run_bind, AZ.val, AZ.val, eq46]; rfl
  | six h l =>
    cases y with
    | four n =>
      show ((Op.equal _ _ _ >>= fun b => pure (Value.bool b)) : Sem Value).run _ _ = _
      rw [Sem.run_bind, AZ.val, AZ.val, eq64]; rfl
    | six h' l' =>
      show ((Op.equal _ _ _ >>= fun b => pure (Value.bool b)) : Sem Value).run _ _ = _
      rw [Sem.run_bind, AZ.val, AZ.val, eq66]; rfl
end Go.Proofs.YtgmfgcpfpopboaaGreatDoor
