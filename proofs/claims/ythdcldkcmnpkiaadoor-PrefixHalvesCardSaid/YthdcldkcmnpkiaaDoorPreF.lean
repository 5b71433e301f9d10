/-
  Layer 7: the document's Bit, Right, Has, Covers, Of: what they come to.
-/
import Derived.Test.YthdcldkcmnpkiaaDoorPreE
namespace Go.Proofs.YthdcldkcmnpkiaaDoor
open Go.RowKit


theorem div_two (X j : Nat) : X / 2 ^ j / 2 = X / 2 ^ (j + 1) := by rw [Nat.div_div_eq_div_mul, Nat.pow_succ]
theorem cast_half (x : Nat) : (x : Int) / 2 = ((x / 2 : Nat) : Int) := by omega
theorem cast_rest (x : Nat) : (x : Int) % 2 = ((x % 2 : Nat) : Int) := by omega
theorem rt_bits {W n : Nat} (hn : n ≤ 128) : rt W n ↔ ∀ i, n ≤ i → i < 128 → bitW W i = 0 := (right_bits W n hn).symm
end Go.Proofs.YthdcldkcmnpkiaaDoor
