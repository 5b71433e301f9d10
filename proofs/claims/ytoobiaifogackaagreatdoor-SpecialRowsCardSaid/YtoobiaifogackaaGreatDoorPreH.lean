/-
  Layer 7: the document's Covers, Of: what they come to.
-/
import Derived.Test.YtoobiaifogackaaGreatDoorPreG
import Derived.Test.YtoobiaifogackaaGreatDoorTriD
namespace Go.Proofs.YtoobiaifogackaaGreatDoor
open Go.RowKit


theorem bit_of (A : Nat) {n i : Nat} (hn : n ≤ 128) (hi : i < 128) : bitW (ofW A n) i = if i < n then bitW A i else 0 := by
  split
  · rename_i h
    have e1 := qt_short (n := i + 1) (by omega) hn (qt_of A n)
    have e2 := qt_short (n := i) (by omega) hn (qt_of A n)
    rw [qt_succ _ _ hi, qt_succ _ _ hi] at e1
    omega
  · rename_i h
    exact (rt_bits hn).1 (rt_of A n) i (by omega) hi
def hiAcc (M i : Nat) : Nat := qt M (min i 64)
def loAcc (M i : Nat) : Nat := qt M i % 2 ^ (i - 64)
theorem hiAcc_lo {M i : Nat} (h : i < 64) : hiAcc M (i + 1) = 2 * hiAcc M i + bitW M i := by
  unfold hiAcc; rw [Nat.min_eq_left (by omega), Nat.min_eq_left (by omega), qt_succ _ _ (by omega)]
theorem hiAcc_hi {M i : Nat} (h : 64 ≤ i) : hiAcc M (i + 1) = hiAcc M i := by
  unfold hiAcc; rw [Nat.min_eq_right (by omega), Nat.min_eq_right (by omega)]
theorem loAcc_lo {M i : Nat} (h : i < 64) : loAcc M (i + 1) = loAcc M i := by
  unfold loAcc; rw [show i + 1 - 64 = 0 from by omega, show i - 64 = 0 from by omega]; simp; omega
theorem loAcc_hi {M i : Nat} (h : 64 ≤ i) (h2 : i < 128) : loAcc M (i + 1) = 2 * loAcc M i + bitW M i := by
  unfold loAcc
  rw [show i + 1 - 64 = (i - 64) + 1 from by omega, Nat.pow_succ, qt_succ _ _ h2]
  have hb := bitW_two M i
  have hp : 0 < 2 ^ (i - 64) := Nat.pow_pos (by decide)
  generalize qt M i = q
  generalize 2 ^ (i - 64) = d at *
  have e : q = d * (q / d) + q % d := (Nat.div_add_mod q d).symm
  have hl : q % d < d := Nat.mod_lt _ hp
  generalize q % d = r at *
  generalize q / d = c at *
  rw [e]
  rw [show 2 * (d * c + r) + bitW M i = (2 * r + bitW M i) + (d * 2) * c from by rw [Nat.mul_add, Nat.mul_comm d 2, Nat.mul_assoc]; omega, Nat.add_mul_mod_self_left, Nat.mod_eq_of_lt (by omega)]
theorem qt_bound {M i : Nat} (h : M < 2 ^ 128) (hi : i ≤ 128) : qt M i < 2 ^ i := by
  unfold qt
  rw [Nat.div_lt_iff_lt_mul (Nat.pow_pos (by decide)), ← Nat.pow_add, show i + (128 - i) = 128 from by omega]; exact h
theorem hiAcc_bound {M i : Nat} (h : M < 2 ^ 128) (hi : i < 64) : 2 * hiAcc M i + 1 < 18446744073709551616 := by
  have := qt_bound h (i := min i 64) (by omega)
  have h2 : 2 ^ (min i 64) ≤ 2 ^ 63 := Nat.pow_le_pow_right (by decide) (by omega)
  unfold hiAcc; omega
theorem loAcc_bound {M i : Nat} (h : 64 ≤ i) (hi : i < 128) : 2 * loAcc M i + 1 < 18446744073709551616 := by
  have : qt M i % 2 ^ (i - 64) < 2 ^ (i - 64) := Nat.mod_lt _ (Nat.pow_pos (by decide))
  have h2 : 2 ^ (i - 64) ≤ 2 ^ 63 := Nat.pow_le_pow_right (by decide) (by omega)
  unfold loAcc; omega
theorem acc_end (M : Nat) : hiAcc M 128 = hiN M ∧ loAcc M 128 = loN M := by
  constructor
  · show M / 2 ^ (128 - min 128 64) = _; rfl
  · show M / 2 ^ (128 - 128) % 2 ^ (128 - 64) = _; rw [show 128 - 128 = 0 from rfl, Nat.pow_zero, Nat.div_one]; rfl
theorem acc_start (M : Nat) (h : M < 2 ^ 128) : hiAcc M 0 = 0 ∧ loAcc M 0 = 0 := by
  constructor
  · exact qt_lt h
  · show qt M 0 % 2 ^ (0 - 64) = 0; rw [qt_lt h]
theorem ofW_lt {A n : Nat} (h : A < 2 ^ 128) : ofW A n < 2 ^ 128 := Nat.lt_of_le_of_lt (ofW_le A n) h

theorem keep_of (w : World) (a b c x y z : Value) (t t' : TypeId) : ∀ W, Below (w.heap.size + 2) ((w.alloc (.cells #[a, b, c] t)).alloc (.cells #[x, y, z] t')) W →
    (W.cell? ⟨w.heap.size, 0, none⟩ = some a ∧ W.cell? ⟨w.heap.size, 1, none⟩ = some b ∧ W.cell? ⟨w.heap.size, 2, none⟩ = some c) ∧ W.cell? ⟨w.heap.size + 1, 0, none⟩ = some x ∧ W.cell? ⟨w.heap.size + 1, 1, none⟩ = some y ∧ W.cell? ⟨w.heap.size + 1, 2, none⟩ = some z :=
  keep_box33 w a b c x y z t t'
theorem fz_of {w W : World} {a b : Obj} (h : Below (w.heap.size + 2) ((w.alloc a).alloc b) W) : ∀ o, W.frozen? ⟨w.heap.size + 1, o, none⟩ = ((w.alloc a).alloc b).frozen? ⟨w.heap.size + 1, o, none⟩ := fun o => h.frozen (p := ⟨w.heap.size + 1, o, none⟩) (by show w.heap.size + 1 < _; omega)
theorem row3 {W : World} {b : Nat} {x y z : Value} {t : TypeId} (h : W.heap[b]? = some (.cells #[x, y, z] t)) :
    (W.cell? ⟨b, 0, none⟩ = some x ∧ W.cell? ⟨b, 1, none⟩ = some y ∧ W.cell? ⟨b, 2, none⟩ = some z) ∧ W.frozen? ⟨b, 0, none⟩ = false ∧ W.frozen? ⟨b, 1, none⟩ = false ∧ W.frozen? ⟨b, 2, none⟩ = false :=
  ⟨⟨cell_row h 0, cell_row h 1, cell_row h 2⟩, frozen_row h 0, frozen_row h 1, frozen_row h 2⟩
end Go.Proofs.YtoobiaifogackaaGreatDoor
