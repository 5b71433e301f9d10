/-
  Layer 7: wide numbers, bit by bit; what a prefix has, as numbers.
-/
import Derived.Test.YtoobiaifogackaaGreatDoorChecked
import Derived.WalkKit
import Derived.WalkLawsBesides
import Derived.BigQuiet
import Derived.Deep.QuietTactic
import Derived.Deep.RegionHeld3
import Derived.Deep.DeepCutAuto
import Derived.Lib.Hide
import Derived.Lib.OthersKept
namespace Go.Proofs.YtoobiaifogackaaGreatDoor
open Go.RowKit


def wideN (hi lo : Nat) : Nat := hi * 2 ^ 64 + lo
def bitW (W i : Nat) : Nat := W / 2 ^ (127 - i) % 2
/-- the number of the prefix of the length n -/
def ofW (W n : Nat) : Nat := W / 2 ^ (128 - n) * 2 ^ (128 - n)
def rightW (W n : Nat) : Prop := n ≤ 128 ∧ W % 2 ^ (128 - n) = 0
def hasW (P n A : Nat) : Prop := rightW P n ∧ P / 2 ^ (128 - n) = A / 2 ^ (128 - n)
def coversW (P n Q m : Nat) : Prop := rightW P n ∧ rightW Q m ∧ n ≤ m ∧ P / 2 ^ (128 - n) = Q / 2 ^ (128 - n)

theorem wideN_lt {hi lo : Nat} (h : hi < 2 ^ 64) (l : lo < 2 ^ 64) : wideN hi lo < 2 ^ 128 := by unfold wideN; omega
theorem wideN_hi {hi lo : Nat} (l : lo < 2 ^ 64) : wideN hi lo / 2 ^ 64 = hi := by unfold wideN; omega
theorem wideN_lo {hi lo : Nat} (l : lo < 2 ^ 64) : wideN hi lo % 2 ^ 64 = lo := by unfold wideN; omega
theorem bit_hi {hi lo : Nat} (l : lo < 2 ^ 64) (i : Nat) (h : i < 64) : hi / 2 ^ (63 - i) % 2 = bitW (wideN hi lo) i := by
  unfold bitW
  rw [show 127 - i = 64 + (63 - i) from by omega, Nat.pow_add, ← Nat.div_div_eq_div_mul, wideN_hi l]
theorem bit_lo {hi lo : Nat} (i : Nat) (h : 64 ≤ i) (h2 : i < 128) : lo / 2 ^ (127 - i) % 2 = bitW (wideN hi lo) i := by
  unfold bitW wideN
  have e : hi * 2 ^ 64 = 2 ^ (127 - i) * (hi * 2 ^ (i - 64) * 2) := by
    rw [show (2 : Nat) ^ 64 = 2 ^ (127 - i) * (2 ^ (i - 64) * 2) from by rw [← Nat.pow_succ, ← Nat.pow_add]; congr 1; omega]
    rw [Nat.mul_left_comm, Nat.mul_assoc]
  rw [e, Nat.add_comm, Nat.add_mul_div_left _ _ (Nat.pow_pos (by decide)), Nat.add_mul_mod_self_right]
theorem bitW_test (W i : Nat) : (bitW W i = 1) = (W.testBit (127 - i) = true) := by
  unfold bitW
  rw [Nat.testBit_eq_decide_div_mod_eq, decide_eq_true_iff]
theorem bitW_two (W i : Nat) : bitW W i = 0 ∨ bitW W i = 1 := by unfold bitW; omega
theorem bitW_eq (W A i : Nat) : bitW W i = bitW A i ↔ W.testBit (127 - i) = A.testBit (127 - i) := by
  have h1 := bitW_two W i
  have h2 := bitW_two A i
  have e1 := bitW_test W i
  have e2 := bitW_test A i
  cases hb : W.testBit (127 - i) <;> cases ha : A.testBit (127 - i) <;> rw [hb] at e1 <;> rw [ha] at e2 <;> simp at e1 e2 ⊢ <;> omega
theorem bitW_zero (W i : Nat) : bitW W i = 0 ↔ W.testBit (127 - i) = false := by
  have h1 := bitW_two W i
  have e1 := bitW_test W i
  cases hb : W.testBit (127 - i) <;> rw [hb] at e1 <;> simp at e1 ⊢ <;> omega

theorem right_bits (W n : Nat) (hn : n ≤ 128) : (∀ i, n ≤ i → i < 128 → bitW W i = 0) ↔ W % 2 ^ (128 - n) = 0 := by
  constructor
  · intro h
    apply Nat.eq_of_testBit_eq
    intro j
    rw [Nat.testBit_mod_two_pow, Nat.zero_testBit]
    by_cases hj : j < 128 - n
    · have := (bitW_zero W (127 - j)).1 (h (127 - j) (by omega) (by omega))
      rw [show 127 - (127 - j) = j from by omega] at this
      rw [this, Bool.and_false]
    · rw [decide_eq_false hj, Bool.false_and]
  · intro h i h1 h2
    rw [bitW_zero]
    have := congrArg (Nat.testBit · (127 - i)) h
    simp only [Nat.testBit_mod_two_pow, Nat.zero_testBit] at this
    rwa [decide_eq_true (show 127 - i < 128 - n from by omega), Bool.true_and] at this
theorem has_bits (P A n : Nat) (hP : P < 2 ^ 128) (hA : A < 2 ^ 128) (hn : n ≤ 128) : (∀ i, i < n → bitW P i = bitW A i) ↔ P / 2 ^ (128 - n) = A / 2 ^ (128 - n) := by
  constructor
  · intro h
    apply Nat.eq_of_testBit_eq
    intro j
    rw [Nat.testBit_div_two_pow, Nat.testBit_div_two_pow]
    by_cases hj : j + (128 - n) < 128
    · have := (bitW_eq P A (127 - (j + (128 - n)))).1 (h _ (by omega))
      rwa [show 127 - (127 - (j + (128 - n))) = j + (128 - n) from by omega] at this
    · have hp : (2 : Nat) ^ 128 ≤ 2 ^ (j + (128 - n)) := Nat.pow_le_pow_right (by decide) (by omega)
      rw [Nat.testBit_lt_two_pow (Nat.lt_of_lt_of_le hP hp), Nat.testBit_lt_two_pow (Nat.lt_of_lt_of_le hA hp)]
  · intro h i hi
    rw [bitW_eq]
    have := congrArg (Nat.testBit · (n - 1 - i)) h
    simp only [Nat.testBit_div_two_pow] at this
    rwa [show n - 1 - i + (128 - n) = 127 - i from by omega] at this
theorem bit_step (X i : Nat) (h : i < 128) : X / 2 ^ (128 - (i + 1)) = 2 * (X / 2 ^ (128 - i)) + bitW X i := by
  unfold bitW
  rw [show 128 - (i + 1) = 127 - i from by omega, show 128 - i = (127 - i) + 1 from by omega, Nat.pow_succ, ← Nat.div_div_eq_div_mul]
  omega

theorem ofW_right (W n : Nat) (hn : n ≤ 128) : rightW (ofW W n) n := ⟨hn, Nat.mul_mod_left _ _⟩
theorem ofW_div (W n : Nat) : ofW W n / 2 ^ (128 - n) = W / 2 ^ (128 - n) := Nat.mul_div_cancel _ (Nat.pow_pos (by decide))
theorem ofW_has (W n : Nat) (hn : n ≤ 128) : hasW (ofW W n) n W := ⟨ofW_right W n hn, ofW_div W n⟩
theorem ofW_le (W n : Nat) : ofW W n ≤ W := Nat.div_mul_le_self _ _
theorem right_of {W n : Nat} (h : rightW W n) : ofW W n = W := by
  unfold ofW
  have := Nat.div_add_mod W (2 ^ (128 - n))
  rw [h.2, Nat.add_zero, Nat.mul_comm] at this
  exact this
/-- a shorter length of a number sees less -/
theorem div_short {P A n m : Nat} (hn : n ≤ m) (hm : m ≤ 128) (h : P / 2 ^ (128 - m) = A / 2 ^ (128 - m)) : P / 2 ^ (128 - n) = A / 2 ^ (128 - n) := by
  have e : (2 : Nat) ^ (128 - n) = 2 ^ (128 - m) * 2 ^ (m - n) := by rw [← Nat.pow_add]; congr 1; omega
  rw [e, ← Nat.div_div_eq_div_mul, ← Nat.div_div_eq_div_mul, h]
theorem ofW_short (W n m : Nat) (hn : n ≤ m) (hm : m ≤ 128) : ofW W m / 2 ^ (128 - n) = W / 2 ^ (128 - n) := div_short hn hm (ofW_div W m)
theorem covers_of {W n m : Nat} (hn : n ≤ 128) (hm : m ≤ 128) : coversW (ofW W n) n (ofW W m) m ↔ n ≤ m :=
  ⟨fun h => h.2.2.1, fun h => ⟨ofW_right W n hn, ofW_right W m hm, h, (ofW_div W n).trans (ofW_short W n m h hm).symm⟩⟩
theorem covers_has {A B n m : Nat} (hn : n ≤ 128) (hm : m ≤ 128) : coversW (ofW A n) n (ofW B m) m ↔ n ≤ m ∧ hasW (ofW A n) n B :=
  ⟨fun h => ⟨h.2.2.1, ofW_right A n hn, h.2.2.2.trans (ofW_short B n m h.2.2.1 hm)⟩, fun h => ⟨ofW_right A n hn, ofW_right B m hm, h.1, h.2.2.trans (ofW_short B n m h.1 hm).symm⟩⟩
theorem nests {P n Q m A : Nat} (hp : hasW P n A) (hq : hasW Q m A) : coversW P n Q m ∨ coversW Q m P n := by
  by_cases h : n ≤ m
  · exact .inl ⟨hp.1, hq.1, h, hp.2.trans (div_short h hq.1.1 hq.2).symm⟩
  · exact .inr ⟨hq.1, hp.1, by omega, hq.2.trans (div_short (by omega) hp.1.1 hp.2).symm⟩
theorem covers_keep {P n Q m A : Nat} (h : coversW P n Q m) (hq : hasW Q m A) : hasW P n A :=
  ⟨h.1, h.2.2.2.trans (div_short h.2.2.1 hq.1.1 hq.2)⟩

/-- the two halves of a prefix -/
theorem half_form {P k : Nat} (hk : k < 128) (h : rightW P k) : ∃ D x, 0 < D ∧ 2 ^ (127 - k) = D ∧ 2 ^ (128 - k) = 2 * D ∧ 2 ^ (128 - (k + 1)) = D ∧ P = 2 * D * x := by
  refine ⟨2 ^ (127 - k), P / 2 ^ (128 - k), Nat.pow_pos (by decide), rfl, ?_, ?_, ?_⟩
  · rw [show 128 - k = (127 - k) + 1 from by omega, Nat.pow_succ, Nat.mul_comm]
  · congr 1; omega
  · have e : (2 : Nat) ^ (128 - k) = 2 * 2 ^ (127 - k) := by rw [show 128 - k = (127 - k) + 1 from by omega, Nat.pow_succ, Nat.mul_comm]
    have := Nat.div_add_mod P (2 ^ (128 - k))
    rw [h.2, Nat.add_zero] at this
    rw [← e]
    exact this.symm
theorem half_right {P k : Nat} (hk : k < 128) (h : rightW P k) : rightW P (k + 1) ∧ rightW (P + 2 ^ (127 - k)) (k + 1) := by
  obtain ⟨D, x, h0, e1, e2, e3, rfl⟩ := half_form hk h
  unfold rightW
  rw [e1, e3]
  refine ⟨⟨by omega, ?_⟩, by omega, ?_⟩
  · rw [Nat.mul_comm 2 D, Nat.mul_assoc]; exact Nat.mul_mod_right _ _
  · rw [Nat.mul_comm 2 D, Nat.mul_assoc, Nat.add_mod_right]; exact Nat.mul_mod_right _ _
theorem half_div {P k : Nat} (hk : k < 128) (h : rightW P k) : P / 2 ^ (128 - (k + 1)) = 2 * (P / 2 ^ (128 - k)) ∧ (P + 2 ^ (127 - k)) / 2 ^ (128 - (k + 1)) = 2 * (P / 2 ^ (128 - k)) + 1 := by
  obtain ⟨D, x, h0, e1, e2, e3, rfl⟩ := half_form hk h
  rw [e1, e2, e3, Nat.mul_div_cancel_left x (by omega : 0 < 2 * D)]
  have e4 : 2 * D * x = D * (2 * x) := by rw [Nat.mul_comm 2 D, Nat.mul_assoc]
  rw [e4, Nat.mul_div_cancel_left _ h0, Nat.add_div_right _ h0, Nat.mul_div_cancel_left _ h0]
  exact ⟨rfl, rfl⟩
theorem half_any (A k : Nat) (hk : k < 128) : A / 2 ^ (128 - (k + 1)) = 2 * (A / 2 ^ (128 - k)) + bitW A k := bit_step A k hk
theorem half_has {P k A : Nat} (hk : k < 128) (h : rightW P k) :
    (hasW P k A ↔ hasW P (k + 1) A ∨ hasW (P + 2 ^ (127 - k)) (k + 1) A) ∧ ¬ (hasW P (k + 1) A ∧ hasW (P + 2 ^ (127 - k)) (k + 1) A) := by
  obtain ⟨r1, r2⟩ := half_right hk h
  obtain ⟨d1, d2⟩ := half_div hk h
  have da := half_any A k hk
  have hb := bitW_two A k
  unfold hasW
  rw [d1, d2, da]
  constructor
  · constructor
    · rintro ⟨_, e⟩
      rcases hb with hb | hb
      · exact .inl ⟨r1, by omega⟩
      · exact .inr ⟨r2, by omega⟩
    · rintro (⟨_, e⟩ | ⟨_, e⟩)
      · exact ⟨h, by omega⟩
      · exact ⟨h, by omega⟩
  · rintro ⟨⟨_, e1⟩, _, e2⟩
    omega
theorem half_bits {P k : Nat} (hk : k < 128) (h : rightW P k) : bitW P k = 0 ∧ bitW (P + 2 ^ (127 - k)) k = 1 := by
  obtain ⟨d1, d2⟩ := half_div hk h
  have a1 := half_any P k hk
  have a2 := half_any (P + 2 ^ (127 - k)) k hk
  have b2 := bitW_two (P + 2 ^ (127 - k)) k
  constructor
  · omega
  · omega
theorem half_short {P k : Nat} (hk : k < 128) (h : rightW P k) : (P + 2 ^ (127 - k)) / 2 ^ (128 - k) = P / 2 ^ (128 - k) := by
  obtain ⟨d1, d2⟩ := half_div hk h
  have a2 := half_any (P + 2 ^ (127 - k)) k hk
  have b2 := bitW_two (P + 2 ^ (127 - k)) k
  omega
theorem half_covers {P k : Nat} (hk : k < 128) (h : rightW P k) :
    coversW P k P (k + 1) ∧ coversW P k (P + 2 ^ (127 - k)) (k + 1) ∧ ¬ coversW P (k + 1) (P + 2 ^ (127 - k)) (k + 1) ∧ ¬ coversW (P + 2 ^ (127 - k)) (k + 1) P (k + 1) := by
  obtain ⟨r1, r2⟩ := half_right hk h
  obtain ⟨d1, d2⟩ := half_div hk h
  refine ⟨⟨h, r1, by omega, rfl⟩, ⟨h, r2, by omega, (half_short hk h).symm⟩, fun c => ?_, fun c => ?_⟩
  · have := c.2.2.2; omega
  · have := c.2.2.2; omega
end Go.Proofs.YtoobiaifogackaaGreatDoor
