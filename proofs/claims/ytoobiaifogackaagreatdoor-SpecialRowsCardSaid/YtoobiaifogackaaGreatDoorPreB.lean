/-
  Layer 7: ones, highest, '==' of prefixes: what they come to.
-/
import Derived.Test.YtoobiaifogackaaGreatDoorTriA
namespace Go.Proofs.YtoobiaifogackaaGreatDoor
open Go.RowKit


/-- a prefix, of a wide number -/
def pfV (hi lo : Nat) (n : Int) : Value := .agg #[.int .u64 (hi : Int), .int .u64 (lo : Int), .int .i64 n]
def hiN (W : Nat) : Nat := W / 18446744073709551616
def loN (W : Nat) : Nat := W % 18446744073709551616
def pfW (W : Nat) (n : Int) : Value := pfV (hiN W) (loN W) n

theorem wide_split (W : Nat) : wideN (hiN W) (loN W) = W := by unfold wideN hiN loN; omega
theorem hiN_lt {W : Nat} (h : W < 2 ^ 128) : hiN W < 18446744073709551616 := by unfold hiN; omega
theorem loN_lt (W : Nat) : loN W < 18446744073709551616 := by unfold loN; omega
theorem hiN_wide {hi lo : Nat} (l : lo < 18446744073709551616) : hiN (wideN hi lo) = hi := by unfold wideN hiN; omega
theorem loN_wide {hi lo : Nat} (l : lo < 18446744073709551616) : loN (wideN hi lo) = lo := by unfold wideN loN; omega
theorem wide_lt {hi lo : Nat} (h : hi < 18446744073709551616) (l : lo < 18446744073709551616) : wideN hi lo < 2 ^ 128 := by unfold wideN; omega
theorem pfW_wide {hi lo : Nat} (l : lo < 18446744073709551616) (n : Int) : pfW (wideN hi lo) n = pfV hi lo n := by unfold pfW; rw [hiN_wide l, loN_wide l]
theorem wide_inj {W P : Nat} (h1 : hiN W = hiN P) (h2 : loN W = loN P) : W = P := by rw [← wide_split W, ← wide_split P, h1, h2]

def onesN (k : Nat) : Nat := 2 ^ 64 - 2 ^ (64 - k)
theorem pow_split {k : Nat} (h : k ≤ 64) : 2 ^ k * 2 ^ (64 - k) = 18446744073709551616 := by rw [← Nat.pow_add, show k + (64 - k) = 64 from by omega]
theorem onesN_lt (k : Nat) : onesN k < 18446744073709551616 := by
  have : 0 < 2 ^ (64 - k) := Nat.pow_pos (by decide)
  unfold onesN; omega
theorem full_div {k : Nat} (h : k ≤ 64) : 18446744073709551615 / 2 ^ k = 2 ^ (64 - k) - 1 := by
  have e := pow_split h
  have p1 : 0 < 2 ^ k := Nat.pow_pos (by decide)
  have p2 : 0 < 2 ^ (64 - k) := Nat.pow_pos (by decide)
  generalize 2 ^ k = a at *
  generalize 2 ^ (64 - k) = b at *
  obtain ⟨c, rfl⟩ : ∃ c, b = c + 1 := ⟨b - 1, by omega⟩
  rw [Nat.mul_add, Nat.mul_one] at e
  rw [show 18446744073709551615 = a * c + (a - 1) from by omega, Nat.mul_add_div p1, Nat.div_eq_of_lt (by omega)]
  omega
theorem xor64u (n : Nat) (h1 : n ≤ 18446744073709551615) : bits .xor .u64 IntKind.u64.max (n : Int) = ((18446744073709551615 - n : Nat) : Int) := by
  have ha : n < 2 ^ 64 := by omega
  have e1 : BitVec.ofInt 64 18446744073709551615 = BitVec.allOnes 64 := by decide
  show IntKind.u64.wrap (((BitVec.ofInt 64 18446744073709551615) ^^^ (BitVec.ofInt 64 (n : Int))).toNat : Int) = _
  rw [e1, BitVec.allOnes_xor, BitVec.toNat_not, BitVec.ofInt_natCast, BitVec.toNat_ofNat, Nat.mod_eq_of_lt ha, IntKind.wrap_u64]
  omega
theorem ones_val {k : Nat} (h : k ≤ 64) : bits .xor .u64 IntKind.u64.max ((18446744073709551615 : Int) / 2 ^ k) = (onesN k : Int) := by
  have e : ((18446744073709551615 : Int) / 2 ^ k) = ((18446744073709551615 / 2 ^ k : Nat) : Int) := by simp
  have p2 : 0 < 2 ^ (64 - k) := Nat.pow_pos (by decide)
  have p3 : 2 ^ (64 - k) ≤ 2 ^ 64 := Nat.pow_le_pow_right (by decide) (by omega)
  rw [e, full_div h, xor64u _ (by omega)]
  unfold onesN
  congr 1; omega
theorem mask_val (x k : Nat) (hx : x < 18446744073709551616) : bits .and .u64 (x : Int) (onesN k : Int) = ((x / 2 ^ (64 - k) * 2 ^ (64 - k) : Nat) : Int) := by
  rw [u64_and_nat x (onesN k) hx (onesN_lt k)]
  congr 1
  have hk : onesN k = (2 ^ (64 - (64 - k)) - 1) * 2 ^ (64 - k) := by
    have := pow_split (k := 64 - (64 - k)) (by omega)
    rw [show 64 - (64 - (64 - k)) = 64 - k from by omega] at this
    rw [Nat.sub_mul, this, Nat.one_mul]; rfl
  apply Nat.eq_of_testBit_eq
  intro j
  rw [Nat.testBit_and, hk, Nat.testBit_mul_two_pow, Nat.testBit_mul_two_pow, Nat.testBit_two_pow_sub_one, Nat.testBit_div_two_pow]
  by_cases h : 64 - k ≤ j
  · rw [show j - (64 - k) + (64 - k) = j from by omega]
    by_cases h2 : j < 64
    · simp [h, show j - (64 - k) < 64 - (64 - k) from by omega]
    · have : x.testBit j = false := Nat.testBit_lt_two_pow (Nat.lt_of_lt_of_le hx (by rw [show 18446744073709551616 = 2 ^ 64 from by decide]; exact Nat.pow_le_pow_right (by decide) (by omega)))
      simp [this]
  · simp [h]

theorem ofW_wide {hi lo : Nat} (l : lo < 18446744073709551616) {n : Nat} (hn : n ≤ 128) :
    hiN (ofW (wideN hi lo) n) = hi / 2 ^ (64 - n) * 2 ^ (64 - n) ∧ loN (ofW (wideN hi lo) n) = lo / 2 ^ (64 - (n - 64)) * 2 ^ (64 - (n - 64)) := by
  unfold ofW
  rcases Nat.lt_or_ge 64 n with h | h
  · have e : (18446744073709551616 : Nat) = 2 ^ (128 - n) * 2 ^ (n - 64) := by rw [← Nat.pow_add, show 128 - n + (n - 64) = 64 from by omega]
    rw [show 64 - n = 0 from by omega, show 64 - (n - 64) = 128 - n from by omega]
    have hd : 0 < 2 ^ (128 - n) := Nat.pow_pos (by decide)
    have e3 : wideN hi lo / 2 ^ (128 - n) * 2 ^ (128 - n) = hi * 18446744073709551616 + lo / 2 ^ (128 - n) * 2 ^ (128 - n) := by
      have q : wideN hi lo = 2 ^ (128 - n) * (2 ^ (n - 64) * hi) + lo := by
        unfold wideN
        rw [show (2 : Nat) ^ 64 = 18446744073709551616 from by decide, e]
        congr 1
        ac_rfl
      rw [q, Nat.mul_add_div hd, Nat.add_mul, e]
      congr 1
      ac_rfl
    have hle : lo / 2 ^ (128 - n) * 2 ^ (128 - n) ≤ lo := Nat.div_mul_le_self _ _
    rw [e3]
    unfold hiN loN
    simp only [Nat.pow_zero, Nat.div_one, Nat.mul_one]
    constructor <;> omega
  · have e : (2 : Nat) ^ (128 - n) = 18446744073709551616 * 2 ^ (64 - n) := by rw [show 18446744073709551616 = 2 ^ 64 from by decide, ← Nat.pow_add]; congr 1; omega
    have e2 : wideN hi lo / (18446744073709551616 * 2 ^ (64 - n)) = hi / 2 ^ (64 - n) := by
      rw [← Nat.div_div_eq_div_mul]; congr 1; unfold wideN; omega
    rw [e, e2, show n - 64 = 0 from by omega, Nat.mul_left_comm]
    unfold hiN loN
    constructor
    · rw [Nat.mul_div_cancel_left _ (by decide)]
    · rw [Nat.mul_mod_right, Nat.div_eq_of_lt (show lo < 2 ^ (64 - 0) from l), Nat.zero_mul]

theorem retV {a b : Value} (h : a = b) : Ending.returned a = .returned b := by rw [h]

set_option maxRecDepth 100000 in
set_option maxHeartbeats 400000 in
theorem ones_any (n : Int) (w : World) (h0 : -9223372036854775808 ≤ n) (h1 : n ≤ 9223372036854775807) :
    Calls Tryz.prog 87 #[.int .i64 n] w fun e w' => e = .returned (.int .u64 (onesN n.toNat : Nat)) ∧ w = w' := by
  by_cases a : n < 0
  · go_enter Tryz.func87, Tryz.ntmps87
    go_wp2
    all_goals go_ret
    all_goals exact ⟨retV (by rw [show n.toNat = 0 from by omega]; rfl), rfl⟩
  · by_cases b : 64 < n
    · go_enter Tryz.func87, Tryz.ntmps87
      go_wp2
      all_goals go_ret
      all_goals exact ⟨retV (by unfold onesN; rw [show 64 - n.toNat = 0 from by omega]; rfl), rfl⟩
    · obtain ⟨k, rfl⟩ := Int.eq_ofNat_of_zero_le (show 0 ≤ n by omega)
      have hk : k ≤ 64 := by omega
      have HV := Lib.hid (ones_val hk)
      clear a b h0 h1
      go_enter Tryz.func87, Tryz.ntmps87
      go_wp2
      all_goals go_ret
      all_goals exact ⟨retV (show Value.int .u64 _ = _ by rw [HV.out]), rfl⟩

set_option maxRecDepth 100000 in
set_option maxHeartbeats 400000 in
theorem highest_any (hi lo n : Nat) (w : World) (h1 : hi < 18446744073709551616) (h2 : lo < 18446744073709551616) (hn : n ≤ 128) :
    Calls Tryz.prog 57 #[.int .u64 hi, .int .u64 lo, .int .i64 n] w fun e w' => e = .returned (pfW (ofW (wideN hi lo) n) n) ∧ Below w.heap.size w w' := by
  obtain ⟨o1, o2⟩ := ofW_wide (hi := hi) h2 hn
  have HP : Hid (pfW (ofW (wideN hi lo) n) n = .agg #[.int .u64 ((hi / 2 ^ (64 - n) * 2 ^ (64 - n) : Nat) : Int), .int .u64 ((lo / 2 ^ (64 - (n - 64)) * 2 ^ (64 - (n - 64)) : Nat) : Int), .int .i64 n]) := by
    show pfV _ _ _ = _
    rw [o1, o2]; rfl
  have e3 : ((n : Int) - 64).toNat = n - 64 := by omega
  have H3 := Lib.hid e3
  have HA := Lib.hid (mask_val hi n h1)
  have HB := Lib.hid (mask_val lo (n - 64) h2)
  clear o1 o2 e3
  go_enter Tryz.func57, Tryz.ntmps57
  go_wp2_with fail
  refine (ones_any _ _ (by omega) (by omega)).mono ?_
  rintro e x1 ⟨rfl, rfl⟩
  rw [Int.toNat_natCast]
  go_wp2_with fail
  refine (ones_any _ _ (by omega) (by omega)).mono ?_
  rintro e x1 ⟨rfl, rfl⟩
  rw [H3.out]
  go_wp2
  refine bodyPost_ret (v := .agg #[.int .u64 (bits .and .u64 (hi : Int) (onesN n : Nat)), .int .u64 (bits .and .u64 (lo : Int) (onesN (n - 64) : Nat)), .int .i64 n]) (by simp [results, Tryz.results57, go_sem]) rfl ⟨?_, ?_⟩
  · rw [HP.out, HA.out, HB.out]
  · exact ((Below.refl _ _).alloc (Nat.le_refl _) _)
end Go.Proofs.YtoobiaifogackaaGreatDoor
