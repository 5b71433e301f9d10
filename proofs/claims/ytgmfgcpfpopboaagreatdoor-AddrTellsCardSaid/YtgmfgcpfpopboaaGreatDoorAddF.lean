/-
  Layer 6: which forms embed an address; the order of addresses, as numbers.
-/
import Derived.Test.YtgmfgcpfpopboaaGreatDoorAddE
import Derived.Test.YtgmfgcpfpopboaaGreatDoorMgC
namespace Go.Proofs.YtgmfgcpfpopboaaGreatDoor
open Go.RowKit


/-- the forms that the chapter names, built of n -/
def embL (n r : Int) : List (Int × Int) :=
  [(0, 281470681743360 + n), (0, n), (28428538856079360, n), (2306405959167115264 + n * 65536 + r % 65536, r), (2306124484190404608 + n, r),
   (2306124484190404608 + r % 4294967296, r * 4294967296 % 18446744073709551616 + (4294967295 - n)), (r, 104445014704128 + n), (r, 144219633090560000 + n)]
theorem emb_0 (n : Int) (h0 : 0 ≤ n) (h1 : n ≤ 4294967295) : n ∈ innerZ 0 (281470681743360 + n) := by
  unfold innerZ
  rw [show (281470681743360 + n) / 4294967296 = 65535 from by omega, show (281470681743360 + n) % 4294967296 = n from by omega]
  simp [inA]
theorem emb_1 (n : Int) (h0 : 1 < n) (h1 : n ≤ 4294967295) : n ∈ innerZ 0 n := by
  unfold innerZ
  rw [show n / 4294967296 = 0 from by omega, show n % 4294967296 = n from by omega]
  simp [inCo, h0]
theorem emb_2 (n : Int) (h0 : 0 ≤ n) (h1 : n ≤ 4294967295) : n ∈ innerZ 28428538856079360 n := by
  unfold innerZ
  rw [show n / 4294967296 = 0 from by omega, show n % 4294967296 = n from by omega]
  simp [inC]
theorem emb_3 (n r lo : Int) (h0 : 0 ≤ n) (h1 : n ≤ 4294967295) : n ∈ innerZ (2306405959167115264 + n * 65536 + r % 65536) lo := by
  unfold innerZ inD
  rw [if_pos (show (2306405959167115264 + n * 65536 + r % 65536) / 281474976710656 = 8194 from by omega), show (2306405959167115264 + n * 65536 + r % 65536) / 65536 % 4294967296 = n from by omega]
  simp
theorem emb_4 (n lo : Int) (h0 : 0 ≤ n) (h1 : n ≤ 4294967295) : n ∈ innerZ (2306124484190404608 + n) lo := by
  unfold innerZ inE
  rw [if_pos (show (2306124484190404608 + n) / 4294967296 = 536936448 from by omega), show (2306124484190404608 + n) % 4294967296 = n from by omega]
  simp
theorem emb_5 (n r : Int) (h0 : 0 ≤ n) (h1 : n ≤ 4294967295) : n ∈ innerZ (2306124484190404608 + r % 4294967296) (r * 4294967296 % 18446744073709551616 + (4294967295 - n)) := by
  unfold innerZ inE
  rw [if_pos (show (2306124484190404608 + r % 4294967296) / 4294967296 = 536936448 from by omega), show (r * 4294967296 % 18446744073709551616 + (4294967295 - n)) % 4294967296 = 4294967295 - n from by omega, show (4294967295 : Int) - (4294967295 - n) = n from by omega]
  simp
theorem emb_6 (n hi : Int) (h0 : 0 ≤ n) (h1 : n ≤ 4294967295) : n ∈ innerZ hi (104445014704128 + n) := by
  unfold innerZ
  rw [show (104445014704128 + n) / 4294967296 = 24318 from by omega, show (104445014704128 + n) % 4294967296 = n from by omega]
  simp [inF]
theorem emb_7 (n hi : Int) (h0 : 0 ≤ n) (h1 : n ≤ 4294967295) : n ∈ innerZ hi (144219633090560000 + n) := by
  unfold innerZ
  rw [show (144219633090560000 + n) / 4294967296 = 33578750 from by omega, show (144219633090560000 + n) % 4294967296 = n from by omega]
  simp [inF]
theorem inner_two (n : Int) (h0 : 0 ≤ n) (h1 : n ≤ 1) : innerZ 0 n = [] := by
  rcases (show n = 0 ∨ n = 1 from by omega) with rfl | rfl <;> decide +kernel

theorem and_low (i : Nat) (x m : Int) (h0 : 0 ≤ x) (h1 : x ≤ 18446744073709551615) (hi : i ≤ 64) (hm : m = 2 ^ i - 1) : bits .and .u64 x m = x % 2 ^ i := by
  obtain ⟨a, rfl⟩ := Int.eq_ofNat_of_zero_le h0
  subst hm
  have ha : a < 2 ^ 64 := by omega
  have hp : (2 ^ i : Nat) ≤ 2 ^ 64 := Nat.pow_le_pow_right (by decide) hi
  have hp0 : 0 < 2 ^ i := Nat.pow_pos (by decide)
  have e2 : ((2 : Int) ^ i - 1) = ((2 ^ i - 1 : Nat) : Int) := by
    rw [Int.ofNat_sub hp0]; simp
  rw [e2]
  show IntKind.u64.wrap (((BitVec.ofInt 64 (a : Int)) &&& (BitVec.ofInt 64 ((2 ^ i - 1 : Nat) : Int))).toNat : Int) = _
  rw [BitVec.toNat_and, BitVec.ofInt_natCast, BitVec.ofInt_natCast, BitVec.toNat_ofNat, BitVec.toNat_ofNat, Nat.mod_eq_of_lt ha, Nat.mod_eq_of_lt (by omega), Nat.and_two_pow_sub_one_eq_mod, IntKind.wrap_u64]
  have hlt : a % 2 ^ i < 2 ^ i := Nat.mod_lt _ hp0
  have e3 : ((a % 2 ^ i : Nat) : Int) = (a : Int) % 2 ^ i := by simp
  rw [← e3]
  omega
theorem xor64 (n : Int) (h0 : 0 ≤ n) (h1 : n ≤ 18446744073709551615) : bits .xor .u64 (if IntKind.u64.signed = true then -1 else IntKind.u64.max) n = 18446744073709551615 - n := by
  obtain ⟨a, rfl⟩ := Int.eq_ofNat_of_zero_le h0
  have ha : a < 2 ^ 64 := by omega
  have e1 : BitVec.ofInt 64 18446744073709551615 = BitVec.allOnes 64 := by decide
  show IntKind.u64.wrap (((BitVec.ofInt 64 18446744073709551615) ^^^ (BitVec.ofInt 64 (a : Int))).toNat : Int) = _
  rw [e1, BitVec.allOnes_xor, BitVec.toNat_not, BitVec.ofInt_natCast, BitVec.toNat_ofNat, Nat.mod_eq_of_lt ha, IntKind.wrap_u64]
  omega

/-- the order -/
def cmpI (x y : Int) : Int := if x < y then -1 else if y < x then 1 else 0
def AZ.hi : AZ → Int
  | .four _ => 0
  | .six hi _ => hi
def AZ.lo : AZ → Int
  | .four n => 281470681743360 + n
  | .six _ lo => lo
def AZ.rk : AZ → Int
  | .four _ => 1
  | .six _ _ => 2
def cmpZ (a b : AZ) : Int := if a.hi ≠ b.hi then cmpI a.hi b.hi else if a.lo ≠ b.lo then cmpI a.lo b.lo else cmpI a.rk b.rk
theorem cmpI_pos (x y : Int) : 0 < cmpI x y ↔ y < x := by unfold cmpI; split <;> (try split) <;> omega
theorem cmpI_neg (x y : Int) : cmpI x y < 0 ↔ x < y := by unfold cmpI; split <;> (try split) <;> omega
theorem cmpI_zero (x y : Int) : cmpI x y = 0 ↔ x = y := by unfold cmpI; split <;> (try split) <;> omega
theorem cmpI_swap (x y : Int) : cmpI x y = - cmpI y x := by unfold cmpI; split <;> (try split) <;> (try split) <;> omega
theorem cmpI_in (x y : Int) : -1 ≤ cmpI x y ∧ cmpI x y ≤ 1 := by unfold cmpI; split <;> (try split) <;> omega
theorem cmpZ_in (a b : AZ) : -1 ≤ cmpZ a b ∧ cmpZ a b ≤ 1 := by
  unfold cmpZ; split
  · exact cmpI_in _ _
  · split <;> exact cmpI_in _ _
theorem cmpZ_swap (a b : AZ) : cmpZ a b = - cmpZ b a := by
  unfold cmpZ
  by_cases h1 : a.hi = b.hi
  · by_cases h2 : a.lo = b.lo
    · rw [if_neg (fun h => h h1), if_neg (fun h => h h2), if_neg (fun h => h h1.symm), if_neg (fun h => h h2.symm)]; exact cmpI_swap _ _
    · rw [if_neg (fun h => h h1), if_pos h2, if_neg (fun h => h h1.symm), if_pos (Ne.symm h2)]; exact cmpI_swap _ _
  · rw [if_pos h1, if_pos (Ne.symm h1)]; exact cmpI_swap _ _
theorem cmpZ_pos (a b : AZ) : 0 < cmpZ a b ↔ b.hi < a.hi ∨ a.hi = b.hi ∧ (b.lo < a.lo ∨ a.lo = b.lo ∧ b.rk < a.rk) := by
  unfold cmpZ
  have e1 := cmpI_pos a.hi b.hi
  have e2 := cmpI_pos a.lo b.lo
  have e3 := cmpI_pos a.rk b.rk
  by_cases h1 : a.hi = b.hi
  · by_cases h2 : a.lo = b.lo
    · rw [if_neg (fun h => h h1), if_neg (fun h => h h2)]; omega
    · rw [if_neg (fun h => h h1), if_pos h2]; omega
  · rw [if_pos h1]; omega
theorem cmpZ_zero (a b : AZ) : cmpZ a b = 0 ↔ a = b := by
  unfold cmpZ
  have e1 := cmpI_zero a.hi b.hi
  have e2 := cmpI_zero a.lo b.lo
  have e3 := cmpI_zero a.rk b.rk
  constructor
  · intro h
    by_cases h1 : a.hi = b.hi
    · by_cases h2 : a.lo = b.lo
      · rw [if_neg (fun h => h h1), if_neg (fun h => h h2)] at h
        have h3 := e3.1 h
        cases a <;> cases b <;> simp only [AZ.hi, AZ.lo, AZ.rk] at h1 h2 h3
        · congr 1; omega
        · omega
        · omega
        · rw [h1, h2]
      · rw [if_neg (fun h => h h1), if_pos h2] at h
        exact absurd (e2.1 h) h2
    · rw [if_pos h1] at h
      exact absurd (e1.1 h) h1
  · rintro rfl
    simp [cmpI]
theorem cmpZ_trans (a b c : AZ) (h1 : 0 < cmpZ a b) (h2 : 0 < cmpZ b c) : 0 < cmpZ a c := by
  rw [cmpZ_pos] at *
  omega
end Go.Proofs.YtgmfgcpfpopboaaGreatDoor
