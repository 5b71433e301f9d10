/-
  Layer 1: the reference's next tells the model's own decoding of UTF-8 at a place.
-/
import Derived.Test.YtaojjkknmaldiaaDoorScalB
namespace Go.Proofs.YtaojjkknmaldiaaDoor
open Go.RowKit


def byteN (s : ByteArray) (i : Nat) : Nat := (s.get! i).toNat
theorem byteN_eq (s : ByteArray) (i : Nat) (h : i < s.size) : byteN s i = (s[i]'h).toNat := by
  unfold byteN
  rw [show s.get! i = s.get! (i + 0) from rfl, get_at s i h]
theorem byteN_lt (s : ByteArray) (i : Nat) : byteN s i < 256 := (s.get! i).toNat_lt

/-- what is gathered before the k-th byte, beginning with r0 -/
def accN (s : ByteArray) (i : Nat) (r0 : Nat) : Nat → Nat
  | 0 => r0
  | k + 1 => accN s i r0 k * 64 + byteN s (i + k + 1) % 64

def leastN : Nat → Nat := fun n => if n = 2 then 128 else if n = 3 then 2048 else 65536
def baseN : Nat → Nat := fun n => if n = 2 then 192 else if n = 3 then 224 else 240
def topN : Nat → Nat := fun n => if n = 2 then 224 else if n = 3 then 240 else 248

def isB (r : Int) : Bool := decide (0 ≤ r ∧ r ≤ 1114111 ∧ (r < 55296 ∨ 57343 < r))

theorem valid_isB (r : Nat) : Utf8.valid (r : Int) = isB (r : Int) := by
  unfold Utf8.valid isB
  rw [Bool.eq_iff_iff]
  simp only [Bool.or_eq_true, Bool.and_eq_true, decide_eq_true_eq]
  omega

theorem decode_bool (s : ByteArray) (i : Nat) : Utf8.decode s i =
    if byteN s i < 128 then (byteN s i, 1)
    else if (byteN s i / 32 == 6 && (decide (i + 1 < s.size) && byteN s (i + 1) / 64 == 2)) = true then
      if 128 ≤ byteN s i % 32 * 64 + byteN s (i + 1) % 64 then (byteN s i % 32 * 64 + byteN s (i + 1) % 64, 2) else (65533, 1)
    else if (byteN s i / 16 == 14 && (decide (i + 1 < s.size) && byteN s (i + 1) / 64 == 2) && (decide (i + 2 < s.size) && byteN s (i + 2) / 64 == 2)) = true then
      if (decide (2048 ≤ byteN s i % 16 * 4096 + byteN s (i + 1) % 64 * 64 + byteN s (i + 2) % 64) && isB (byteN s i % 16 * 4096 + byteN s (i + 1) % 64 * 64 + byteN s (i + 2) % 64 : Nat)) = true
      then (byteN s i % 16 * 4096 + byteN s (i + 1) % 64 * 64 + byteN s (i + 2) % 64, 3) else (65533, 1)
    else if (byteN s i / 8 == 30 && (decide (i + 1 < s.size) && byteN s (i + 1) / 64 == 2) && (decide (i + 2 < s.size) && byteN s (i + 2) / 64 == 2) && (decide (i + 3 < s.size) && byteN s (i + 3) / 64 == 2)) = true then
      if (decide (65536 ≤ byteN s i % 8 * 262144 + byteN s (i + 1) % 64 * 4096 + byteN s (i + 2) % 64 * 64 + byteN s (i + 3) % 64) && isB (byteN s i % 8 * 262144 + byteN s (i + 1) % 64 * 4096 + byteN s (i + 2) % 64 * 64 + byteN s (i + 3) % 64 : Nat)) = true
      then (byteN s i % 8 * 262144 + byteN s (i + 1) % 64 * 4096 + byteN s (i + 2) % 64 * 64 + byteN s (i + 3) % 64, 4) else (65533, 1)
    else (65533, 1) := by
  rw [← valid_isB, ← valid_isB]
  rfl

theorem decode_eq (s : ByteArray) (i : Nat) : Utf8.decode s i =
    if byteN s i < 128 then (byteN s i, 1)
    else if byteN s i / 32 = 6 ∧ (i + 1 < s.size ∧ byteN s (i + 1) / 64 = 2) then
      if 128 ≤ byteN s i % 32 * 64 + byteN s (i + 1) % 64 then (byteN s i % 32 * 64 + byteN s (i + 1) % 64, 2) else (65533, 1)
    else if (byteN s i / 16 = 14 ∧ (i + 1 < s.size ∧ byteN s (i + 1) / 64 = 2)) ∧ (i + 2 < s.size ∧ byteN s (i + 2) / 64 = 2) then
      if 2048 ≤ byteN s i % 16 * 4096 + byteN s (i + 1) % 64 * 64 + byteN s (i + 2) % 64 ∧ isB (byteN s i % 16 * 4096 + byteN s (i + 1) % 64 * 64 + byteN s (i + 2) % 64 : Nat) = true
      then (byteN s i % 16 * 4096 + byteN s (i + 1) % 64 * 64 + byteN s (i + 2) % 64, 3) else (65533, 1)
    else if ((byteN s i / 8 = 30 ∧ (i + 1 < s.size ∧ byteN s (i + 1) / 64 = 2)) ∧ (i + 2 < s.size ∧ byteN s (i + 2) / 64 = 2)) ∧ (i + 3 < s.size ∧ byteN s (i + 3) / 64 = 2) then
      if 65536 ≤ byteN s i % 8 * 262144 + byteN s (i + 1) % 64 * 4096 + byteN s (i + 2) % 64 * 64 + byteN s (i + 3) % 64 ∧ isB (byteN s i % 8 * 262144 + byteN s (i + 1) % 64 * 4096 + byteN s (i + 2) % 64 * 64 + byteN s (i + 3) % 64 : Nat) = true
      then (byteN s i % 8 * 262144 + byteN s (i + 1) % 64 * 4096 + byteN s (i + 2) % 64 * 64 + byteN s (i + 3) % 64, 4) else (65533, 1)
    else (65533, 1) := by
  rw [decode_bool]
  simp only [beq_iff_eq, Bool.and_eq_true, decide_eq_true_eq]

theorem decode_none (s : ByteArray) (i : Nat) (h1 : 128 ≤ byteN s i) (h2 : byteN s i < 192 ∨ 248 ≤ byteN s i) : Utf8.decode s i = (65533, 1) := by
  have hb := byteN_lt s i
  rw [decode_eq, if_neg (by omega), if_neg (by omega), if_neg (by omega), if_neg (by omega)]

/-- a byte behind that is none, or lies beyond the end -/
theorem decode_bad (s : ByteArray) (i n k : Nat) (hn : n = 2 ∨ n = 3 ∨ n = 4) (h1 : baseN n ≤ byteN s i) (h2 : byteN s i < topN n) (hk0 : 1 ≤ k) (hk : k < n)
    (h : s.size ≤ i + k ∨ byteN s (i + k) < 128 ∨ 192 ≤ byteN s (i + k)) : Utf8.decode s i = (65533, 1) := by
  have hbk := byteN_lt s (i + k)
  rcases hn with rfl | rfl | rfl
  · obtain rfl : k = 1 := by omega
    simp only [show baseN 2 = 192 from rfl, show topN 2 = 224 from rfl] at h1 h2
    rw [decode_eq, if_neg (by omega), if_neg (by omega), if_neg (by omega), if_neg (by omega)]
  · have hk' : k = 1 ∨ k = 2 := by omega
    simp only [show baseN 3 = 224 from rfl, show topN 3 = 240 from rfl] at h1 h2
    rcases hk' with rfl | rfl <;> rw [decode_eq, if_neg (by omega), if_neg (by omega), if_neg (by omega), if_neg (by omega)]
  · have hk' : k = 1 ∨ k = 2 ∨ k = 3 := by omega
    simp only [show baseN 4 = 240 from rfl, show topN 4 = 248 from rfl] at h1 h2
    rcases hk' with rfl | rfl | rfl <;> rw [decode_eq, if_neg (by omega), if_neg (by omega), if_neg (by omega), if_neg (by omega)]

theorem decode_all (s : ByteArray) (i n : Nat) (hn : n = 2 ∨ n = 3 ∨ n = 4) (h1 : baseN n ≤ byteN s i) (h2 : byteN s i < topN n)
    (hc : ∀ k, 1 ≤ k → k < n → i + k < s.size ∧ 128 ≤ byteN s (i + k) ∧ byteN s (i + k) < 192) :
    Utf8.decode s i = if leastN n ≤ accN s i (byteN s i - baseN n) (n - 1) ∧ isB (accN s i (byteN s i - baseN n) (n - 1) : Nat) = true then (accN s i (byteN s i - baseN n) (n - 1), n) else (65533, 1) := by
  rw [decode_eq]
  rcases hn with rfl | rfl | rfl
  · obtain ⟨s1, c1, d1⟩ := hc 1 (by omega) (by omega)
    have ea : accN s i (byteN s i - 192) 1 = (byteN s i - 192) * 64 + byteN s (i + 1) % 64 := rfl
    simp only [show baseN 2 = 192 from rfl, show topN 2 = 224 from rfl, show leastN 2 = 128 from rfl, show 2 - 1 = 1 from rfl, ea] at *
    generalize byteN s i = b0 at *
    generalize byteN s (i + 1) = b1 at *
    have hv : isB (((b0 - 192) * 64 + b1 % 64 : Nat) : Int) = true := by unfold isB; apply decide_eq_true; omega
    rw [if_neg (by omega), if_pos ⟨by omega, s1, by omega⟩, show b0 % 32 = b0 - 192 from by omega]
    simp only [hv, and_true]
  · obtain ⟨s1, c1, d1⟩ := hc 1 (by omega) (by omega)
    obtain ⟨s2, c2, d2⟩ := hc 2 (by omega) (by omega)
    have ea : accN s i (byteN s i - 224) 2 = ((byteN s i - 224) * 64 + byteN s (i + 1) % 64) * 64 + byteN s (i + 2) % 64 := rfl
    simp only [show baseN 3 = 224 from rfl, show topN 3 = 240 from rfl, show leastN 3 = 2048 from rfl, show 3 - 1 = 2 from rfl, ea] at *
    generalize byteN s i = b0 at *
    generalize byteN s (i + 1) = b1 at *
    generalize byteN s (i + 2) = b2 at *
    rw [if_neg (by omega), if_neg (by omega), if_pos ⟨⟨by omega, s1, by omega⟩, s2, by omega⟩, show b0 % 16 * 4096 + b1 % 64 * 64 + b2 % 64 = ((b0 - 224) * 64 + b1 % 64) * 64 + b2 % 64 from by omega]
  · obtain ⟨s1, c1, d1⟩ := hc 1 (by omega) (by omega)
    obtain ⟨s2, c2, d2⟩ := hc 2 (by omega) (by omega)
    obtain ⟨s3, c3, d3⟩ := hc 3 (by omega) (by omega)
    have ea : accN s i (byteN s i - 240) 3 = (((byteN s i - 240) * 64 + byteN s (i + 1) % 64) * 64 + byteN s (i + 2) % 64) * 64 + byteN s (i + 3) % 64 := rfl
    simp only [show baseN 4 = 240 from rfl, show topN 4 = 248 from rfl, show leastN 4 = 65536 from rfl, show 4 - 1 = 3 from rfl, ea] at *
    generalize byteN s i = b0 at *
    generalize byteN s (i + 1) = b1 at *
    generalize byteN s (i + 2) = b2 at *
    generalize byteN s (i + 3) = b3 at *
    rw [if_neg (by omega), if_neg (by omega), if_neg (by omega), if_pos ⟨⟨⟨by omega, s1, by omega⟩, s2, by omega⟩, s3, by omega⟩, show b0 % 8 * 262144 + b1 % 64 * 4096 + b2 % 64 * 64 + b3 % 64 = (((b0 - 240) * 64 + b1 % 64) * 64 + b2 % 64) * 64 + b3 % 64 from by omega]
end Go.Proofs.YtaojjkknmaldiaaDoor
