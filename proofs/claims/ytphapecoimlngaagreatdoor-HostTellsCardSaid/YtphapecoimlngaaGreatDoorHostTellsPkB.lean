/-
  What the law HostTells leans on, and its walk (2 of 18).
-/
import Derived.IntWalk
import Derived.StillTailTactics
import Derived.Deep.RegionHeld3
import Derived.Deep.AppendLies
import Derived.Test.YtphapecoimlngaaGreatDoorHostTellsPkA
namespace Go.Proofs.YtphapecoimlngaaGreatDoor
set_option maxRecDepth 100000
set_option maxHeartbeats 16000000
section
section
open Go.RowKit
def hexN (n : Nat) : UInt8 := ([48, 49, 50, 51, 52, 53, 54, 55, 56, 57, 65, 66, 67, 68, 69, 70] : List UInt8).getD n 0
def pctB (c : UInt8) : List UInt8 := [37, hexN (c.toNat / 16), hexN (c.toNat % 16)]
theorem yaF (n : Nat) (h : n < (ByteArray.mk #[48, 49, 50, 51, 52, 53, 54, 55, 56, 57, 65, 66, 67, 68, 69, 70]).size) : ((ByteArray.mk #[48, 49, 50, 51, 52, 53, 54, 55, 56, 57, 65, 66, 67, 68, 69, 70])[n]'h).toNat = (hexN n).toNat := by
 have key : ∀ n : Fin 16, ((ByteArray.mk #[48, 49, 50, 51, 52, 53, 54, 55, 56, 57, 65, 66, 67, 68, 69, 70])[n.val]'n.isLt).toNat = (hexN n.val).toNat := by decide
 exact key ⟨n, h⟩
theorem z9E (c : UInt8) (w : World) :
  Calls Tryz.prog 34 #[.int .u8 (c.toNat : Int)] w fun e w' => e = .returned (.string ⟨(pctB c).toArray⟩) ∧ Below w.heap.size w w' := by
 obtain ⟨n, hn⟩ : ∃ n, c.toNat = n := ⟨_, rfl⟩
 have hc : n < 256 := by rw [← hn]; exact c.toNat_lt
 have hR : pctB c = [37, hexN (n / 16), hexN (n % 16)] := by unfold pctB; rw [hn]
 rw [hn, hR]
 clear hn hR c
 have h1 : (0 : Int) ≤ (n : Int) / 16 := by omega
 have h2 : (n : Int) / 16 < 16 := by omega
 have h3 : (0 : Int) ≤ (n : Int) % 16 := by omega
 have h4 : (n : Int) % 16 < 16 := by omega
 have k1 : n / 16 < (ByteArray.mk #[48, 49, 50, 51, 52, 53, 54, 55, 56, 57, 65, 66, 67, 68, 69, 70]).size := by show n / 16 < 16; omega
 have k2 : n % 16 < (ByteArray.mk #[48, 49, 50, 51, 52, 53, 54, 55, 56, 57, 65, 66, 67, 68, 69, 70]).size := by show n % 16 < 16; omega
 have hcv := z7K (P := Tryz.prog) w.drew 30 9 5 [37, (((ByteArray.mk #[48, 49, 50, 51, 52, 53, 54, 55, 56, 57, 65, 66, 67, 68, 69, 70])[n / 16]'k1).toNat : Int), (((ByteArray.mk #[48, 49, 50, 51, 52, 53, 54, 55, 56, 57, 65, 66, 67, 68, 69, 70])[n % 16]'k2).toNat : Int)]
  (by
   intro x hx
   simp only [List.mem_cons, List.not_mem_nil, or_false] at hx
   rcases hx with rfl | rfl | rfl
   ·decide
   ·have := ((ByteArray.mk #[48, 49, 50, 51, 52, 53, 54, 55, 56, 57, 65, 66, 67, 68, 69, 70])[n / 16]'k1).toNat_lt; omega
   ·have := ((ByteArray.mk #[48, 49, 50, 51, 52, 53, 54, 55, 56, 57, 65, 66, 67, 68, 69, 70])[n % 16]'k2).toNat_lt; omega)
  Tryz.underlying30 Tryz.underlying5 Tryz.underlying9
 have hcv2 : (convert 30 9 (.slice (some ⟨w.heap.size, 0, none⟩) 3 3)).run Tryz.prog ((w.alloc (.cells #[.int .u8 37, .int .u8 (((ByteArray.mk #[48, 49, 50, 51, 52, 53, 54, 55, 56, 57, 65, 66, 67, 68, 69, 70])[n / 16]'k1).toNat : Int), .int .u8 (((ByteArray.mk #[48, 49, 50, 51, 52, 53, 54, 55, 56, 57, 65, 66, 67, 68, 69, 70])[n % 16]'k2).toNat : Int)] 5)).drew) = _ := hcv
 clear hcv
 have hR : zpG [37, (((ByteArray.mk #[48, 49, 50, 51, 52, 53, 54, 55, 56, 57, 65, 66, 67, 68, 69, 70])[n / 16]'k1).toNat : Int), (((ByteArray.mk #[48, 49, 50, 51, 52, 53, 54, 55, 56, 57, 65, 66, 67, 68, 69, 70])[n % 16]'k2).toNat : Int)] = [37, hexN (n / 16), hexN (n % 16)] := by
  simp only [zpG, List.map_cons, List.map_nil, yaF _ k1, yaF _ k2, zpS]
  rfl
 rw [hR] at hcv2
 clear hR
 generalize [37, hexN (n / 16), hexN (n % 16)] = R at hcv2 ⊢
 go_enter Tryz.func34, Tryz.ntmps34
 go_wp2
 go_region
 all_goals (go_wp2; go_ret; exact ⟨rfl, ((Below.refl _ _).alloc (Nat.le_refl _) _).drew⟩)
def setL : Nat → List Int
 | 1 => [32, 34, 60, 62, 96]
 | 2 => [32, 34, 35, 60, 62]
 | 3 => [32, 34, 35, 60, 62, 39]
 | 4 => [32, 34, 35, 60, 62, 63, 94, 96, 123, 125]
 | 5 => [32, 34, 35, 60, 62, 63, 94, 96, 123, 125, 47, 58, 59, 61, 64, 91, 92, 93, 124]
 | _ => []
def inB (s r : Int) : Bool := decide (0 ≤ s ∧ s ≤ 5) && (decide (r ≤ 31 ∨ 126 < r) || (setL s.toNat).contains r)
theorem ybO {s r : Int} (h : s < 0 ∨ 5 < s) : inB s r = false := by
 unfold inB
 rw [decide_eq_false (by omega)]; rfl
theorem ybM {s r : Int} (h0 : 0 ≤ s) (h1 : s ≤ 5) (h : r ≤ 31 ∨ 126 < r) : inB s r = true := by
 unfold inB
 rw [decide_eq_true ⟨h0, h1⟩, decide_eq_true h]; rfl
theorem zjW {s r : Int} (h0 : 0 ≤ s) (h1 : s ≤ 5) (h2 : 31 < r) (h3 : r ≤ 126) : inB s r = (setL s.toNat).contains r := by
 unfold inB
 rw [decide_eq_true ⟨h0, h1⟩, decide_eq_false (by omega)]; simp
theorem ybV (n : Nat) (h : n < 127) : decide (0 ≤ Lib.indexByte ([] : List UInt8) n.toUInt8) = (setL 0).contains (n : Int) := by
 have key : ∀ n : Fin 127, decide (0 ≤ Lib.indexByte ([] : List UInt8) n.val.toUInt8) = (setL 0).contains (n.val : Int) := by decide +kernel
 exact key ⟨n, h⟩
theorem ycQ (r : Int) (w : World) (h2 : 31 < r) (h3 : r ≤ 126) :
  Calls Tryz.prog 214 #[.int .u8 0, .int .i32 r] w fun e w' => e = .returned (.bool (inB 0 r)) ∧ w = w' := by
 obtain ⟨n, rfl⟩ := Int.eq_ofNat_of_zero_le (show 0 ≤ r by omega)
 have HB := Lib.hid ((zjW (s := 0) (by decide) (by decide) h2 h3).trans (ybV n (by omega)).symm)
 go_enter Tryz.func214, Tryz.ntmps214
 go_wp2_with (first | (go_at_call 68; refine (Tryz.strings_ContainsRune_ascii _ _ _ (by omega) (by omega)).mono ?_; rintro e w' ⟨rfl, rfl⟩) | go_in)
 go_ret
 exact ⟨zaQ (by rw [HB.out]; have d1 : decide ((n : Int) ≤ 31) = false := decide_eq_false (by omega); have d2 : decide (126 < (n : Int)) = false := decide_eq_false (by omega); simp only [d1, d2, Bool.false_or]), rfl⟩
theorem ycT (n : Nat) (h : n < 127) : decide (0 ≤ Lib.indexByte ([32, 34, 60, 62, 96] : List UInt8) n.toUInt8) = (setL 1).contains (n : Int) := by
 have key : ∀ n : Fin 127, decide (0 ≤ Lib.indexByte ([32, 34, 60, 62, 96] : List UInt8) n.val.toUInt8) = (setL 1).contains (n.val : Int) := by decide +kernel
 exact key ⟨n, h⟩
theorem yaS (r : Int) (w : World) (h2 : 31 < r) (h3 : r ≤ 126) :
  Calls Tryz.prog 214 #[.int .u8 1, .int .i32 r] w fun e w' => e = .returned (.bool (inB 1 r)) ∧ w = w' := by
 obtain ⟨n, rfl⟩ := Int.eq_ofNat_of_zero_le (show 0 ≤ r by omega)
 have HB := Lib.hid ((zjW (s := 1) (by decide) (by decide) h2 h3).trans (ycT n (by omega)).symm)
 go_enter Tryz.func214, Tryz.ntmps214
 go_wp2_with (first | (go_at_call 68; refine (Tryz.strings_ContainsRune_ascii _ _ _ (by omega) (by omega)).mono ?_; rintro e w' ⟨rfl, rfl⟩) | go_in)
 go_ret
 exact ⟨zaQ (by rw [HB.out]; have d1 : decide ((n : Int) ≤ 31) = false := decide_eq_false (by omega); have d2 : decide (126 < (n : Int)) = false := decide_eq_false (by omega); simp only [d1, d2, Bool.false_or]), rfl⟩
theorem ycB (n : Nat) (h : n < 127) : decide (0 ≤ Lib.indexByte ([32, 34, 35, 60, 62] : List UInt8) n.toUInt8) = (setL 2).contains (n : Int) := by
 have key : ∀ n : Fin 127, decide (0 ≤ Lib.indexByte ([32, 34, 35, 60, 62] : List UInt8) n.val.toUInt8) = (setL 2).contains (n.val : Int) := by decide +kernel
 exact key ⟨n, h⟩
theorem ycG (r : Int) (w : World) (h2 : 31 < r) (h3 : r ≤ 126) :
  Calls Tryz.prog 214 #[.int .u8 2, .int .i32 r] w fun e w' => e = .returned (.bool (inB 2 r)) ∧ w = w' := by
 obtain ⟨n, rfl⟩ := Int.eq_ofNat_of_zero_le (show 0 ≤ r by omega)
 have HB := Lib.hid ((zjW (s := 2) (by decide) (by decide) h2 h3).trans (ycB n (by omega)).symm)
 go_enter Tryz.func214, Tryz.ntmps214
 go_wp2_with (first | (go_at_call 68; refine (Tryz.strings_ContainsRune_ascii _ _ _ (by omega) (by omega)).mono ?_; rintro e w' ⟨rfl, rfl⟩) | go_in)
 go_ret
 exact ⟨zaQ (by rw [HB.out]; have d1 : decide ((n : Int) ≤ 31) = false := decide_eq_false (by omega); have d2 : decide (126 < (n : Int)) = false := decide_eq_false (by omega); simp only [d1, d2, Bool.false_or]), rfl⟩
theorem ycE (n : Nat) (h : n < 127) : decide (0 ≤ Lib.indexByte ([32, 34, 35, 60, 62, 39] : List UInt8) n.toUInt8) = (setL 3).contains (n : Int) := by
 have key : ∀ n : Fin 127, decide (0 ≤ Lib.indexByte ([32, 34, 35, 60, 62, 39] : List UInt8) n.val.toUInt8) = (setL 3).contains (n.val : Int) := by decide +kernel
 exact key ⟨n, h⟩
theorem ybG (r : Int) (w : World) (h2 : 31 < r) (h3 : r ≤ 126) :
  Calls Tryz.prog 214 #[.int .u8 3, .int .i32 r] w fun e w' => e = .returned (.bool (inB 3 r)) ∧ w = w' := by
 obtain ⟨n, rfl⟩ := Int.eq_ofNat_of_zero_le (show 0 ≤ r by omega)
 have HB := Lib.hid ((zjW (s := 3) (by decide) (by decide) h2 h3).trans (ycE n (by omega)).symm)
 go_enter Tryz.func214, Tryz.ntmps214
 go_wp2_with (first | (go_at_call 68; refine (Tryz.strings_ContainsRune_ascii _ _ _ (by omega) (by omega)).mono ?_; rintro e w' ⟨rfl, rfl⟩) | go_in)
 go_ret
 exact ⟨zaQ (by rw [HB.out]; have d1 : decide ((n : Int) ≤ 31) = false := decide_eq_false (by omega); have d2 : decide (126 < (n : Int)) = false := decide_eq_false (by omega); simp only [d1, d2, Bool.false_or]), rfl⟩
theorem ycY (n : Nat) (h : n < 127) : decide (0 ≤ Lib.indexByte ([32, 34, 35, 60, 62, 63, 94, 96, 123, 125] : List UInt8) n.toUInt8) = (setL 4).contains (n : Int) := by
 have key : ∀ n : Fin 127, decide (0 ≤ Lib.indexByte ([32, 34, 35, 60, 62, 63, 94, 96, 123, 125] : List UInt8) n.val.toUInt8) = (setL 4).contains (n.val : Int) := by decide +kernel
 exact key ⟨n, h⟩
theorem ycX (r : Int) (w : World) (h2 : 31 < r) (h3 : r ≤ 126) :
  Calls Tryz.prog 214 #[.int .u8 4, .int .i32 r] w fun e w' => e = .returned (.bool (inB 4 r)) ∧ w = w' := by
 obtain ⟨n, rfl⟩ := Int.eq_ofNat_of_zero_le (show 0 ≤ r by omega)
 have HB := Lib.hid ((zjW (s := 4) (by decide) (by decide) h2 h3).trans (ycY n (by omega)).symm)
 go_enter Tryz.func214, Tryz.ntmps214
 go_wp2_with (first | (go_at_call 68; refine (Tryz.strings_ContainsRune_ascii _ _ _ (by omega) (by omega)).mono ?_; rintro e w' ⟨rfl, rfl⟩) | go_in)
 go_ret
 exact ⟨zaQ (by rw [HB.out]; have d1 : decide ((n : Int) ≤ 31) = false := decide_eq_false (by omega); have d2 : decide (126 < (n : Int)) = false := decide_eq_false (by omega); simp only [d1, d2, Bool.false_or]), rfl⟩
theorem ycA (n : Nat) (h : n < 127) : decide (0 ≤ Lib.indexByte ([32, 34, 35, 60, 62, 63, 94, 96, 123, 125, 47, 58, 59, 61, 64, 91, 92, 93, 124] : List UInt8) n.toUInt8) = (setL 5).contains (n : Int) := by
 have key : ∀ n : Fin 127, decide (0 ≤ Lib.indexByte ([32, 34, 35, 60, 62, 63, 94, 96, 123, 125, 47, 58, 59, 61, 64, 91, 92, 93, 124] : List UInt8) n.val.toUInt8) = (setL 5).contains (n.val : Int) := by decide +kernel
 exact key ⟨n, h⟩
theorem ybB (r : Int) (w : World) (h2 : 31 < r) (h3 : r ≤ 126) :
  Calls Tryz.prog 214 #[.int .u8 5, .int .i32 r] w fun e w' => e = .returned (.bool (inB 5 r)) ∧ w = w' := by
 obtain ⟨n, rfl⟩ := Int.eq_ofNat_of_zero_le (show 0 ≤ r by omega)
 have HB := Lib.hid ((zjW (s := 5) (by decide) (by decide) h2 h3).trans (ycA n (by omega)).symm)
 go_enter Tryz.func214, Tryz.ntmps214
 go_wp2_with (first | (go_at_call 68; refine (Tryz.strings_ContainsRune_ascii _ _ _ (by omega) (by omega)).mono ?_; rintro e w' ⟨rfl, rfl⟩) | go_in)
 go_ret
 exact ⟨zaQ (by rw [HB.out]; have d1 : decide ((n : Int) ≤ 31) = false := decide_eq_false (by omega); have d2 : decide (126 < (n : Int)) = false := decide_eq_false (by omega); simp only [d1, d2, Bool.false_or]), rfl⟩
theorem in_ctl (s r : Int) (w : World) (h0 : 0 ≤ s) (h1 : s ≤ 5) (h : r ≤ 31 ∨ 126 < r) :
  Calls Tryz.prog 214 #[.int .u8 s, .int .i32 r] w fun e w' => e = .returned (.bool (inB s r)) ∧ w = w' := by
 have HB := Lib.hid (ybM h0 h1 h)
 rcases h with h | h
 ·go_enter Tryz.func214, Tryz.ntmps214
  go_wp2
  go_ret
  exact ⟨zaQ HB.out.symm, rfl⟩
 ·go_enter Tryz.func214, Tryz.ntmps214
  go_wp2
  go_ret
  exact ⟨zaQ HB.out.symm, rfl⟩
theorem in_out (s r : Int) (w : World) (h : 5 < s) :
  Calls Tryz.prog 214 #[.int .u8 s, .int .i32 r] w fun e w' => e = .returned (.bool (inB s r)) ∧ w = w' := by
 have HB := Lib.hid (ybO (s := s) (r := r) (.inr h))
 go_enter Tryz.func214, Tryz.ntmps214
 go_wp2
 go_ret
 exact ⟨zaQ HB.out.symm, rfl⟩
theorem yaE (s r : Int) (w : World) (h0 : 0 ≤ s) :
  Calls Tryz.prog 214 #[.int .u8 s, .int .i32 r] w fun e w' => e = .returned (.bool (inB s r)) ∧ w = w' := by
 by_cases h5 : 5 < s
 ·exact in_out s r w h5
 ·by_cases hc : r ≤ 31 ∨ 126 < r
  ·exact in_ctl s r w h0 (by omega) hc
  ·rcases (show s = 0 ∨ s = 1 ∨ s = 2 ∨ s = 3 ∨ s = 4 ∨ s = 5 from by omega) with rfl | rfl | rfl | rfl | rfl | rfl
   ·exact ycQ r w (by omega) (by omega)
   ·exact yaS r w (by omega) (by omega)
   ·exact ycG r w (by omega) (by omega)
   ·exact ybG r w (by omega) (by omega)
   ·exact ycX r w (by omega) (by omega)
   ·exact ybB r w (by omega) (by omega)
end
section
open Go.RowKit
end
section
open Go.RowKit
/-- % and two digits at a text's beginning: the byte -/
def zgJ : List UInt8 → Option UInt8
 | c :: a :: b :: _ => if c.toNat = 37 ∧ 0 ≤ valZ (a.toNat : Int) ∧ 0 ≤ valZ (b.toNat : Int) then some (UInt8.ofNat ((valZ (a.toNat : Int) * 16 + valZ (b.toNat : Int)).toNat)) else none
 | _ => none
def decL : Nat → List UInt8 → List UInt8
 | 0, _ => []
 | _ + 1, [] => []
 | f + 1, c :: r => match zgJ (c :: r) with
  | some v => v :: decL f (r.drop 2)
  | none => c :: decL f r
def decB (l : List UInt8) : List UInt8 := decL l.length l
theorem z3T (r : Int) : valZ r < 16 := by unfold valZ; (repeat' split) <;> omega
theorem z5T (r : Int) : -1 ≤ valZ r := by unfold valZ; (repeat' split) <;> omega
theorem zfV (s : ByteArray) (k : Nat) (h : k < s.size) : s.data.toList.drop k = s[k] :: s.data.toList.drop (k + 1) := by
 rw [List.drop_eq_getElem_cons (by simpa using h)]
 rfl
theorem zlJ (s : ByteArray) (k : Nat) (h : ¬ k < s.size) : s.data.toList.drop k = [] := List.drop_eq_nil_of_le (by simpa using h)
theorem zzU (s : ByteArray) (k : Nat) (hk : k + 2 < s.size) (h37 : s[k].toNat = 37) (h1 : 0 ≤ valZ (s[k + 1].toNat : Int)) (h2 : 0 ≤ valZ (s[k + 2].toNat : Int)) :
  zgJ (s.data.toList.drop k) = some (UInt8.ofNat ((valZ (s[k + 1].toNat : Int) * 16 + valZ (s[k + 2].toNat : Int)).toNat)) := by
 rw [zfV s k (by omega), zfV s (k + 1) (by omega), zfV s (k + 2) (by omega)]
 simp only [zgJ]
 rw [if_pos ⟨h37, h1, h2⟩]
theorem zuH (s : ByteArray) (k : Nat) (hk : k + 2 < s.size) (h : s[k].toNat ≠ 37 ∨ valZ (s[k + 1].toNat : Int) < 0 ∨ valZ (s[k + 2].toNat : Int) < 0) :
  zgJ (s.data.toList.drop k) = none := by
 rw [zfV s k (by omega), zfV s (k + 1) (by omega), zfV s (k + 2) (by omega)]
 simp only [zgJ]
 rw [if_neg (by omega)]
theorem znE (s : ByteArray) (k : Nat) (hk : s.size ≤ k + 2) : zgJ (s.data.toList.drop k) = none := by
 by_cases h0 : k < s.size
 ·rw [zfV s k h0]
  by_cases h1 : k + 1 < s.size
  ·rw [zfV s (k + 1) h1, zlJ s (k + 2) (by omega)]
   rfl
  ·rw [zlJ s (k + 1) h1]
   rfl
 ·rw [zlJ s k h0]
  rfl
theorem z9Z (a b : Int) (h0 : 0 ≤ a) (h1 : a < 16) (h2 : 0 ≤ b) (h3 : b < 16) : bits BinOp.or IntKind.i64 (a * 16) b % 256 = a * 16 + b := by
 have key : ∀ a b : Fin 16, bits BinOp.or IntKind.i64 ((a.val : Int) * 16) (b.val : Int) % 256 = (a.val : Int) * 16 + (b.val : Int) := by decide +kernel
 have := key ⟨a.toNat, by omega⟩ ⟨b.toNat, by omega⟩
 simp only [Int.toNat_of_nonneg h0, Int.toNat_of_nonneg h2] at this
 exact this
def zxE (o : Option UInt8) (w : World) (e : Ending) (w' : World) : Prop := e = .returned (.tuple #[.int .u8 ((o.getD 0).toNat : Int), .bool o.isSome]) ∧ ∃ n, w' = w.drewN n
theorem zfS {o : Option UInt8} {w : World} {e : Ending} {w' : World} (ho : o = none) (he : e = .returned (.tuple #[.int .u8 0, .bool false])) (n : Nat) (hw : w' = w.drewN n) : zxE o w e w' := by
 subst ho
 exact ⟨he, n, hw⟩
theorem zrW {o : Option UInt8} {v : UInt8} {x : Int} {w : World} {e : Ending} {w' : World} (ho : o = some v) (he : e = .returned (.tuple #[.int .u8 x, .bool true])) (hx : x = (v.toNat : Int)) (n : Nat) (hw : w' = w.drewN n) : zxE o w e w' := by
 subst ho hx
 exact ⟨he, n, hw⟩
theorem z1C (x : Int) (h0 : 0 ≤ x) (h1 : x < 256) : x = ((UInt8.ofNat x.toNat).toNat : Int) := by
 have : x.toNat % 256 = x.toNat := Nat.mod_eq_of_lt (by omega)
 simp [this]
 omega
theorem znU (s : ByteArray) (k : Nat) (w : World) (hs : s.size ≤ 1073741824) (hk : k < s.size) :
  Calls Tryz.prog 77 #[.string s, .int .i64 k] w (zxE (zgJ (s.data.toList.drop k)) w) := by
 obtain ⟨c0, hc0⟩ : ∃ c, s[k].toNat = c := ⟨_, rfl⟩
 by_cases h2 : k + 2 < s.size
 ·obtain ⟨c1, hc1⟩ : ∃ c, s[k + 1].toNat = c := ⟨_, rfl⟩
  obtain ⟨c2, hc2⟩ : ∃ c, s[k + 2].toNat = c := ⟨_, rfl⟩
  have l1 : c1 < 256 := by rw [← hc1]; exact s[k + 1].toNat_lt
  have l2 : c2 < 256 := by rw [← hc2]; exact s[k + 2].toNat_lt
  by_cases h37 : c0 = 37
  ·subst h37
   obtain ⟨v1, hv1⟩ : ∃ v, valZ (c1 : Int) = v := ⟨_, rfl⟩
   obtain ⟨v2, hv2⟩ : ∃ v, valZ (c2 : Int) = v := ⟨_, rfl⟩
   have b1 : v1 < 16 := by rw [← hv1]; exact z3T _
   have b2 : v2 < 16 := by rw [← hv2]; exact z3T _
   have b3 : -1 ≤ v1 := by rw [← hv1]; exact z5T _
   have b4 : -1 ≤ v2 := by rw [← hv2]; exact z5T _
   have hb37 : ((37 : Int) != 37) = false := by decide
   by_cases hv : 0 ≤ v1 ∧ 0 ≤ v2
   ·obtain ⟨b5, b6⟩ := hv
    have HT := Lib.hid (zzU s k h2 hc0 (by rw [hc1, hv1]; exact b5) (by rw [hc2, hv2]; exact b6))
    rw [hc1, hc2, hv1, hv2] at HT
    have HO := Lib.hid (z9Z v1 v2 b5 b1 b6 b2)
    have HX := Lib.hid (z1C (v1 * 16 + v2) (by omega) (by omega))
    have p1 : (0 : Int) ≤ (k : Int) + 1 := by omega
    have p2 : (0 : Int) ≤ (k : Int) + 2 := by omega
    have p3 : (k : Int) + 1 < (s.size : Int) := by omega
    have p4 : (k : Int) + 2 < (s.size : Int) := by omega
    have q1 : IntKind.i64.wrap ((k : Int) + 1) = (k : Int) + 1 := IntWalk.i64_in _ (by omega)
    have q2 : IntKind.i64.wrap ((k : Int) + 2) = (k : Int) + 2 := IntWalk.i64_in _ (by omega)
    have r1 : ((k : Int) + 1).toNat = k + 1 := by omega
    have r2 : ((k : Int) + 2).toNat = k + 2 := by omega
    go_enter Tryz.func77, Tryz.ntmps77
    go_wp2_with fail
    go_quiet ((go_at_call 109; exact Calls.quiet_of_same ((zcQ _ _).mono fun _ _ h => ⟨h.1, h.2.symm⟩)))
    clear q1 q2 r1 r2
    go_wp2
    go_ret2
    exact zrW HT.out rfl (HO.out.trans HX.out) nq rfl
   ·have HT := Lib.hid (zuH s k h2 (by rw [hc1, hc2, hv1, hv2]; omega))
    have p1 : (0 : Int) ≤ (k : Int) + 1 := by omega
    have p2 : (0 : Int) ≤ (k : Int) + 2 := by omega
    have p3 : (k : Int) + 1 < (s.size : Int) := by omega
    have p4 : (k : Int) + 2 < (s.size : Int) := by omega
    by_cases hv1n : v1 < 0
    all_goals
     have q1 : IntKind.i64.wrap ((k : Int) + 1) = (k : Int) + 1 := IntWalk.i64_in _ (by omega)
     have q2 : IntKind.i64.wrap ((k : Int) + 2) = (k : Int) + 2 := IntWalk.i64_in _ (by omega)
     have r1 : ((k : Int) + 1).toNat = k + 1 := by omega
     have r2 : ((k : Int) + 2).toNat = k + 2 := by omega
     go_enter Tryz.func77, Tryz.ntmps77
     go_wp2_with fail
     go_quiet ((go_at_call 109; exact Calls.quiet_of_same ((zcQ _ _).mono fun _ _ h => ⟨h.1, h.2.symm⟩)))
     clear q1 q2 r1 r2
     have hv2n : v1 < 0 ∨ v2 < 0 := by omega
     go_wp2
     all_goals
      go_ret2
      exact zfS HT.out rfl nq rfl
  ·have HT := Lib.hid (zuH s k h2 (.inl (by rw [hc0]; exact h37)))
   have hb : ((c0 : Int) != 37) = true := by rw [bne_iff_ne]; omega
   go_enter Tryz.func77, Tryz.ntmps77
   go_wp2
   go_ret2
   exact zfS HT.out rfl 0 rfl
 ·have HT := Lib.hid (znE s k (by omega))
  by_cases h37 : c0 = 37
  ·subst h37
   go_enter Tryz.func77, Tryz.ntmps77
   go_wp2
   go_ret2
   exact zfS HT.out rfl 0 rfl
  ·have hb : ((c0 : Int) != 37) = true := by rw [bne_iff_ne]; omega
   go_enter Tryz.func77, Tryz.ntmps77
   go_wp2
   go_ret2
   exact zfS HT.out rfl 0 rfl
end
section
open Go.RowKit
theorem z8H (s : ByteArray) (f k : Nat) (h : ¬ k < s.size) : decL f (s.data.toList.drop k) = [] := by
 rw [zlJ s k h]
 cases f <;> rfl
theorem z2J (s : ByteArray) (f k : Nat) (v : UInt8) (h : k < s.size) (ht : zgJ (s.data.toList.drop k) = some v) : decL (f + 1) (s.data.toList.drop k) = v :: decL f (s.data.toList.drop (k + 3)) := by
 rw [zfV s k h] at ht ⊢
 simp only [decL, ht, List.drop_drop]
theorem z4J (s : ByteArray) (f k : Nat) (h : k < s.size) (ht : zgJ (s.data.toList.drop k) = none) : decL (f + 1) (s.data.toList.drop k) = s[k] :: decL f (s.data.toList.drop (k + 1)) := by
 rw [zfV s k h] at ht ⊢
 simp only [decL, ht]
theorem zzW (s : ByteArray) (k : Nat) (v : UInt8) (h : zgJ (s.data.toList.drop k) = some v) : k + 2 < s.size := by
 by_cases hk : k + 2 < s.size
 ·exact hk
 ·rw [znE s k (by omega)] at h; cases h
theorem zoN (s : ByteArray) (w : World) (hs : s.size ≤ 1073741824) :
  Calls Tryz.prog 54 #[.string s] w fun e w' => e = .returned (.string ⟨(decB s.data.toList).toArray⟩) ∧ Below w.heap.size w w' := by
 go_enter Tryz.func54, Tryz.ntmps54
 go_wp2
 go_loopw [4] (fun i wr => ∃ (k fuel : Nat) (T : List UInt8), i = .int .i64 k ∧ k ≤ s.size ∧ Lib.IsBuilderF 95 5 w.heap.size w.heap.size (Lib.byteCells T) wr ∧ Below w.heap.size w wr ∧ T.length ≤ k ∧ s.size ≤ k + fuel ∧ Hid (T ++ decL fuel (s.data.toList.drop k) = decB s.data.toList)) (fun i _ => s.size - (intOf i).toNat)
 case atStart =>
  refine ⟨0, s.size, [], rfl, Nat.zero_le _, Lib.IsBuilderF.of (Lib.fresh_isBuilder _ _ w), (Below.refl _ w).alloc (Nat.le_refl _) _, by simp, by omega, ?_⟩
  show [] ++ decL s.size (s.data.toList.drop 0) = decL s.data.toList.length s.data.toList
  rw [zaJ]; rfl
 case round =>
  obtain ⟨k, fuel, T, rfl, hk, hI, hbw, hTl, hfu, HD⟩ := hrel
  have hsz := hbw.size
  by_cases hlt : k < s.size
  ·obtain ⟨f, rfl⟩ : ∃ f, fuel = f + 1 := ⟨fuel - 1, by omega⟩
   cases hth : zgJ (s.data.toList.drop k) with
   | some v =>
    have hroom := zzW s k v hth
    have hD2 := HD.out
    rw [z2J s f k v hlt hth] at hD2
    have HD2 := Lib.hid hD2
    have HTH := Lib.hid hth
    clear hD2 hth
    go_wp2_with fail
    refine (znU s k _ hs hlt).mono ?_
    rw [HTH.out]
    rintro e w' ⟨rfl, nq, rfl⟩
    have hI2 : Lib.IsBuilderF 95 5 w.heap.size w.heap.size (Lib.byteCells T) (wr.drewN nq) := hI
    have hb2 := zbC hbw nq
    have hsz2 : w.heap.size ≤ (wr.drewN nq).heap.size := hsz
    generalize wr.drewN nq = w2 at *
    go_wp2_with fail
    refine (Tryz.Builder_WriteByte_k w.heap.size w.heap.size _ _ _ hI2 (by rw [Lib.byteCells_length]; omega) hsz2).mono ?_
    rintro e w3 ⟨rfl, h3, b3, _⟩
    go_wp2
    go_roundw
    case rel =>
     refine ⟨k + 3, f, T ++ [v], by go_num, by omega, ?_, hb2.trans b3, by simp; omega, by omega, ?_⟩
     ·rw [zjV T v _ rfl]; exact .inr h3
     ·show (T ++ [v]) ++ _ = _
      rw [List.append_assoc]; exact HD2.out
    case measure => simp [intOf]; omega
   | none =>
    have hD2 := HD.out
    rw [z4J s f k hlt hth] at hD2
    have HD2 := Lib.hid hD2
    have HTH := Lib.hid hth
    clear hD2 hth
    go_wp2_with fail
    refine (znU s k _ hs hlt).mono ?_
    rw [HTH.out]
    rintro e w' ⟨rfl, nq, rfl⟩
    have hI2 : Lib.IsBuilderF 95 5 w.heap.size w.heap.size (Lib.byteCells T) (wr.drewN nq) := hI
    have hb2 := zbC hbw nq
    have hsz2 : w.heap.size ≤ (wr.drewN nq).heap.size := hsz
    generalize wr.drewN nq = w2 at *
    go_wp2_with fail
    refine (Tryz.Builder_WriteByte_k w.heap.size w.heap.size _ _ _ hI2 (by rw [Lib.byteCells_length]; omega) hsz2).mono ?_
    rintro e w3 ⟨rfl, h3, b3, _⟩
    go_wp2
    go_roundw
    case rel =>
     refine ⟨k + 1, f, T ++ [s[k]], by go_num, by omega, ?_, hb2.trans b3, by simp; omega, by omega, ?_⟩
     ·rw [zjV T s[k] _ rfl]; exact .inr h3
     ·show (T ++ [s[k]]) ++ _ = _
      rw [List.append_assoc]; exact HD2.out
    case measure => simp [intOf]; omega
  ·have hfin : T = decB s.data.toList := by
    have := HD.out
    rwa [z8H s fuel k hlt, List.append_nil] at this
   subst hfin
   go_wp2_with fail
   refine (Tryz.Builder_String_any_k w.heap.size w.heap.size _ _ hI (by omega)).mono ?_
   rintro e w1 ⟨rfl, _, b1, _⟩
   go_wp2
   go_ret
   exact ⟨rfl, hbw.trans b1⟩
end
section
open Go.RowKit
def pctL (l : List UInt8) : List UInt8 := l.flatMap pctB
def encP (s r : Int) : List UInt8 := if inB s r = true then pctL (Lib.encodeRune r) else Lib.encodeRune r
def encB (s : Int) (l : List Int) : List UInt8 := l.flatMap (encP s)
theorem zyR (l : List UInt8) : (pctL l).length = 3 * l.length := by
 induction l with
 | nil => rfl
 | cons c l ih => simp only [pctL, List.flatMap_cons, List.length_append] at ih ⊢; rw [ih]; simp [pctB]; omega
theorem z9K (s r : Int) : (encP s r).length ≤ 12 := by
 have := zgR r
 unfold encP
 split
 ·rw [zyR]; omega
 ·omega
theorem z2S (l : List UInt8) (k : Nat) (h : k < l.length) : pctL (l.take (k + 1)) = pctL (l.take k) ++ pctB l[k] := by
 unfold pctL
 rw [List.take_succ_eq_append_getElem h, List.flatMap_append]
 simp
theorem z3R (s r : Int) (l : List Int) : encB s (r :: l) = encP s r ++ encB s l := by simp [encB]
theorem zuA {T e : TypeId} {B b : Nat} {bs : List Value} {w w' : World} (h : Lib.IsBuilderF T e B b bs w) (hb : Below w.heap.size w w') : Lib.IsBuilderF T e B b bs w' := by
 have key : ∀ p, Lib.BuilderAtF T e B b p bs w → Lib.BuilderAtF T e B b p bs w' := by
  intro p hh
  obtain ⟨hB, v, hv, hown, hne⟩ := hh
  refine ⟨hB, v, (hb.block b (Array.getElem?_eq_some_iff.1 hv).1).trans hv, ⟨hown.1, ?_⟩, hne⟩
  rcases hown.2 with hn | ⟨g, cap, cur, fz, hv2, hbg, hg, rest⟩
  ·exact .inl hn
  ·exact .inr ⟨g, cap, cur, fz, hv2, hbg, (hb.block g (Array.getElem?_eq_some_iff.1 hg).1).trans hg, rest⟩
 exact h.elim (fun x => .inl (key _ x)) (fun x => .inr (key _ x))
theorem ycI (w : World) (r : Int) (t : TypeId) : RowR (w.alloc (.cells #[.int .i32 r] t)) (.slice (some ⟨w.heap.size, 0, none⟩) 1 1) ([r].map (Value.int .i32)) := by
 refine ⟨_, 1, rfl, fun j u hj => ⟨_, rfl, ?_⟩⟩
 exact zwV w (.int .i32 r) t j u hj
theorem zuP (l : List UInt8) : Lib.strCells ⟨l.toArray⟩ = Lib.byteCells l := rfl
theorem z1R (l : List UInt8) (k : Nat) (h : k < (ByteArray.mk l.toArray).size) : (ByteArray.mk l.toArray)[k] = l[k]'(by simpa [ByteArray.size] using h) := rfl
theorem zyV (st : Int) (s : ByteArray) (w : World) (hst : 0 ≤ st) (hs : s.size ≤ 67108864) :
  Calls Tryz.prog 212 #[.int .u8 st, .string s] w fun e w' => e = .returned (.string ⟨(encB st (scal s)).toArray⟩) ∧ Below w.heap.size w w' := by
 go_enter Tryz.func212, Tryz.ntmps212
 go_wp2
 go_loopw [] (fun wr => ∃ (pos fuel : Nat) (acc : List UInt8), Lib.IsBuilderF 95 5 w.heap.size w.heap.size (Lib.byteCells acc) wr ∧ wr.heap[w.heap.size + 1]? = some (.stringIter s pos) ∧ Below w.heap.size w wr ∧ Hid (acc ++ encB st (zqP s fuel pos) = encB st (scal s)) ∧ s.size ≤ pos + fuel ∧ acc.length ≤ 12 * pos ∧ pos ≤ s.size + 4) (fun wr => s.size - wr.iterPos (w.heap.size + 1))
 case atStart =>
  refine ⟨0, s.size, [], (Lib.IsBuilderF.of (Lib.fresh_isBuilder _ _ w)).alloc _, ?_, ((Below.refl _ w).alloc (Nat.le_refl _) _).alloc (by simp) _, rfl, by omega, by simp, by omega⟩
  have := World.iter_heap (w.alloc (.cells #[.pointer none, .slice none 0 0] 95)) s 0
  simpa using this
 case round =>
  obtain ⟨pos, fuel, acc, hI, hit, hbw, HA, hfu, hal, hpo⟩ := hrel
  have hsz : w.heap.size + 1 < wr.heap.size := (Array.getElem?_eq_some_iff.1 hit).1
  by_cases hp : pos < s.size
  ·have hnx : ∀ ty, (Instr.next (.pointer (some ⟨w.heap.size + 1, 0, none⟩)) true ty).run Tryz.prog wr = _ := fun ty => Lib.run_next_any_at wr (w.heap.size + 1) s pos ty hit hp
   have hwd := znO s pos hp
   have hwl := zyQ s pos
   have hd1 := decode_le s pos
   have hI2 := hI.iterAt hit (pos + (Utf8.decode s pos).2)
   have hit2 := Lib.iterAt_heap wr (w.heap.size + 1) s pos (pos + (Utf8.decode s pos).2) hit
   have hbw2 := Lib.below_iterAt hbw (k := w.heap.size + 1) (by omega) s (pos + (Utf8.decode s pos).2)
   have hsz2 : w.heap.size + 1 < (wr.iterAt (w.heap.size + 1) s (pos + (Utf8.decode s pos).2)).heap.size := by rw [Lib.iterAt_size]; omega
   obtain ⟨f, rfl⟩ : ∃ f, fuel = f + 1 := ⟨fuel - 1, by omega⟩
   have hA2 := HA.out
   rw [zpA s f pos hp, z3R] at hA2
   have HA2 := Lib.hid hA2
   clear hA2
   generalize wr.iterAt (w.heap.size + 1) s (pos + (Utf8.decode s pos).2) = wi at *
   generalize hr : ((Utf8.decode s pos).1 : Int) = r at *
   have hr0 : 0 ≤ r := by omega
   have hr1 : r ≤ 2147483647 := by omega
   have HWP : Hid (wr.iterPos (w.heap.size + 1) = pos) := by
    show wr.iterPos (w.heap.size + 1) = pos
    simp only [World.iterPos, hit]
   clear hr
   have hel := zgR r
   cases hin : inB st r with
   | false =>
    have hep : encP st r = Lib.encodeRune r := by unfold encP; rw [hin]; rfl
    have HEP := Lib.hid hep
    clear hep
    go_wp2_with fail
    refine (yaE st r _ hst).mono ?_
    rintro e w' ⟨rfl, rfl⟩
    rw [hin]
    go_wp2_with fail
    refine (Tryz.Builder_WriteRune_k w.heap.size w.heap.size _ r (by omega) hr1 _ hI2 (by rw [Lib.byteCells_length]; omega) (by omega)).mono ?_
    rintro e w1 ⟨rfl, h1, b1, k1⟩
    have hit3 := k1.iter hit2 (by omega)
    go_wp2
    go_roundw
    case rel =>
     refine ⟨pos + (Utf8.decode s pos).2, f, acc ++ Lib.encodeRune r, ?_, hit3, hbw2.trans b1, ?_, by omega, by simp; omega, by omega⟩
     ·rw [Lib.byteCells_append, Lib.byteCells_encodeRune]; exact .inr h1
     ·show (acc ++ Lib.encodeRune r) ++ _ = _
      rw [List.append_assoc, ← HEP.out]; exact HA2.out
    case measure =>
     rw [HWP.out]
     simp only [World.iterPos, hit3]
     omega
   | true =>
    have hep : encP st r = pctL (Lib.encodeRune r) := by unfold encP; rw [hin]; rfl
    have HEP := Lib.hid hep
    clear hep
    go_wp2_with fail
    refine (yaE st r _ hst).mono ?_
    rintro e w' ⟨rfl, rfl⟩
    rw [hin]
    have hrow := ycI wi r 21
    have hI3 := hI2.alloc (.cells #[.int .i32 r] 21)
    have hit3 : (wi.alloc (.cells #[.int .i32 r] 21)).heap[w.heap.size + 1]? = some (.stringIter s (pos + (Utf8.decode s pos).2)) := by rw [Below.heap_alloc _ _ _ (by omega)]; exact hit2
    have hbw3 := hbw2.alloc (by omega : w.heap.size ≤ wi.heap.size) (.cells #[.int .i32 r] 21)
    go_wp2_with fail
    refine (z7T _ [r] _ hrow (by simp) (by intro x hx; simp at hx; omega)).mono ?_
    rintro e w2 ⟨rfl, hb2⟩
    have hI4 := zuA hI3 hb2
    have hit4 := (hb2.block (w.heap.size + 1) (by simp; omega)).trans hit3
    have hbw4 : Below w.heap.size w w2 := hbw3.trans (hb2.mono (by simp; omega))
    clear hI2 hI3 hit2 hit3 hbw2 hbw3 hrow hb2
    rw [show zjS [r] = Lib.encodeRune r from by simp [zjS]]
    generalize hE : Lib.encodeRune r = E at *
    have HE := Lib.hid hE
    clear hE
    go_wp2
    go_loopw [26] (fun i wq => ∃ j : Nat, j ≤ E.length ∧ i = .int .i64 j ∧ Lib.IsBuilderF 95 5 w.heap.size w.heap.size (Lib.byteCells (acc ++ pctL (E.take j))) wq ∧ wq.heap[w.heap.size + 1]? = some (.stringIter s (pos + (Utf8.decode s pos).2)) ∧ Below w.heap.size w wq) (fun i _ => E.length - (intOf i).toNat)
    case atStart =>
     refine ⟨0, Nat.zero_le _, rfl, ?_, hit4, hbw4⟩
     simpa [pctL] using hI4
    case round =>
     obtain ⟨j, hj, rfl, hIq, hitq, hbwq⟩ := hrel
     have hszq : w.heap.size + 1 < wr.heap.size := (Array.getElem?_eq_some_iff.1 hitq).1
     by_cases hjlt : j < E.length
     ·have hjs : j < (ByteArray.mk E.toArray).size := by rw [zaD]; exact hjlt
      have hsn := z2S E j hjlt
      have HSN := Lib.hid hsn
      have hpl : (pctL (E.take j)).length ≤ 12 := by rw [zyR, List.length_take]; omega
      clear hsn
      have hba := z1R E j hjs
      have HBA := Lib.hid hba
      clear hba
      go_wp2_with fail
      refine (z9E (ByteArray.mk E.toArray)[j] _).mono ?_
      rintro e w3 ⟨rfl, hb3⟩
      have hI5 := zuA hIq hb3
      have hit5 := (hb3.block (w.heap.size + 1) (by omega)).trans hitq
      have hbw5 : Below w.heap.size w w3 := hbwq.trans (hb3.mono (by omega))
      have hsz3 : w.heap.size ≤ w3.heap.size := hbw5.size
      go_wp2_with fail
      refine (Tryz.Builder_WriteString_k w.heap.size w.heap.size _ _ _ hI5 (by rw [Lib.byteCells_length, List.length_append, zaD, show (pctB (ByteArray.mk E.toArray)[j]).length = 3 from rfl]; omega) hsz3).mono ?_
      rintro e w4 ⟨rfl, h4, b4, k4⟩
      have hit6 := k4.iter hit5 (by omega)
      go_wp2
      go_roundw
      case rel =>
       refine ⟨j + 1, by omega, by go_num, ?_, hit6, hbw5.trans b4⟩
       rw [HSN.out, ← List.append_assoc, Lib.byteCells_append, ← HBA.out, ← zuP]
       exact .inr h4
      case measure => simp [intOf]; omega
     ·have hfin : pctL (E.take j) = encP st r := by rw [List.take_of_length_le (by omega), HEP.out]
      rw [hfin] at hIq
      clear hfin
      have hpl := z9K st r
      generalize encP st r = EP at *
      go_wp2
      go_roundw
      case rel =>
       refine ⟨pos + (Utf8.decode s pos).2, f, acc ++ EP, hIq, hitq, hbwq, ?_, by omega, by simp; omega, by omega⟩
       show (acc ++ EP) ++ _ = _
       rw [List.append_assoc]; exact HA2.out
      case measure =>
       simp only [World.iterPos, hitq]
       have := HWP.out
       simp only [World.iterPos] at this
       omega
  ·have hnx : ∀ ty, (Instr.next (.pointer (some ⟨w.heap.size + 1, 0, none⟩)) true ty).run Tryz.prog wr = _ := fun ty => Lib.run_next_end_at wr (w.heap.size + 1) s pos ty hit hp
   have hfin : acc = encB st (scal s) := by
    have := HA.out
    rw [zrG s fuel pos hp] at this
    simpa [encB] using this
   subst hfin
   go_wp2_with fail
   refine (Tryz.Builder_String_any_k w.heap.size w.heap.size _ _ hI (by omega)).mono ?_
   rintro e w1 ⟨rfl, _, b1, _⟩
   go_wp2
   go_ret
   exact ⟨rfl, hbw.trans b1⟩
end
section
open Go.RowKit
theorem z6H : encB 4 (scal ⟨#[97, 32, 98]⟩) = [97, 37, 50, 48, 98] := by decide +kernel
theorem z2U : decB [37, 50, 53, 52, 49] = [37, 52, 49] := by decide +kernel
theorem z0N (w : World) :
  Calls Tryz.prog 211 #[] w fun e w' => e = .returned (.bool true) ∧ Below w.heap.size w w' := by
 go_enter Tryz.func211, Tryz.ntmps211
 go_wp2_with fail
 refine (z3B _).mono ?_
 rintro e w1 ⟨rfl, hb⟩
 go_wp2
 go_ret
 exact ⟨rfl, hb⟩
theorem zwY (w : World) :
  Calls Tryz.prog 210 #[] w fun e w' => e = .returned (.bool true) ∧ Below w.heap.size w w' := by
 go_enter Tryz.func210, Tryz.ntmps210
 go_wp2_with fail
 refine (z0N _).mono ?_
 rintro e w1 ⟨rfl, hb1⟩
 go_wp2_with fail
 refine (zyV 4 _ _ (by decide) (by decide)).mono ?_
 rintro e w2 ⟨rfl, hb2⟩
 rw [z6H]
 have hc2 : Below w.heap.size w w2 := hb1.trans (hb2.mono hb1.size)
 clear hb1 hb2
 go_wp2_with fail
 refine (zoN _ _ (by decide)).mono ?_
 rintro e w3 ⟨rfl, hb3⟩
 have hd : decB (ByteArray.mk #[37, 50, 53, 52, 49]).data.toList = [37, 52, 49] := z2U
 rw [hd]
 have hc3 : Below w.heap.size w w3 := hc2.trans (hb3.mono hc2.size)
 clear hc2 hb3 hd
 go_wp2
 go_ret
 exact ⟨by first | rfl | exact zaQ (by decide), hc3⟩
end
section
open Go.RowKit
def digC (b : Int) (c : UInt8) : Bool := decide (0 ≤ valZ (c.toNat : Int) ∧ valZ (c.toNat : Int) < b)
def zbL (b : Int) (l : List UInt8) : Bool := l.all (digC b)
def capZ (x : Int) : Int := if 1099511627776 < x then 1099511627776 else x
def zvR (b : Int) (n : Int) (c : UInt8) : Int := capZ (n * b + valZ (c.toNat : Int))
def numZ (b : Int) (l : List UInt8) : Int := l.foldl (zvR b) 0
/-- the digits, and the base that stands ahead of them -/
def zgB (l : List UInt8) : List UInt8 × Int :=
 match l with
 | a :: c :: r => if a.toNat = 48 then (if c.toNat = 120 ∨ c.toNat = 88 then (r, 16) else (c :: r, 8)) else (a :: c :: r, 10)
 | _ => (l, 10)
def zbP (l : List UInt8) : Int × Bool :=
 if l.isEmpty then (0, false) else if zbL (zgB l).2 (zgB l).1 then (numZ (zgB l).2 (zgB l).1, true) else (0, false)
theorem zzT (b : Int) (s : ByteArray) (k : Nat) (h : k < s.size) : zbL b (s.data.toList.take (k + 1)) = (zbL b (s.data.toList.take k) && digC b s[k]) := by
 rw [zeC s k h]; simp [zbL]
theorem zrT (b : Int) (s : ByteArray) (k : Nat) (h : k < s.size) : numZ b (s.data.toList.take (k + 1)) = zvR b (numZ b (s.data.toList.take k)) s[k] := by
 rw [zeC s k h]; simp [numZ]
theorem ziX {b : Int} {c : UInt8} {v : Int} (hv : valZ (c.toNat : Int) = v) (h0 : 0 ≤ v) (h1 : v < b) : digC b c = true := decide_eq_true (by rw [hv]; exact ⟨h0, h1⟩)
theorem zeB {b : Int} {c : UInt8} {v : Int} (hv : valZ (c.toNat : Int) = v) (h : v < 0 ∨ b ≤ v) : digC b c = false := decide_eq_false (by rw [hv]; omega)
theorem zdZ (b : Int) (s : ByteArray) (k : Nat) (h : k < s.size) (hc : digC b s[k] = false) : zbL b s.data.toList = false := by
 unfold zbL
 rw [List.all_eq_false]
 refine ⟨s[k], ?_, by rw [hc]; simp⟩
 show s.data[k] ∈ _
 simp
theorem ziZ (b : Int) (s : ByteArray) (k : Nat) (h : k < s.size) (hp : zbL b (s.data.toList.take k) = true) (hc : digC b s[k] = true) : zbL b (s.data.toList.take (k + 1)) = true := by
 rw [zzT b s k h, hp, hc]; rfl
theorem zjL (r : Int) (h : 128 ≤ r) : valZ r = -1 := by
 unfold valZ; (repeat' split) <;> omega
theorem zyI (r : Int) : valZ r < 16 := by
 unfold valZ; (repeat' split) <;> omega
theorem ybW (x : Int) : capZ x ≤ 1099511627776 := by unfold capZ; split <;> omega
theorem z4U {x : Int} (h : 1099511627776 < x) : capZ x = 1099511627776 := if_pos h
theorem z2O {x : Int} (h : ¬ 1099511627776 < x) : capZ x = x := if_neg h
theorem zyA (b n : Int) (c : UInt8) (v : Int) (hv : valZ (c.toNat : Int) = v) : zvR b n c = capZ (n * b + v) := by rw [zvR, hv]
theorem zoV (l : List UInt8) : (zgB l).2 = 8 ∨ (zgB l).2 = 10 ∨ (zgB l).2 = 16 := by
 unfold zgB
 repeat' split
 all_goals simp
theorem zpP (s : ByteArray) (h : 2 ≤ s.size) : ∃ r, s.data.toList = s[0] :: s[1] :: r ∧ s.data.toList.drop 2 = r := by
 refine ⟨s.data.toList.drop 2, ?_, rfl⟩
 have e0 : s.data.toList = s.data.toList.drop 0 := rfl
 conv => lhs; rw [e0, List.drop_eq_getElem_cons (by simp; omega), List.drop_eq_getElem_cons (by simp; omega)]
 rfl
theorem zlT (s : ByteArray) (h : s.size < 2) : zgB s.data.toList = (s.data.toList, 10) := by
 have hl := zaJ s
 match hd : s.data.toList, hl with
 | [], _ => rfl
 | [a], _ => rfl
 | a :: c :: r, hl => simp at hl; omega
theorem zrM (s : ByteArray) (h : 2 ≤ s.size) (h0 : s[0].toNat ≠ 48) : zgB s.data.toList = (s.data.toList, 10) := by
 obtain ⟨r, hr, _⟩ := zpP s h
 rw [hr]; simp [zgB, h0]
theorem zuE (s : ByteArray) (h : 2 ≤ s.size) (h0 : s[0].toNat = 48) (h1 : s[1].toNat = 120 ∨ s[1].toNat = 88) : zgB s.data.toList = (s.data.toList.drop 2, 16) := by
 obtain ⟨r, hr, h2⟩ := zpP s h
 rw [h2, hr]; simp only [zgB, h0, h1, if_true]
theorem zrH (s : ByteArray) (h : 2 ≤ s.size) (h0 : s[0].toNat = 48) (h1 : ¬ (s[1].toNat = 120 ∨ s[1].toNat = 88)) : zgB s.data.toList = (s.data.toList.drop 1, 8) := by
 obtain ⟨r, hr, _⟩ := zpP s h
 rw [hr]; simp only [zgB, h0, h1, if_true, if_false]; rfl
theorem zkI (s : ByteArray) (a : Nat) : s.extract a s.size = ⟨(s.data.toList.drop a).toArray⟩ :=
 zeS s a s.size _ (List.take_of_length_le (by simp))
def z6G (w : World) (x : List UInt8 × Int) (e : Ending) (w' : World) : Prop := e = .returned (.tuple #[.string ⟨x.1.toArray⟩, .int .i64 x.2]) ∧ w = w'
theorem zhV {w : World} {x : List UInt8 × Int} {y : ByteArray} {b : Int} {l : List UInt8} (h : x = (l, b)) (hy : y = ⟨l.toArray⟩) : z6G w x (.returned (.tuple #[.string y, .int .i64 b])) w := by
 subst h hy; exact ⟨rfl, rfl⟩
theorem zmS (s : ByteArray) (w : World) (hs : s.size ≤ 1073741824) :
  Calls Tryz.prog 112 #[.string s] w (z6G w (zgB s.data.toList)) := by
 by_cases h2 : s.size < 2
 ·have HR := Lib.hid (zlT s h2)
  go_enter Tryz.func112, Tryz.ntmps112
  go_wp2
  go_ret2
  exact zhV HR.out (by simp)
 ·have h2' : 2 ≤ s.size := by omega
  have l0 : 0 < s.size := by omega
  have l1 : 1 < s.size := by omega
  obtain ⟨a, ha⟩ : ∃ a, s[0].toNat = a := ⟨_, rfl⟩
  obtain ⟨c, hc⟩ : ∃ a, s[1].toNat = a := ⟨_, rfl⟩
  by_cases h48 : a = 48
  ·subst h48
   by_cases hx : c = 120 ∨ c = 88
   ·have HR := Lib.hid (zuE s h2' ha (by rw [hc]; exact hx))
    rcases hx with rfl | rfl
    all_goals
     go_enter Tryz.func112, Tryz.ntmps112
     go_wp2
     go_ret2
     exact zhV HR.out (zkI s 2)
   ·have HR := Lib.hid (zrH s h2' ha (by rw [hc]; exact hx))
    have b1 : ((c : Int) == 120) = false := beq_eq_false_iff_ne.2 (by omega)
    have b2 : ((c : Int) == 88) = false := beq_eq_false_iff_ne.2 (by omega)
    clear hx
    go_enter Tryz.func112, Tryz.ntmps112
    go_wp2
    go_ret2
    exact zhV HR.out (zkI s 1)
  ·have HR := Lib.hid (zrM s h2' (by rw [ha]; exact h48))
   have b1 : ((a : Int) != 48) = true := by rw [bne_iff_ne]; omega
   go_enter Tryz.func112, Tryz.ntmps112
   go_wp2
   go_ret2
   exact zhV HR.out (by simp)
def zxK (w : World) (x : Int × Bool) (e : Ending) (w' : World) : Prop := e = .returned (.tuple #[.int .u64 x.1, .bool x.2]) ∧ Below w.heap.size w w'
theorem zcM {w w' : World} {x : Int × Bool} {n : Int} {b : Bool} (h : x = (n, b)) (hb : Below w.heap.size w w') : zxK w x (.returned (.tuple #[.int .u64 n, .bool b])) w' := by
 subst h; exact ⟨rfl, hb⟩
theorem zbV (s : ByteArray) (b : Int) (w : World) (hs : s.size ≤ 1073741824) :
  Calls Tryz.prog 87 #[.string s, .int .i64 b] w fun e w' => e = .returned (.bool (zbL b s.data.toList)) ∧ w = w' := by
 go_enter Tryz.func87, Tryz.ntmps87
 go_wp2
 go_loop [5] (fun i => ∃ k : Nat, k ≤ s.size ∧ i = .int .i64 k ∧ Hid (zbL b (s.data.toList.take k) = true)) (fun i => s.size - (intOf i).toNat)
 case atStart => exact ⟨0, Nat.zero_le _, rfl, rfl⟩
 case round =>
  obtain ⟨k, hk, rfl, H⟩ := hrel
  by_cases hlt : k < s.size
  ·obtain ⟨c, hc⟩ : ∃ c, (s[k]'hlt).toNat = c := ⟨_, rfl⟩
   have hc256 : c < 256 := by rw [← hc]; exact (s[k]'hlt).toNat_lt
   obtain ⟨v, hv⟩ : ∃ v, valZ (c : Int) = v := ⟨_, rfl⟩
   have HV : Hid (valZ (s[k].toNat : Int) = v) := by show valZ (s[k].toNat : Int) = v; rw [hc]; exact hv
   by_cases h0 : v < 0
   ·have HF := Lib.hid (zdZ b s k hlt (zeB HV.out (.inl h0)))
    go_wp2_with (go_at_call 85; refine (zeL _ _).mono ?_; rintro e w' ⟨rfl, rfl⟩)
    go_ret
    exact ⟨zaQ HF.out.symm, rfl⟩
   ·by_cases h1 : b ≤ v
    ·have HF := Lib.hid (zdZ b s k hlt (zeB HV.out (.inr h1)))
     go_wp2_with (go_at_call 85; refine (zeL _ _).mono ?_; rintro e w' ⟨rfl, rfl⟩)
     go_ret
     exact ⟨zaQ HF.out.symm, rfl⟩
    ·have HF := Lib.hid (ziZ b s k hlt H.out (ziX HV.out (by omega) (by omega)))
     go_wp2_with (go_at_call 85; refine (zeL _ _).mono ?_; rintro e w' ⟨rfl, rfl⟩)
     go_round
     case rel => exact ⟨k + 1, by omega, by go_num, HF⟩
     case measure => simp [intOf]; omega
  ·have HF : Hid (zbL b s.data.toList = true) := by
    show zbL b s.data.toList = true
    have := H.out
    rwa [zdH s k hlt] at this
   go_wp2
   go_ret
   exact ⟨zaQ HF.out.symm, rfl⟩
theorem ycO (b : Int) (s : ByteArray) (k : Nat) (h : k < s.size) (hd : zbL b s.data.toList = true) : 0 ≤ valZ (s[k].toNat : Int) ∧ valZ (s[k].toNat : Int) < b := by
 unfold zbL at hd
 rw [List.all_eq_true] at hd
 have := hd s[k] (by show s.data[k] ∈ _; simp)
 exact of_decide_eq_true this
theorem zeH (s : ByteArray) (b : Int) (w : World) (hs : s.size ≤ 1073741824) (hb : b = 8 ∨ b = 10 ∨ b = 16) (hd : zbL b s.data.toList = true) :
  Calls Tryz.prog 115 #[.string s, .int .i64 b] w fun e w' => e = .returned (.int .u64 (numZ b s.data.toList)) ∧ w = w' := by
 have HD := Lib.hid hd
 clear hd
 have hb1 : 8 ≤ b := by omega
 have hb2 : b ≤ 16 := by omega
 clear hb
 go_enter Tryz.func115, Tryz.ntmps115
 go_wp2
 go_loop [5, 6] (fun n i => ∃ (k : Nat) (A : Int), k ≤ s.size ∧ i = .int .i64 k ∧ n = .int .i64 A ∧ 0 ≤ A ∧ A ≤ 1099511627776 ∧ Hid (A = numZ b (s.data.toList.take k))) (fun _ i => s.size - (intOf i).toNat)
 case atStart => exact ⟨0, 0, Nat.zero_le _, rfl, rfl, by omega, by omega, rfl⟩
 case round =>
  obtain ⟨k, A, hk, rfl, rfl, hA0, hA1, HA⟩ := hrel
  by_cases hlt : k < s.size
  ·obtain ⟨c, hc⟩ : ∃ c, (s[k]'hlt).toNat = c := ⟨_, rfl⟩
   have hc256 : c < 256 := by rw [← hc]; exact (s[k]'hlt).toNat_lt
   obtain ⟨v, hv⟩ : ∃ v, valZ (c : Int) = v := ⟨_, rfl⟩
   have hvb := ycO b s k hlt HD.out
   rw [hc, hv] at hvb
   obtain ⟨hv0, hv1⟩ := hvb
   have hsn := zrT b s k hlt
   rw [← HA.out, zyA _ _ _ v (by rw [hc]; exact hv)] at hsn
   have HSN := Lib.hid hsn
   clear hsn
   have hP0 : 0 ≤ A * b := Int.mul_nonneg hA0 (by omega)
   have hP1 : A * b ≤ 1099511627776 * 16 := Int.mul_le_mul hA1 hb2 (by omega) (by omega)
   by_cases ht : 1099511627776 < A * b + v
   ·have HC := Lib.hid (HSN.out.trans (z4U ht))
    go_wp2_with (go_at_call 85; refine (zeL _ _).mono ?_; rintro e w' ⟨rfl, rfl⟩)
    go_round
    case rel => exact ⟨k + 1, 1099511627776, by omega, by go_num, rfl, by omega, by omega, HC.out.symm⟩
    case measure => simp [intOf]; omega
   ·have HC := Lib.hid (HSN.out.trans (z2O ht))
    go_wp2_with (go_at_call 85; refine (zeL _ _).mono ?_; rintro e w' ⟨rfl, rfl⟩)
    go_round
    case rel => exact ⟨k + 1, _, by omega, by go_num, rfl, by omega, by omega, HC.out.symm⟩
    case measure => simp [intOf]; omega
  ·have HF : Hid (numZ b s.data.toList = A) := by
    show numZ b s.data.toList = A
    rw [HA.out, zdH s k hlt]
   go_wp2
   go_ret
   exact ⟨zcH HF.out.symm, rfl⟩
end
section
open Go.RowKit
theorem zhS (l : List UInt8) (r : List UInt8) (b : Int) (h : zgB l = (r, b)) (hd : zbL b r = false) : zbP l = (0, false) := by
 unfold zbP
 rw [h, hd]
 split <;> rfl
theorem zgK (l : List UInt8) (r : List UInt8) (b : Int) (h : zgB l = (r, b)) (hn : l ≠ []) (hd : zbL b r = true) : zbP l = (numZ b r, true) := by
 unfold zbP
 rw [h, hd]
 cases l with
 | nil => exact absurd rfl hn
 | cons a t => rfl
theorem zwL (s : ByteArray) (h : s.size = 0) : s.data.toList = [] := List.length_eq_zero_iff.1 (by rw [zaJ]; exact h)
theorem zdF (s : ByteArray) (h : s.size ≠ 0) : s.data.toList ≠ [] := fun e => h (by rw [← zaJ, e]; rfl)
theorem z4B (s : ByteArray) : ByteArray.mk s.data.toList.toArray = s := by simp
theorem zaG (l : List UInt8) : (ByteArray.mk l.toArray).data.toList = l := by simp
theorem zdE (s : ByteArray) (h : s.size = 0) : s = ⟨#[]⟩ := by
 apply ByteArray.ext
 apply Array.ext'
 exact zwL s h
theorem zeF (s : ByteArray) (h : s.size ≠ 0) : s.toList.isEmpty = false := by
 rw [ByteArray.toList_eq]
 cases hd : s.data.toList with
 | nil => exact absurd hd (zdF s h)
 | cons a l => rfl
theorem z0C (s : ByteArray) (d : ByteArray) (b : Int) (w : World) (hs : s.size ≤ 1073741824) (hn : s.size ≠ 0) (hb : b = 8 ∨ b = 10 ∨ b = 16) (hr : zgB s.data.toList = (d.data.toList, b)) :
  Calls Tryz.prog 81 #[.string s] w (zxK w (zbP s.data.toList)) := by
 have HR := Lib.hid hr
 have HNO := Lib.hid (zhS s.data.toList _ b hr)
 have HYES := Lib.hid (zgK s.data.toList _ b hr (zdF s hn))
 have hse := zeF s hn
 clear hr hn
 have hb1 : 8 ≤ b := by omega
 have hb2 : b ≤ 16 := by omega
 clear hb
 go_enter Tryz.func81, Tryz.ntmps81
 go_wp2_with fail
 refine (zmS s _ hs).mono ?_
 rw [HR.out]
 rintro e w' ⟨rfl, rfl⟩
 simp only [z4B]
 go_wp2
 go_loopw [6] (fun n wr => ∃ (k : Nat) (A : Int), n = .int .u64 A ∧ 0 ≤ A ∧ A ≤ 1099511627776 ∧ k ≤ d.size ∧ wr.heap[w.heap.size]? = some (.stringIter d k) ∧ Below w.heap.size w wr ∧ w.heap.size + 1 ≤ wr.heap.size ∧ Hid (A = numZ b (d.data.toList.take k)) ∧ Hid (zbL b (d.data.toList.take k) = true)) (fun _ wr => d.size - wr.iterPos w.heap.size)
 case atStart => exact ⟨0, 0, rfl, by omega, by omega, Nat.zero_le _, World.iter_heap w d 0, (Below.refl _ w).alloc (Nat.le_refl _) _, by simp [World.iter], rfl, rfl⟩
 case round =>
  obtain ⟨k, A, rfl, hA0, hA1, hk, hit, hbw, hsz, HA, HDG⟩ := hrel
  by_cases hp : k < d.size
  ·obtain ⟨c, hc⟩ : ∃ c, (d[k]'hp).toNat = c := ⟨_, rfl⟩
   have hnx : ∀ ty, (Instr.next (.pointer (some ⟨w.heap.size, 0, none⟩)) true ty).run Tryz.prog wr = _ := fun ty => Lib.run_next_any_at wr w.heap.size d k ty hit hp
   by_cases hc128 : c < 128
   ·have hdec := decode_ascii d k hp (by omega)
    rw [hc] at hdec
    rw [hdec] at hnx
    have hit2 := Lib.iterAt_heap wr w.heap.size d k (k + 1) hit
    have hbw2 := Lib.below_iterAt hbw (k := w.heap.size) (Nat.le_refl _) d (k + 1)
    have hsz2 : w.heap.size + 1 ≤ (wr.iterAt w.heap.size d (k + 1)).heap.size := by rw [Lib.iterAt_size]; exact hsz
    simp only at hnx
    generalize wr.iterAt w.heap.size d (k + 1) = wi at *
    obtain ⟨v, hv⟩ : ∃ v, valZ (c : Int) = v := ⟨_, rfl⟩
    have hv16 : v < 16 := by rw [← hv]; exact zyI _
    have HV : Hid (valZ (d[k].toNat : Int) = v) := by show valZ (d[k].toNat : Int) = v; rw [hc]; exact hv
    have HIT := Lib.hid hit
    have HC := Lib.hid hc
    clear hit hc hdec
    by_cases h0 : v < 0
    ·have HF := Lib.hid (HNO.out (zdZ b d k hp (zeB HV.out (.inl h0))))
     go_wp2_with (go_at_call 109; refine (zcQ _ _).mono ?_; rintro e w' ⟨rfl, rfl⟩)
     go_ret2
     exact zcM HF.out hbw2
    ·by_cases h1 : b ≤ v
     ·have HF := Lib.hid (HNO.out (zdZ b d k hp (zeB HV.out (.inr h1))))
      go_wp2_with (go_at_call 109; refine (zcQ _ _).mono ?_; rintro e w' ⟨rfl, rfl⟩)
      go_ret2
      exact zcM HF.out hbw2
     ·have HF := Lib.hid (ziZ b d k hp HDG.out (ziX HV.out (by omega) (by omega)))
      have hsn := zrT b d k hp
      rw [← HA.out, zyA _ _ _ v HV.out] at hsn
      have HSN := Lib.hid hsn
      clear hsn
      have hP0 : 0 ≤ A * b := Int.mul_nonneg hA0 (by omega)
      have hP1 : A * b ≤ 1099511627776 * 16 := Int.mul_le_mul hA1 hb2 (by omega) (by omega)
      by_cases ht : 1099511627776 < A * b + v
      ·have HC2 := Lib.hid (HSN.out.trans (z4U ht))
       go_wp2_with (go_at_call 109; refine (zcQ _ _).mono ?_; rintro e w' ⟨rfl, rfl⟩)
       go_roundw
       case rel => exact ⟨k + 1, 1099511627776, rfl, by omega, by omega, by omega, hit2, hbw2, hsz2, HC2.out.symm, HF⟩
       case measure =>
        simp only [World.iterPos, hit2, HIT.out]
        omega
      ·have HC2 := Lib.hid (HSN.out.trans (z2O ht))
       go_wp2_with (go_at_call 109; refine (zcQ _ _).mono ?_; rintro e w' ⟨rfl, rfl⟩)
       go_roundw
       case rel => exact ⟨k + 1, _, rfl, by omega, by omega, by omega, hit2, hbw2, hsz2, HC2.out.symm, HF⟩
       case measure =>
        simp only [World.iterPos, hit2, HIT.out]
        omega
   ·have hh := decode_high d k hp (by omega)
    obtain ⟨r, hr⟩ : ∃ r, (Utf8.decode d k).1 = r := ⟨_, rfl⟩
    obtain ⟨wd, hwd⟩ : ∃ r, (Utf8.decode d k).2 = r := ⟨_, rfl⟩
    have hrl := decode_le d k
    rw [hr, hwd] at hnx
    rw [hr, hwd] at hh
    rw [hr] at hrl
    have hbw2 := Lib.below_iterAt hbw (k := w.heap.size) (Nat.le_refl _) d (k + wd)
    generalize wr.iterAt w.heap.size d (k + wd) = wi at *
    have hv : valZ (r : Int) = -1 := zjL _ (by omega)
    have HF := Lib.hid (HNO.out (zdZ b d k hp (zeB (zjL _ (by omega)) (.inl (by omega)))))
    clear hc hr hwd
    go_wp2_with (go_at_call 109; refine (zcQ _ _).mono ?_; rintro e w' ⟨rfl, rfl⟩)
    go_ret2
    exact zcM HF.out hbw2
  ·have hnx : ∀ ty, (Instr.next (.pointer (some ⟨w.heap.size, 0, none⟩)) true ty).run Tryz.prog wr = _ := fun ty => Lib.run_next_end_at wr w.heap.size d k ty hit hp
   have hdt := HDG.out
   rw [zdH d k hp] at hdt
   have hat := HA.out
   rw [zdH d k hp] at hat
   have HF := Lib.hid (HYES.out hdt)
   have HAT := Lib.hid hat
   clear hdt hat
   go_wp2
   go_ret2
   exact zcM (by rw [HF.out, HAT.out]) hbw
theorem zaL (s : ByteArray) (w : World) (hs : s.size ≤ 1073741824) :
  Calls Tryz.prog 81 #[.string s] w (zxK w (zbP s.data.toList)) := by
 by_cases hn : s.size = 0
 ·obtain rfl := zdE s hn
  clear hn hs
  have HF : Hid (zbP (ByteArray.mk #[]).data.toList = (0, false)) := rfl
  go_enter Tryz.func81, Tryz.ntmps81
  go_wp2
  go_ret2
  exact zcM HF.out (Below.refl _ _)
 ·obtain ⟨⟨r, b⟩, hr⟩ : ∃ x, zgB s.data.toList = x := ⟨_, rfl⟩
  have hb := zoV s.data.toList
  rw [hr] at hb
  exact z0C s ⟨r.toArray⟩ b w hs hn hb (by rw [zaG]; exact hr)
/-- the reference's: each of its ways -/
theorem zjQ (s : ByteArray) (a : Nat) (d : ByteArray) (h : s.extract a s.size = d) : s.data.toList.drop a = d.data.toList := by
 rw [← h, zkI]
theorem zkQ (s : ByteArray) (a : Nat) (d : ByteArray) (h : s.extract a s.size = d) : d.size ≤ s.size := by
 rw [← h]; simp [ByteArray.size_extract]
theorem zdD (s : ByteArray) (w : World) (hs : s.size ≤ 1073741824) :
  Calls Tryz.prog 86 #[.string s] w (zxK w (zbP s.data.toList)) := by
 by_cases hn : s.size = 0
 ·obtain rfl := zdE s hn
  clear hn hs
  have HF : Hid (zbP (ByteArray.mk #[]).data.toList = (0, false)) := rfl
  go_enter Tryz.func86, Tryz.ntmps86
  go_wp2
  go_ret2
  exact zcM HF.out (Below.refl _ _)
 ·have hn1 : 1 ≤ s.size := by omega
  have hnb : ((s.size : Int) == 0) = false := beq_eq_false_iff_ne.2 (by omega)
  by_cases h2 : s.size < 2
  ·have HR := Lib.hid (zlT s h2)
   by_cases hdg : zbL 10 s.data.toList = true
   ·have HF := Lib.hid (zgK s.data.toList _ 10 HR.out (zdF s hn) hdg)
    have HDG := Lib.hid hdg
    clear hdg hn
    go_enter Tryz.func86, Tryz.ntmps86
    go_wp2_with fail
    refine (zbV s 10 _ (by omega)).mono ?_
    rw [HDG.out]
    rintro e w' ⟨rfl, rfl⟩
    go_wp2_with fail
    refine (zeH s 10 _ (by omega) (by omega) HDG.out).mono ?_
    rintro e w' ⟨rfl, rfl⟩
    go_wp2
    go_ret2
    exact zcM HF.out (Below.refl _ _)
   ·have hdf : zbL 10 s.data.toList = false := by simpa using hdg
    have HF := Lib.hid (zhS s.data.toList _ 10 HR.out hdf)
    have HDG := Lib.hid hdf
    clear hdg hdf hn
    go_enter Tryz.func86, Tryz.ntmps86
    go_wp2_with fail
    refine (zbV s 10 _ (by omega)).mono ?_
    rw [HDG.out]
    rintro e w' ⟨rfl, rfl⟩
    go_wp2
    go_ret2
    exact zcM HF.out (Below.refl _ _)
  ·have h2' : 2 ≤ s.size := by omega
   have l0 : 0 < s.size := by omega
   have l1 : 1 < s.size := by omega
   obtain ⟨a, ha⟩ : ∃ a, s[0].toNat = a := ⟨_, rfl⟩
   obtain ⟨c, hc⟩ : ∃ a, s[1].toNat = a := ⟨_, rfl⟩
   by_cases h48 : a = 48
   ·subst h48
    by_cases hx : c = 120 ∨ c = 88
    ·have HR0 := zuE s h2' ha (by rw [hc]; exact hx)
     obtain ⟨d, hd⟩ : ∃ d, s.extract 2 s.size = d := ⟨_, rfl⟩
     have hdz := zkQ s 2 d hd
     rw [zjQ s 2 d hd] at HR0
     have HR := Lib.hid HR0
     clear HR0
     rcases hx with rfl | rfl
     all_goals
      by_cases hdg : zbL 16 d.data.toList = true
      ·have HF := Lib.hid (zgK s.data.toList _ 16 HR.out (zdF s hn) hdg)
       have HDG := Lib.hid hdg
       clear hdg hn
       go_enter Tryz.func86, Tryz.ntmps86
       go_wp2_with fail
       go_quiet (fail)
       go_wp2_with fail
       go_quiet (fail)
       go_wp2_with fail
       refine (zbV d 16 _ (by omega)).mono ?_
       rw [HDG.out]
       rintro e w' ⟨rfl, rfl⟩
       go_wp2_with fail
       refine (zeH d 16 _ (by omega) (by omega) HDG.out).mono ?_
       rintro e w' ⟨rfl, rfl⟩
       go_wp2
       go_ret2
       exact zcM HF.out (by first | exact zbC (Below.refl _ _) _ | exact zbC (zbC (Below.refl _ _) _) _)
      ·have hdf : zbL 16 d.data.toList = false := by simpa using hdg
       have HF := Lib.hid (zhS s.data.toList _ 16 HR.out hdf)
       have HDG := Lib.hid hdf
       clear hdg hdf hn
       go_enter Tryz.func86, Tryz.ntmps86
       go_wp2_with fail
       go_quiet (fail)
       go_wp2_with fail
       go_quiet (fail)
       go_wp2_with fail
       refine (zbV d 16 _ (by omega)).mono ?_
       rw [HDG.out]
       rintro e w' ⟨rfl, rfl⟩
       go_wp2
       go_ret2
       exact zcM HF.out (by first | exact zbC (Below.refl _ _) _ | exact zbC (zbC (Below.refl _ _) _) _)
    ·have HR0 := zrH s h2' ha (by rw [hc]; exact hx)
     obtain ⟨d, hd⟩ : ∃ d, s.extract 1 s.size = d := ⟨_, rfl⟩
     have hdz := zkQ s 1 d hd
     rw [zjQ s 1 d hd] at HR0
     have HR := Lib.hid HR0
     have b1 : ((c : Int) == 120) = false := beq_eq_false_iff_ne.2 (by omega)
     have b2 : ((c : Int) == 88) = false := beq_eq_false_iff_ne.2 (by omega)
     clear hx HR0
     by_cases hdg : zbL 8 d.data.toList = true
     ·have HF := Lib.hid (zgK s.data.toList _ 8 HR.out (zdF s hn) hdg)
      have HDG := Lib.hid hdg
      clear hdg hn
      go_enter Tryz.func86, Tryz.ntmps86
      go_wp2_with fail
      go_quiet (fail)
      go_wp2_with fail
      refine (zbV d 8 _ (by omega)).mono ?_
      rw [HDG.out]
      rintro e w' ⟨rfl, rfl⟩
      go_wp2_with fail
      refine (zeH d 8 _ (by omega) (by omega) HDG.out).mono ?_
      rintro e w' ⟨rfl, rfl⟩
      go_wp2
      go_ret2
      exact zcM HF.out (by first | exact zbC (Below.refl _ _) _ | exact zbC (zbC (Below.refl _ _) _) _)
     ·have hdf : zbL 8 d.data.toList = false := by simpa using hdg
      have HF := Lib.hid (zhS s.data.toList _ 8 HR.out hdf)
      have HDG := Lib.hid hdf
      clear hdg hdf hn
      go_enter Tryz.func86, Tryz.ntmps86
      go_wp2_with fail
      go_quiet (fail)
      go_wp2_with fail
      refine (zbV d 8 _ (by omega)).mono ?_
      rw [HDG.out]
      rintro e w' ⟨rfl, rfl⟩
      go_wp2
      go_ret2
      exact zcM HF.out (by first | exact zbC (Below.refl _ _) _ | exact zbC (zbC (Below.refl _ _) _) _)
   ·have HR := Lib.hid (zrM s h2' (by rw [ha]; exact h48))
    have b1 : ((a : Int) == 48) = false := beq_eq_false_iff_ne.2 (by omega)
    by_cases hdg : zbL 10 s.data.toList = true
    ·have HF := Lib.hid (zgK s.data.toList _ 10 HR.out (zdF s hn) hdg)
     have HDG := Lib.hid hdg
     clear hdg hn
     go_enter Tryz.func86, Tryz.ntmps86
     go_wp2_with fail
     refine (zbV s 10 _ (by omega)).mono ?_
     rw [HDG.out]
     rintro e w' ⟨rfl, rfl⟩
     go_wp2_with fail
     refine (zeH s 10 _ (by omega) (by omega) HDG.out).mono ?_
     rintro e w' ⟨rfl, rfl⟩
     go_wp2
     go_ret2
     exact zcM HF.out (Below.refl _ _)
    ·have hdf : zbL 10 s.data.toList = false := by simpa using hdg
     have HF := Lib.hid (zhS s.data.toList _ 10 HR.out hdf)
     have HDG := Lib.hid hdf
     clear hdg hdf hn
     go_enter Tryz.func86, Tryz.ntmps86
     go_wp2_with fail
     refine (zbV s 10 _ (by omega)).mono ?_
     rw [HDG.out]
     rintro e w' ⟨rfl, rfl⟩
     go_wp2
     go_ret2
     exact zcM HF.out (Below.refl _ _)
end
section
open Go.RowKit
def decN (l : List UInt8) : Int := l.foldl (fun n c => n * 10 + valZ (c.toNat : Int)) 0
def decZ (l : List UInt8) (m : Int) : Int × Bool :=
 if (l.isEmpty || (decide (1 < l.length) && decide ((l.getD 0 0).toNat = 48)) || !zbL 10 l) = true then (0, false) else if m < decN l then (0, false) else (decN l, true)
theorem z4P (s : ByteArray) (k : Nat) (h : k < s.size) : decN (s.data.toList.take (k + 1)) = decN (s.data.toList.take k) * 10 + valZ (s[k].toNat : Int) := by
 rw [zeC s k h]; simp [decN]
theorem zsD (l : List UInt8) : ∀ a : Int, 0 ≤ a → zbL 10 l = true → a ≤ l.foldl (fun n c => n * 10 + valZ (c.toNat : Int)) a := by
 induction l with
 | nil => intro a _ _; exact Int.le_refl _
 | cons c l ih =>
  intro a ha hd
  have h1 : digC 10 c = true ∧ zbL 10 l = true := by simpa [zbL] using hd
  have h2 := of_decide_eq_true h1.1
  have := ih (a * 10 + valZ (c.toNat : Int)) (by omega) h1.2
  exact Int.le_trans (by omega) this
theorem zmL (l : List UInt8) (hd : zbL 10 l = true) : 0 ≤ decN l := zsD l 0 (Int.le_refl _) hd
theorem zzM (b : Int) (l : List UInt8) (k : Nat) : zbL b l = (zbL b (l.take k) && zbL b (l.drop k)) := by
 unfold zbL
 rw [← List.all_append, List.take_append_drop]
theorem zkY (l : List UInt8) (k : Nat) (hd : zbL 10 l = true) : decN (l.take k) ≤ decN l := by
 have h := zzM 10 l k
 rw [hd] at h
 have h2 : zbL 10 (l.take k) = true ∧ zbL 10 (l.drop k) = true := by simpa using h.symm
 have e : decN l = (l.drop k).foldl (fun n c => n * 10 + valZ (c.toNat : Int)) (decN (l.take k)) := by
  unfold decN
  rw [← List.foldl_append, List.take_append_drop]
 rw [e]
 exact zsD _ _ (zmL _ h2.1) h2.2
theorem ztI (l : List UInt8) (m : Int) (h : l = [] ∨ (1 < l.length ∧ (l.getD 0 0).toNat = 48)) : decZ l m = (0, false) := by
 unfold decZ
 rw [if_pos]
 rcases h with rfl | ⟨h1, h2⟩
 ·rfl
 ·rw [decide_eq_true h1, decide_eq_true h2]; simp
theorem zxY (l : List UInt8) (m : Int) (h : zbL 10 l = false) : decZ l m = (0, false) := by
 unfold decZ
 rw [if_pos (by rw [h]; simp)]
theorem z9V (l : List UInt8) (m : Int) (k : Nat) (h : m < decN (l.take k)) : decZ l m = (0, false) := by
 by_cases hd : zbL 10 l = true
 ·unfold decZ
  split
  ·rfl
  ·rw [if_pos]
   have := zkY l k hd
   omega
 ·exact zxY l m (by simpa using hd)
theorem z8Y (l : List UInt8) (m : Int) (h0 : l ≠ []) (h1 : ¬ (1 < l.length ∧ (l.getD 0 0).toNat = 48)) (hd : zbL 10 l = true) (hm : decN l ≤ m) : decZ l m = (decN l, true) := by
 unfold decZ
 rw [if_neg, if_neg (by omega)]
 rw [hd]
 cases l with
 | nil => exact absurd rfl h0
 | cons a r =>
  by_cases e1 : 1 < (a :: r).length
  ·rw [decide_eq_true e1, decide_eq_false (fun e => h1 ⟨e1, e⟩)]; simp
  ·rw [decide_eq_false e1]; simp
theorem ztY (s : ByteArray) (h : 0 < s.size) : (s.data.toList.getD 0 0).toNat = s[0].toNat := by
 rw [List.getD, zlM s 0 h]; rfl
theorem z1D (r : Int) : zdX r = decide (0 ≤ valZ r ∧ valZ r < 10) := by
 unfold zdX valZ
 by_cases h : 48 ≤ r ∧ r ≤ 57
 ·rw [if_pos h, decide_eq_true h, decide_eq_true (by omega)]
 ·rw [if_neg h, decide_eq_false h]
  refine (decide_eq_false ?_).symm
  repeat' split
  all_goals omega
theorem ziH (c : UInt8) : digC 10 c = zdX (c.toNat : Int) := (z1D _).symm
theorem ztV {r : Int} (h : zdX r = true) : 48 ≤ r ∧ r ≤ 57 := of_decide_eq_true h
theorem zoM {r : Int} (h1 : 48 ≤ r) (h2 : r ≤ 57) : valZ r = r - 48 := if_pos ⟨h1, h2⟩
theorem zgY (r : Int) (h : 128 ≤ r) : zdX r = false := decide_eq_false (by omega)
def z5E (w : World) (x : Int × Bool) (e : Ending) (w' : World) : Prop := e = .returned (.tuple #[.int .i64 x.1, .bool x.2]) ∧ Below w.heap.size w w'
theorem zfD {w w' : World} {x : Int × Bool} {n : Int} {b : Bool} (h : x = (n, b)) (hb : Below w.heap.size w w') : z5E w x (.returned (.tuple #[.int .i64 n, .bool b])) w' := by
 subst h; exact ⟨rfl, hb⟩
theorem zrJ (s : ByteArray) (m : Int) (w : World) (hs : s.size ≤ 1073741824) (hm : m ≤ 9223372036854775807) (hm0 : -9223372036854775808 ≤ m) (hn : 1 ≤ s.size) (hz : ¬ (1 < s.size ∧ s[0].toNat = 48)) :
  Calls Tryz.prog 164 #[.string s, .int .i64 m] w (z5E w (decZ s.data.toList m)) := by
 have HNO := Lib.hid (zxY s.data.toList m)
 have HBIG := Lib.hid (z9V s.data.toList m)
 have HYES := Lib.hid (z8Y s.data.toList m (zdF s (by omega)) (by rw [zaJ, ztY s (by omega)]; exact hz))
 have hse := zeF s (by omega)
 have l0 : 0 < s.size := by omega
 obtain ⟨a, ha⟩ : ∃ a, s[0].toNat = a := ⟨_, rfl⟩
 rw [ha] at hz
 rcases (show s.size ≤ 1 ∨ (1 < s.size ∧ ((a : Int) == 48) = false) from by
   by_cases h1 : 1 < s.size
   ·exact .inr ⟨h1, beq_eq_false_iff_ne.2 (fun e => hz ⟨h1, by omega⟩)⟩
   ·exact .inl (by omega)) with h1 | ⟨h1, hb1⟩
 all_goals
  clear hz
  go_enter Tryz.func164, Tryz.ntmps164
  go_wp2
  go_loopw [6] (fun n wr => ∃ (k : Nat) (A : Int), n = .int .i64 A ∧ 0 ≤ A ∧ (A = 0 ∨ A ≤ m) ∧ k ≤ s.size ∧ wr.heap[w.heap.size]? = some (.stringIter s k) ∧ Below w.heap.size w wr ∧ w.heap.size + 1 ≤ wr.heap.size ∧ Hid (A = decN (s.data.toList.take k)) ∧ Hid (zbL 10 (s.data.toList.take k) = true) ∧ Hid (1 ≤ k → A ≤ m)) (fun _ wr => s.size - wr.iterPos w.heap.size)
  case atStart => exact ⟨0, 0, rfl, by omega, .inl rfl, Nat.zero_le _, World.iter_heap w s 0, (Below.refl _ w).alloc (Nat.le_refl _) _, by simp [World.iter], rfl, rfl, fun h => absurd h (by omega)⟩
  case round =>
   obtain ⟨k, A, rfl, hA0, hA1, hk, hit, hbw, hsz, HA, HDG, HK⟩ := hrel
   have hA2 : A ≤ 9223372036854775807 := by omega
   clear hA1
   by_cases hp : k < s.size
   ·obtain ⟨c, hc⟩ : ∃ c, (s[k]'hp).toNat = c := ⟨_, rfl⟩
    have hnx : ∀ ty, (Instr.next (.pointer (some ⟨w.heap.size, 0, none⟩)) true ty).run Tryz.prog wr = _ := fun ty => Lib.run_next_any_at wr w.heap.size s k ty hit hp
    by_cases hc128 : c < 128
    ·have hdec := decode_ascii s k hp (by omega)
     rw [hc] at hdec
     rw [hdec] at hnx
     have hit2 := Lib.iterAt_heap wr w.heap.size s k (k + 1) hit
     have hbw2 := Lib.below_iterAt hbw (k := w.heap.size) (Nat.le_refl _) s (k + 1)
     have hsz2 : w.heap.size + 1 ≤ (wr.iterAt w.heap.size s (k + 1)).heap.size := by rw [Lib.iterAt_size]; exact hsz
     simp only at hnx
     generalize wr.iterAt w.heap.size s (k + 1) = wi at *
     have HIT := Lib.hid hit
     have HC := Lib.hid hc
     clear hit hc hdec
     cases hdg : zdX (c : Int) with
     | false =>
      have HF := Lib.hid (HNO.out (zdZ 10 s k hp (by rw [ziH, HC.out]; exact hdg)))
      go_wp2_with (go_at_call 111; refine (zeI _ _).mono ?_; rintro e w' ⟨rfl, rfl⟩)
      go_ret2
      exact zfD HF.out hbw2
     | true =>
      obtain ⟨hc1, hc2⟩ := ztV hdg
      have hv : valZ (c : Int) = (c : Int) - 48 := zoM hc1 hc2
      have HF := Lib.hid (ziZ 10 s k hp HDG.out (by rw [ziH, HC.out]; exact hdg))
      have hsn := z4P s k hp
      rw [← HA.out, HC.out, hv] at hsn
      have HSN := Lib.hid hsn
      clear hsn
      obtain ⟨v, hvv⟩ : ∃ v : Int, (c : Int) - 48 = v := ⟨_, rfl⟩
      have hv0 : 0 ≤ v := by omega
      have hv9 : v ≤ 9 := by omega
      rw [hvv] at hv
      have HVV := Lib.hid hvv
      clear hvv
      by_cases hg : m < A * 10 + v
      ·have HB := Lib.hid (HBIG.out (k + 1) (by rw [HSN.out, HVV.out]; exact hg))
       by_cases hg1 : m < v
       ·go_wp2_with (first | (go_at_call 111; refine (zeI _ _).mono ?_; rintro e w' ⟨rfl, rfl⟩) | (go_at_call 109; refine (zcQ _ _).mono ?_; rintro e w' ⟨rfl, rfl⟩))
        go_ret2
        exact zfD HB.out hbw2
       ·have hg2 : (m - v) / 10 < A := by omega
        go_wp2_with (first | (go_at_call 111; refine (zeI _ _).mono ?_; rintro e w' ⟨rfl, rfl⟩) | (go_at_call 109; refine (zcQ _ _).mono ?_; rintro e w' ⟨rfl, rfl⟩))
        go_ret2
        exact zfD HB.out hbw2
      ·have hg1 : ¬ m < v := by omega
       have hg2 : ¬ (m - v) / 10 < A := by omega
       go_wp2_with (first | (go_at_call 111; refine (zeI _ _).mono ?_; rintro e w' ⟨rfl, rfl⟩) | (go_at_call 109; refine (zcQ _ _).mono ?_; rintro e w' ⟨rfl, rfl⟩))
       go_roundw
       case rel => exact ⟨k + 1, A * 10 + v, rfl, by omega, by omega, by omega, hit2, hbw2, hsz2, (by show _ = _; rw [HSN.out, HVV.out]), HF, fun _ => by omega⟩
       case measure =>
        simp only [World.iterPos, hit2, HIT.out]
        omega
    ·have hh := decode_high s k hp (by omega)
     obtain ⟨r, hr⟩ : ∃ r, (Utf8.decode s k).1 = r := ⟨_, rfl⟩
     obtain ⟨wd, hwd⟩ : ∃ r, (Utf8.decode s k).2 = r := ⟨_, rfl⟩
     have hrl := decode_le s k
     rw [hr, hwd] at hnx
     rw [hr, hwd] at hh
     rw [hr] at hrl
     have hbw2 := Lib.below_iterAt hbw (k := w.heap.size) (Nat.le_refl _) s (k + wd)
     generalize wr.iterAt w.heap.size s (k + wd) = wi at *
     have hv : zdX (r : Int) = false := zgY _ (by omega)
     have HF := Lib.hid (HNO.out (zdZ 10 s k hp (by rw [ziH]; exact zgY _ (by omega))))
     clear hc hr hwd
     go_wp2_with (go_at_call 111; refine (zeI _ _).mono ?_; rintro e w' ⟨rfl, rfl⟩)
     go_ret2
     exact zfD HF.out hbw2
   ·have hnx : ∀ ty, (Instr.next (.pointer (some ⟨w.heap.size, 0, none⟩)) true ty).run Tryz.prog wr = _ := fun ty => Lib.run_next_end_at wr w.heap.size s k ty hit hp
    have hdt := HDG.out
    rw [zdH s k hp] at hdt
    have hat := HA.out
    rw [zdH s k hp] at hat
    have HF := Lib.hid (HYES.out hdt (by rw [← hat]; exact HK.out (by omega)))
    have HAT := Lib.hid hat
    clear hdt hat
    go_wp2
    go_ret2
    exact zfD (by rw [HF.out, HAT.out]) hbw
theorem zcO (s : ByteArray) (m : Int) (w : World) (hs : s.size ≤ 1073741824) (hm : m ≤ 9223372036854775807) (hm0 : -9223372036854775808 ≤ m) :
  Calls Tryz.prog 164 #[.string s, .int .i64 m] w (z5E w (decZ s.data.toList m)) := by
 by_cases hn : s.size = 0
 ·obtain rfl := zdE s hn
  have HF := Lib.hid (ztI (ByteArray.mk #[]).data.toList m (.inl rfl))
  clear hn hs
  go_enter Tryz.func164, Tryz.ntmps164
  go_wp2
  go_ret2
  exact zfD HF.out (Below.refl _ _)
 ·by_cases hz : 1 < s.size ∧ s[0].toNat = 48
  ·obtain ⟨h1, h0⟩ := hz
   have HF := Lib.hid (ztI s.data.toList m (.inr ⟨by rw [zaJ]; exact h1, by rw [ztY s (by omega)]; exact h0⟩))
   have hse := zeF s hn
   have l0 : 0 < s.size := by omega
   go_enter Tryz.func164, Tryz.ntmps164
   go_wp2
   go_ret2
   exact zfD HF.out (Below.refl _ _)
  ·exact zrJ s m w hs hm hm0 (by omega) hz
end
section
open Go.RowKit
def zdL (l : List UInt8) : Bool := !l.isEmpty && zbL 10 l
theorem z3J {l : List UInt8} (h : zbL 10 l = false) : zdL l = false := by unfold zdL; rw [h]; simp
theorem z0Q {s : ByteArray} (hn : s.size ≠ 0) (h : zbL 10 s.data.toList = true) : zdL s.data.toList = true := by
 unfold zdL; rw [h]
 cases hd : s.data.toList with
 | nil => exact absurd hd (zdF s hn)
 | cons a l => rfl
def zcN (w : World) (b : Bool) (e : Ending) (w' : World) : Prop := e = .returned (.bool b) ∧ Below w.heap.size w w'
theorem zaR {w w' : World} {x b : Bool} (h : x = b) (hb : Below w.heap.size w w') : zcN w x (.returned (.bool b)) w' := by
 subst h; exact ⟨rfl, hb⟩
theorem zgI (s : ByteArray) (w : World) (hs : s.size ≤ 1073741824) :
  Calls Tryz.prog 80 #[.string s] w (zcN w (zdL s.data.toList)) := by
 by_cases hn : s.size = 0
 ·obtain rfl := zdE s hn
  have HF : Hid (zdL (ByteArray.mk #[]).data.toList = false) := rfl
  clear hn hs
  go_enter Tryz.func80, Tryz.ntmps80
  go_wp2
  go_loopw [] (fun wr => wr.heap[w.heap.size]? = some (.stringIter ⟨#[]⟩ 0) ∧ Below w.heap.size w wr) (fun _ => 0)
  case atStart => exact ⟨World.iter_heap w ⟨#[]⟩ 0, (Below.refl _ w).alloc (Nat.le_refl _) _⟩
  case round =>
   obtain ⟨hit, hbw⟩ := hrel
   have hnx : ∀ ty, (Instr.next (.pointer (some ⟨w.heap.size, 0, none⟩)) true ty).run Tryz.prog wr = _ := fun ty => Lib.run_next_end_at wr w.heap.size ⟨#[]⟩ 0 ty hit (by decide)
   go_wp2
   go_ret
   exact zaR HF.out hbw
 ·have HNO := Lib.hid (z3J (l := s.data.toList))
  have HYES := Lib.hid (z0Q hn)
  have hse := zeF s hn
  clear hn
  go_enter Tryz.func80, Tryz.ntmps80
  go_wp2
  go_loopw [] (fun wr => ∃ (k : Nat), k ≤ s.size ∧ wr.heap[w.heap.size]? = some (.stringIter s k) ∧ Below w.heap.size w wr ∧ w.heap.size + 1 ≤ wr.heap.size ∧ Hid (zbL 10 (s.data.toList.take k) = true)) (fun wr => s.size - wr.iterPos w.heap.size)
  case atStart => exact ⟨0, Nat.zero_le _, World.iter_heap w s 0, (Below.refl _ w).alloc (Nat.le_refl _) _, by simp [World.iter], rfl⟩
  case round =>
   obtain ⟨k, hk, hit, hbw, hsz, HDG⟩ := hrel
   by_cases hp : k < s.size
   ·obtain ⟨c, hc⟩ : ∃ c, (s[k]'hp).toNat = c := ⟨_, rfl⟩
    have hnx : ∀ ty, (Instr.next (.pointer (some ⟨w.heap.size, 0, none⟩)) true ty).run Tryz.prog wr = _ := fun ty => Lib.run_next_any_at wr w.heap.size s k ty hit hp
    by_cases hc128 : c < 128
    ·have hdec := decode_ascii s k hp (by omega)
     rw [hc] at hdec
     rw [hdec] at hnx
     have hit2 := Lib.iterAt_heap wr w.heap.size s k (k + 1) hit
     have hbw2 := Lib.below_iterAt hbw (k := w.heap.size) (Nat.le_refl _) s (k + 1)
     have hsz2 : w.heap.size + 1 ≤ (wr.iterAt w.heap.size s (k + 1)).heap.size := by rw [Lib.iterAt_size]; exact hsz
     simp only at hnx
     generalize wr.iterAt w.heap.size s (k + 1) = wi at *
     have HIT := Lib.hid hit
     have HC := Lib.hid hc
     clear hit hc hdec
     cases hdg : zdX (c : Int) with
     | false =>
      have HF := Lib.hid (HNO.out (zdZ 10 s k hp (by rw [ziH, HC.out]; exact hdg)))
      go_wp2_with (go_at_call 111; refine (zeI _ _).mono ?_; rintro e w' ⟨rfl, rfl⟩)
      go_ret
      exact zaR HF.out hbw2
     | true =>
      have HF := Lib.hid (ziZ 10 s k hp HDG.out (by rw [ziH, HC.out]; exact hdg))
      go_wp2_with (go_at_call 111; refine (zeI _ _).mono ?_; rintro e w' ⟨rfl, rfl⟩)
      go_roundw
      case rel => exact ⟨k + 1, by omega, hit2, hbw2, hsz2, HF⟩
      case measure =>
       simp only [World.iterPos, hit2, HIT.out]
       omega
    ·have hh := decode_high s k hp (by omega)
     obtain ⟨r, hr⟩ : ∃ r, (Utf8.decode s k).1 = r := ⟨_, rfl⟩
     obtain ⟨wd, hwd⟩ : ∃ r, (Utf8.decode s k).2 = r := ⟨_, rfl⟩
     have hrl := decode_le s k
     rw [hr, hwd] at hnx
     rw [hr, hwd] at hh
     rw [hr] at hrl
     have hbw2 := Lib.below_iterAt hbw (k := w.heap.size) (Nat.le_refl _) s (k + wd)
     generalize wr.iterAt w.heap.size s (k + wd) = wi at *
     have hv : zdX (r : Int) = false := zgY _ (by omega)
     have HF := Lib.hid (HNO.out (zdZ 10 s k hp (by rw [ziH]; exact zgY _ (by omega))))
     clear hc hr hwd
     go_wp2_with (go_at_call 111; refine (zeI _ _).mono ?_; rintro e w' ⟨rfl, rfl⟩)
     go_ret
     exact zaR HF.out hbw2
   ·have hnx : ∀ ty, (Instr.next (.pointer (some ⟨w.heap.size, 0, none⟩)) true ty).run Tryz.prog wr = _ := fun ty => Lib.run_next_end_at wr w.heap.size s k ty hit hp
    have hdt := HDG.out
    rw [zdH s k hp] at hdt
    have HF := Lib.hid (HYES.out hdt)
    clear hdt
    go_wp2
    go_ret
    exact zaR HF.out hbw
end
section
open Go.RowKit
def ziU (ps : List (List UInt8)) : List UInt8 :=
 if 1 < ps.length ∧ ps.getD (ps.length - 1) [] = [] then ps.getD (ps.length - 2) [] else ps.getD (ps.length - 1) []
def zaE (l : List UInt8) : List (List UInt8) := splitB (hasB [46]) l
def zhI (x : List UInt8) : Bool := zdL x || (zbP x).2
def zdG (l : List UInt8) : Bool := zhI (ziU (zaE l))
theorem z7F (p : UInt8 → Bool) (l : List UInt8) : ∀ st : List (List UInt8) × List UInt8, (∀ x ∈ (l.foldl (zaW p) st).1, x ∈ st.1 ∨ x.length ≤ st.2.length + l.length) ∧ (l.foldl (zaW p) st).2.length ≤ st.2.length + l.length := by
 induction l with
 | nil => intro st; exact ⟨fun x hx => .inl hx, by simp⟩
 | cons c l ih =>
  intro st
  simp only [List.foldl_cons, List.length_cons]
  have h := ih (zaW p st c)
  by_cases hp : p c = true
  ·have e : zaW p st c = (st.1 ++ [st.2], []) := by simp [zaW, hp]
   rw [e] at h ⊢
   refine ⟨fun x hx => ?_, by have := h.2; simp at this; omega⟩
   rcases h.1 x hx with h1 | h1
   ·simp at h1
    rcases h1 with h1 | h1
    ·exact .inl h1
    ·subst h1; exact .inr (by omega)
   ·simp at h1; exact .inr (by omega)
  ·have e : zaW p st c = (st.1, st.2 ++ [c]) := by simp [zaW, hp]
   rw [e] at h ⊢
   refine ⟨fun x hx => ?_, by have := h.2; simp at this; omega⟩
   rcases h.1 x hx with h1 | h1
   ·exact .inl h1
   ·simp at h1; exact .inr (by omega)
theorem z7H (p : UInt8 → Bool) (l x : List UInt8) (h : x ∈ splitB p l) : x.length ≤ l.length := by
 have k := z7F p l ([], [])
 unfold splitB at h
 rcases List.mem_append.1 h with h | h
 ·rcases k.1 x h with h | h
  ·simp at h
  ·simpa using h
 ·simp at h
  subst h
  exact Nat.le_trans k.2 (by simp)
theorem zbY (p : UInt8 → Bool) (l : List UInt8) (j : Nat) : ((splitB p l).getD j []).length ≤ l.length := by
 by_cases h : j < (splitB p l).length
 ·refine z7H p l _ ?_
  rw [List.getD, List.getElem?_eq_getElem h]
  exact List.getElem_mem h
 ·rw [List.getD, List.getElem?_eq_none (by omega)]
  simp
/-- what number.Ends reads of the parts -/
theorem zhJ (n : Nat) (x : List UInt8) (ps : List (List UInt8)) (h : ps.length = n + 1) (hx : ps.getD n [] = x) (hc : n = 0 ∨ x ≠ []) : ziU ps = x := by
 unfold ziU
 rw [h, Nat.add_sub_cancel, hx, if_neg]
 rintro ⟨h1, h2⟩
 rcases hc with h3 | h3
 ·omega
 ·exact h3 h2
theorem znW (n : Nat) (y : List UInt8) (ps : List (List UInt8)) (h : ps.length = n + 2) (hx : ps.getD (n + 1) [] = []) (hy : ps.getD n [] = y) : ziU ps = y := by
 unfold ziU
 rw [h, show n + 2 - 1 = n + 1 from rfl, hx, if_pos ⟨by omega, rfl⟩, show n + 2 - 2 = n from rfl, hy]
theorem zcD {x : List UInt8} (h : x ≠ []) : x.isEmpty = false := by cases x with | nil => exact absurd rfl h | cons a l => rfl
/-- the last part's ways: its digits alone, or a number -/
theorem ziL {x : List UInt8} (h : zdL x = true) : zhI x = true := by unfold zhI; rw [h]; rfl
theorem ziS {x : List UInt8} {b : Bool} (h : zdL x = false) (hb : (zbP x).2 = b) : zhI x = b := by unfold zhI; rw [h, hb]; rfl
end
section
open Go.RowKit
theorem z7Z (s : ByteArray) (w : World) (hs : s.size ≤ 1073741824) (x : List UInt8) (hl : (zaE s.data.toList).length = 1) (hx : (zaE s.data.toList).getD 0 [] = x) :
  Calls Tryz.prog 55 #[.string s] w (zcN w (zdG s.data.toList)) := by
 have hxl : x.length ≤ s.size := by rw [← hx, ← zaJ]; exact zbY _ _ _
 have HE0 := Lib.hid (show zdG s.data.toList = zhI x from by unfold zdG; rw [zhJ 0 x _ hl hx (.inl rfl)])
 have HL := Lib.hid hl
 have HX := Lib.hid hx
 clear hl hx
 go_enter Tryz.func55, Tryz.ntmps55
 go_wp2_with fail
 refine (zcX s _ _ hs).mono ?_
 rintro e w1 ⟨v, rfl, hp, hb1⟩
 have hp' : zbZ w.heap.size w1 v (zaE s.data.toList) := hp
 obtain ⟨g, cap, rfl, hg, hcell⟩ := hp'.form (by rw [HL.out]; omega)
 rw [HL.out]
 rw [HL.out] at hcell
 have hcx := hcell 0 (by omega)
 rw [HX.out] at hcx
 clear hcell hp hp'
 by_cases haz : zdL x = true
 -- digits alone
 ·have HE := Lib.hid (HE0.out.trans (ziL haz))
  have HAZ := Lib.hid haz
  clear haz
  go_wp2_with fail
  refine (zgI ⟨x.toArray⟩ _ (by rw [zaD]; omega)).mono ?_
  rw [zaG, HAZ.out]
  rintro e w2 ⟨rfl, hb2⟩
  have hc2 : Below w.heap.size w w2 := hb1.trans (hb2.mono hb1.size)
  clear hb1 hb2
  go_wp2
  go_ret
  exact zaR HE.out hc2
 ·have haf : zdL x = false := by simpa using haz
  have HE := Lib.hid (HE0.out.trans (ziS haf rfl))
  have HAZ := Lib.hid haf
  clear haz haf
  go_wp2_with fail
  refine (zgI ⟨x.toArray⟩ _ (by rw [zaD]; omega)).mono ?_
  rw [zaG, HAZ.out]
  rintro e w2 ⟨rfl, hb2⟩
  have hc2 : Below w.heap.size w w2 := hb1.trans (hb2.mono hb1.size)
  have hcx2 := (hb2.cell (p := ⟨g, 0, none⟩) hg).trans hcx
  clear hb1 hb2 hcx
  go_wp2_with fail
  refine (zaL ⟨x.toArray⟩ _ (by rw [zaD]; omega)).mono ?_
  rw [zaG]
  rintro e w3 ⟨rfl, hb3⟩
  have hc3 : Below w.heap.size w w3 := hc2.trans (hb3.mono hc2.size)
  clear hc2 hb3 hcx2
  go_wp2
  go_ret
  exact zaR HE.out hc3
theorem zzO (s : ByteArray) (w : World) (hs : s.size ≤ 1073741824) (n : Nat) (x : List UInt8) (hl : (zaE s.data.toList).length = n + 2) (hx : (zaE s.data.toList).getD (n + 1) [] = x) (hne : x ≠ []) :
  Calls Tryz.prog 55 #[.string s] w (zcN w (zdG s.data.toList)) := by
 have hxl : x.length ≤ s.size := by rw [← hx, ← zaJ]; exact zbY _ _ _
 have HE0 := Lib.hid (show zdG s.data.toList = zhI x from by unfold zdG; rw [zhJ (n + 1) x _ hl hx (.inr hne)])
 have hxe : x.isEmpty = false := zcD hne
 have HL := Lib.hid hl
 have HX := Lib.hid hx
 clear hl hx hne
 have hnb : n ≤ 1073741824 := by
  have h1 := zcR (hasB [46]) s.data.toList
  rw [zaJ] at h1
  have h2 := HL.out
  unfold zaE at h2
  omega
 go_enter Tryz.func55, Tryz.ntmps55
 go_wp2_with fail
 refine (zcX s _ _ hs).mono ?_
 rintro e w1 ⟨v, rfl, hp, hb1⟩
 have hp' : zbZ w.heap.size w1 v (zaE s.data.toList) := hp
 obtain ⟨g, cap, rfl, hg, hcell⟩ := hp'.form (by rw [HL.out]; omega)
 rw [HL.out]
 rw [HL.out] at hcell
 have hcx := hcell (n + 1) (by omega)
 rw [HX.out] at hcx
 clear hcell hp hp'
 by_cases haz : zdL x = true
 -- digits alone
 ·have HE := Lib.hid (HE0.out.trans (ziL haz))
  have HAZ := Lib.hid haz
  clear haz
  go_wp2_with fail
  refine (zgI ⟨x.toArray⟩ _ (by rw [zaD]; omega)).mono ?_
  rw [zaG, HAZ.out]
  rintro e w2 ⟨rfl, hb2⟩
  have hc2 : Below w.heap.size w w2 := hb1.trans (hb2.mono hb1.size)
  clear hb1 hb2
  go_wp2
  go_ret
  exact zaR HE.out hc2
 ·have haf : zdL x = false := by simpa using haz
  have HE := Lib.hid (HE0.out.trans (ziS haf rfl))
  have HAZ := Lib.hid haf
  clear haz haf
  go_wp2_with fail
  refine (zgI ⟨x.toArray⟩ _ (by rw [zaD]; omega)).mono ?_
  rw [zaG, HAZ.out]
  rintro e w2 ⟨rfl, hb2⟩
  have hc2 : Below w.heap.size w w2 := hb1.trans (hb2.mono hb1.size)
  have hcx2 := (hb2.cell (p := ⟨g, (n + 1), none⟩) hg).trans hcx
  clear hb1 hb2 hcx
  go_wp2_with fail
  refine (zaL ⟨x.toArray⟩ _ (by rw [zaD]; omega)).mono ?_
  rw [zaG]
  rintro e w3 ⟨rfl, hb3⟩
  have hc3 : Below w.heap.size w w3 := hc2.trans (hb3.mono hc2.size)
  clear hc2 hb3 hcx2
  go_wp2
  go_ret
  exact zaR HE.out hc3
theorem zrP (s : ByteArray) (w : World) (hs : s.size ≤ 1073741824) (n : Nat) (x : List UInt8) (hl : (zaE s.data.toList).length = n + 2) (hx : (zaE s.data.toList).getD n [] = x) (hy : (zaE s.data.toList).getD (n + 1) [] = []) :
  Calls Tryz.prog 55 #[.string s] w (zcN w (zdG s.data.toList)) := by
 have hxl : x.length ≤ s.size := by rw [← hx, ← zaJ]; exact zbY _ _ _
 have HE0 := Lib.hid (show zdG s.data.toList = zhI x from by unfold zdG; rw [znW n x _ hl hy hx])
 have HL := Lib.hid hl
 have HX := Lib.hid hx
 have HY := Lib.hid hy
 clear hl hx hy
 have hnb : n ≤ 1073741824 := by
  have h1 := zcR (hasB [46]) s.data.toList
  rw [zaJ] at h1
  have h2 := HL.out
  unfold zaE at h2
  omega
 go_enter Tryz.func55, Tryz.ntmps55
 go_wp2_with fail
 refine (zcX s _ _ hs).mono ?_
 rintro e w1 ⟨v, rfl, hp, hb1⟩
 have hp' : zbZ w.heap.size w1 v (zaE s.data.toList) := hp
 obtain ⟨g, cap, rfl, hg, hcell⟩ := hp'.form (by rw [HL.out]; omega)
 rw [HL.out]
 rw [HL.out] at hcell
 have hcx := hcell n (by omega)
 rw [HX.out] at hcx
 have hcy := hcell (n + 1) (by omega)
 rw [HY.out] at hcy
 clear hcell hp hp'
 by_cases haz : zdL x = true
 -- digits alone
 ·have HE := Lib.hid (HE0.out.trans (ziL haz))
  have HAZ := Lib.hid haz
  clear haz
  go_wp2_with fail
  refine (zgI ⟨x.toArray⟩ _ (by rw [zaD]; omega)).mono ?_
  rw [zaG, HAZ.out]
  rintro e w2 ⟨rfl, hb2⟩
  have hc2 : Below w.heap.size w w2 := hb1.trans (hb2.mono hb1.size)
  clear hb1 hb2
  go_wp2
  go_ret
  exact zaR HE.out hc2
 ·have haf : zdL x = false := by simpa using haz
  have HE := Lib.hid (HE0.out.trans (ziS haf rfl))
  have HAZ := Lib.hid haf
  clear haz haf
  go_wp2_with fail
  refine (zgI ⟨x.toArray⟩ _ (by rw [zaD]; omega)).mono ?_
  rw [zaG, HAZ.out]
  rintro e w2 ⟨rfl, hb2⟩
  have hc2 : Below w.heap.size w w2 := hb1.trans (hb2.mono hb1.size)
  have hcx2 := (hb2.cell (p := ⟨g, n, none⟩) hg).trans hcx
  clear hb1 hb2 hcx
  go_wp2_with fail
  refine (zaL ⟨x.toArray⟩ _ (by rw [zaD]; omega)).mono ?_
  rw [zaG]
  rintro e w3 ⟨rfl, hb3⟩
  have hc3 : Below w.heap.size w w3 := hc2.trans (hb3.mono hc2.size)
  clear hc2 hb3 hcx2
  go_wp2
  go_ret
  exact zaR HE.out hc3
theorem zpU (s : ByteArray) (w : World) (hs : s.size ≤ 1073741824) :
  Calls Tryz.prog 55 #[.string s] w (zcN w (zdG s.data.toList)) := by
 have h0 : 0 < (zaE s.data.toList).length := zhT _ _
 by_cases h1 : (zaE s.data.toList).length = 1
 ·exact z7Z s w hs _ h1 rfl
 ·obtain ⟨n, hn⟩ : ∃ n, (zaE s.data.toList).length = n + 2 := ⟨(zaE s.data.toList).length - 2, by omega⟩
  by_cases he : (zaE s.data.toList).getD (n + 1) [] = []
  ·exact zrP s w hs n _ hn rfl he
  ·exact zzO s w hs n _ hn rfl he
end
section
open Go.RowKit
theorem zmA {x : List UInt8} {p : Int} (h : zbP x = (p, true)) : zhI x = true := by unfold zhI; rw [h]; simp
theorem zmX {x : List UInt8} {p : Int} (h : zbP x = (p, false)) : zhI x = zdL x := by unfold zhI; rw [h]; simp
theorem zwX (s : ByteArray) (w : World) (hs : s.size ≤ 1073741824) (x : List UInt8) (hl : (zaE s.data.toList).length = 1) (hx : (zaE s.data.toList).getD 0 [] = x) :
  Calls Tryz.prog 59 #[.string s] w (zcN w (zdG s.data.toList)) := by
 have hxl : x.length ≤ s.size := by rw [← hx, ← zaJ]; exact zbY _ _ _
 have HE0 := Lib.hid (show zdG s.data.toList = zhI x from by unfold zdG; rw [zhJ 0 x _ hl hx (.inl rfl)])
 have HL := Lib.hid hl
 have HX := Lib.hid hx
 clear hl hx
 go_enter Tryz.func59, Tryz.ntmps59
 go_wp2_with fail
 refine (zfI s _ _ hs (by decide)).mono ?_
 rintro e w1 ⟨v, rfl, hp, hb1⟩
 have hp' : zbZ w.heap.size w1 v (zaE s.data.toList) := hp
 obtain ⟨g, cap, rfl, hg, hcell⟩ := hp'.form (by rw [HL.out]; omega)
 rw [HL.out]
 rw [HL.out] at hcell
 have hcx := hcell 0 (by omega)
 rw [HX.out] at hcx
 clear hcell hp hp'
 by_cases hxn : x = []
 ·subst hxn
  have HPZ : Hid (zbP [] = (0, false)) := rfl
  go_wp2_with fail
  refine (zdD ⟨#[]⟩ _ (by decide)).mono ?_
  rw [show zbP (ByteArray.mk #[]).data.toList = (0, false) from rfl]
  rintro e w2 ⟨rfl, hb2⟩
  have hc2 : Below w.heap.size w w2 := hb1.trans (hb2.mono hb1.size)
  clear hb1 hb2
  go_wp2
  go_ret
  exact zaR (HE0.out.trans rfl) hc2
 ·have hxe : x.isEmpty = false := zcD hxn
  obtain ⟨pz, b, hpz⟩ : ∃ p b, zbP x = (p, b) := ⟨_, _, rfl⟩
  have HPZ := Lib.hid hpz
  clear hpz
  cases b with
  | true =>
   have HE := Lib.hid (HE0.out.trans (zmA HPZ.out))
   go_wp2_with fail
   refine (zdD ⟨x.toArray⟩ _ (by rw [zaD]; omega)).mono ?_
   rw [zaG, HPZ.out]
   rintro e w2 ⟨rfl, hb2⟩
   have hc2 : Below w.heap.size w w2 := hb1.trans (hb2.mono hb1.size)
   clear hb1 hb2
   go_wp2
   go_ret
   exact zaR HE.out hc2
  | false =>
   have HE := Lib.hid (HE0.out.trans (zmX HPZ.out))
   go_wp2_with fail
   refine (zdD ⟨x.toArray⟩ _ (by rw [zaD]; omega)).mono ?_
   rw [zaG, HPZ.out]
   rintro e w2 ⟨rfl, hb2⟩
   have hc2 : Below w.heap.size w w2 := hb1.trans (hb2.mono hb1.size)
   clear hb1 hb2
   ·skip
    have HA := Lib.hid (show zdL x = zbL 10 x from by unfold zdL; rw [hxe]; rfl)
    go_wp2_with fail
    refine (zbV ⟨x.toArray⟩ 10 _ (by rw [zaD]; omega)).mono ?_
    rw [zaG]
    rintro e w' ⟨rfl, rfl⟩
    go_wp2
    go_ret
    exact zaR (HE.out.trans HA.out) hc2
theorem zpZ (s : ByteArray) (w : World) (hs : s.size ≤ 1073741824) (n : Nat) (x : List UInt8) (hl : (zaE s.data.toList).length = n + 2) (hx : (zaE s.data.toList).getD (n + 1) [] = x) (hne : x ≠ []) :
  Calls Tryz.prog 59 #[.string s] w (zcN w (zdG s.data.toList)) := by
 have hxl : x.length ≤ s.size := by rw [← hx, ← zaJ]; exact zbY _ _ _
 have HE0 := Lib.hid (show zdG s.data.toList = zhI x from by unfold zdG; rw [zhJ (n + 1) x _ hl hx (.inr hne)])
 have hxe : x.isEmpty = false := zcD hne
 have HL := Lib.hid hl
 have HX := Lib.hid hx
 clear hl hx hne
 have hnb : n ≤ 1073741824 := by
  have h1 := zcR (hasB [46]) s.data.toList
  rw [zaJ] at h1
  have h2 := HL.out
  unfold zaE at h2
  omega
 go_enter Tryz.func59, Tryz.ntmps59
 go_wp2_with fail
 refine (zfI s _ _ hs (by decide)).mono ?_
 rintro e w1 ⟨v, rfl, hp, hb1⟩
 have hp' : zbZ w.heap.size w1 v (zaE s.data.toList) := hp
 obtain ⟨g, cap, rfl, hg, hcell⟩ := hp'.form (by rw [HL.out]; omega)
 rw [HL.out]
 rw [HL.out] at hcell
 have hcx := hcell (n + 1) (by omega)
 rw [HX.out] at hcx
 clear hcell hp hp'
 obtain ⟨pz, b, hpz⟩ : ∃ p b, zbP x = (p, b) := ⟨_, _, rfl⟩
 have HPZ := Lib.hid hpz
 clear hpz
 cases b with
 | true =>
  have HE := Lib.hid (HE0.out.trans (zmA HPZ.out))
  go_wp2_with fail
  refine (zdD ⟨x.toArray⟩ _ (by rw [zaD]; omega)).mono ?_
  rw [zaG, HPZ.out]
  rintro e w2 ⟨rfl, hb2⟩
  have hc2 : Below w.heap.size w w2 := hb1.trans (hb2.mono hb1.size)
  clear hb1 hb2
  go_wp2
  go_ret
  exact zaR HE.out hc2
 | false =>
  have HE := Lib.hid (HE0.out.trans (zmX HPZ.out))
  go_wp2_with fail
  refine (zdD ⟨x.toArray⟩ _ (by rw [zaD]; omega)).mono ?_
  rw [zaG, HPZ.out]
  rintro e w2 ⟨rfl, hb2⟩
  have hc2 : Below w.heap.size w w2 := hb1.trans (hb2.mono hb1.size)
  clear hb1 hb2
  ·skip
   have HA := Lib.hid (show zdL x = zbL 10 x from by unfold zdL; rw [hxe]; rfl)
   go_wp2_with fail
   refine (zbV ⟨x.toArray⟩ 10 _ (by rw [zaD]; omega)).mono ?_
   rw [zaG]
   rintro e w' ⟨rfl, rfl⟩
   go_wp2
   go_ret
   exact zaR (HE.out.trans HA.out) hc2
theorem zlS (s : ByteArray) (w : World) (hs : s.size ≤ 1073741824) (n : Nat) (x : List UInt8) (hl : (zaE s.data.toList).length = n + 2) (hx : (zaE s.data.toList).getD n [] = x) (hy : (zaE s.data.toList).getD (n + 1) [] = []) :
  Calls Tryz.prog 59 #[.string s] w (zcN w (zdG s.data.toList)) := by
 have hxl : x.length ≤ s.size := by rw [← hx, ← zaJ]; exact zbY _ _ _
 have HE0 := Lib.hid (show zdG s.data.toList = zhI x from by unfold zdG; rw [znW n x _ hl hy hx])
 have HL := Lib.hid hl
 have HX := Lib.hid hx
 have HY := Lib.hid hy
 clear hl hx hy
 have hnb : n ≤ 1073741824 := by
  have h1 := zcR (hasB [46]) s.data.toList
  rw [zaJ] at h1
  have h2 := HL.out
  unfold zaE at h2
  omega
 go_enter Tryz.func59, Tryz.ntmps59
 go_wp2_with fail
 refine (zfI s _ _ hs (by decide)).mono ?_
 rintro e w1 ⟨v, rfl, hp, hb1⟩
 have hp' : zbZ w.heap.size w1 v (zaE s.data.toList) := hp
 obtain ⟨g, cap, rfl, hg, hcell⟩ := hp'.form (by rw [HL.out]; omega)
 rw [HL.out]
 rw [HL.out] at hcell
 have hcx := hcell n (by omega)
 rw [HX.out] at hcx
 have hcy := hcell (n + 1) (by omega)
 rw [HY.out] at hcy
 clear hcell hp hp'
 obtain ⟨pz, b, hpz⟩ : ∃ p b, zbP x = (p, b) := ⟨_, _, rfl⟩
 have HPZ := Lib.hid hpz
 clear hpz
 cases b with
 | true =>
  have HE := Lib.hid (HE0.out.trans (zmA HPZ.out))
  go_wp2_with fail
  refine (zdD ⟨x.toArray⟩ _ (by rw [zaD]; omega)).mono ?_
  rw [zaG, HPZ.out]
  rintro e w2 ⟨rfl, hb2⟩
  have hc2 : Below w.heap.size w w2 := hb1.trans (hb2.mono hb1.size)
  clear hb1 hb2
  go_wp2
  go_ret
  exact zaR HE.out hc2
 | false =>
  have HE := Lib.hid (HE0.out.trans (zmX HPZ.out))
  go_wp2_with fail
  refine (zdD ⟨x.toArray⟩ _ (by rw [zaD]; omega)).mono ?_
  rw [zaG, HPZ.out]
  rintro e w2 ⟨rfl, hb2⟩
  have hc2 : Below w.heap.size w w2 := hb1.trans (hb2.mono hb1.size)
  clear hb1 hb2
  by_cases hxn : x = []
  ·subst hxn
   go_wp2
   go_ret
   exact zaR (HE.out.trans rfl) hc2
  ·have hxe : x.isEmpty = false := zcD hxn
   have HA := Lib.hid (show zdL x = zbL 10 x from by unfold zdL; rw [hxe]; rfl)
   go_wp2_with fail
   refine (zbV ⟨x.toArray⟩ 10 _ (by rw [zaD]; omega)).mono ?_
   rw [zaG]
   rintro e w' ⟨rfl, rfl⟩
   go_wp2
   go_ret
   exact zaR (HE.out.trans HA.out) hc2
theorem zwP (s : ByteArray) (w : World) (hs : s.size ≤ 1073741824) :
  Calls Tryz.prog 59 #[.string s] w (zcN w (zdG s.data.toList)) := by
 have h0 : 0 < (zaE s.data.toList).length := zhT _ _
 by_cases h1 : (zaE s.data.toList).length = 1
 ·exact zwX s w hs _ h1 rfl
 ·obtain ⟨n, hn⟩ : ∃ n, (zaE s.data.toList).length = n + 2 := ⟨(zaE s.data.toList).length - 2, by omega⟩
  by_cases he : (zaE s.data.toList).getD (n + 1) [] = []
  ·exact zlS s w hs n _ hn rfl he
  ·exact zpZ s w hs n _ hn rfl he
end
section
open Go.RowKit
theorem p3_a : zbP [48, 120, 55, 102] = (127, true) := by decide +kernel
theorem p3_b : zbP [48, 49, 55] = (15, true) := by decide +kernel
theorem p3_c : zbP [48, 56] = (0, false) := by decide +kernel
theorem p3_d : zdG [97, 46, 48, 120] = true := by decide +kernel
theorem z0A (w : World) :
  Calls Tryz.prog 209 #[] w fun e w' => e = .returned (.bool true) ∧ Below w.heap.size w w' := by
 go_enter Tryz.func209, Tryz.ntmps209
 go_wp2_with fail
 refine (zwY _).mono ?_
 rintro e w1 ⟨rfl, hb⟩
 go_wp2
 go_ret
 exact ⟨rfl, hb⟩
theorem zuM (w : World) :
  Calls Tryz.prog 208 #[] w fun e w' => e = .returned (.bool true) ∧ Below w.heap.size w w' := by
 go_enter Tryz.func208, Tryz.ntmps208
 go_wp2_with fail
 refine (zaL _ _ (by decide)).mono ?_
 rw [show zbP (ByteArray.mk #[48, 120, 55, 102]).data.toList = (127, true) from p3_a]
 rintro e w1 ⟨rfl, hb1⟩
 go_wp2_with fail
 refine (zaL _ _ (by decide)).mono ?_
 rw [show zbP (ByteArray.mk #[48, 49, 55]).data.toList = (15, true) from p3_b]
 rintro e w2 ⟨rfl, hb2⟩
 have hc2 : Below w.heap.size w w2 := hb1.trans (hb2.mono hb1.size)
 clear hb1 hb2
 go_wp2_with fail
 refine (zaL _ _ (by decide)).mono ?_
 rw [show zbP (ByteArray.mk #[48, 56]).data.toList = (0, false) from p3_c]
 rintro e w3 ⟨rfl, hb3⟩
 have hc3 : Below w.heap.size w w3 := hc2.trans (hb3.mono hc2.size)
 clear hc2 hb3
 go_wp2_with fail
 refine (z0A _).mono ?_
 rintro e w4 ⟨rfl, hb4⟩
 have hc4 : Below w.heap.size w w4 := hc3.trans (hb4.mono hc3.size)
 clear hc3 hb4
 go_wp2_with fail
 refine (zpU _ _ (by decide)).mono ?_
 rw [show zdG (ByteArray.mk #[97, 46, 48, 120]).data.toList = true from p3_d]
 rintro e w5 ⟨rfl, hb5⟩
 have hc5 : Below w.heap.size w w5 := hc4.trans (hb5.mono hc4.size)
 clear hc4 hb5
 go_wp2
 go_ret
 exact ⟨rfl, hc5⟩
theorem z0Z (w : World) :
  Calls Tryz.prog 207 #[] w fun e w' => e = .returned (.bool true) ∧ Below w.heap.size w w' := by
 go_enter Tryz.func207, Tryz.ntmps207
 go_wp2_with fail
 refine (zuM _).mono ?_
 rintro e w1 ⟨rfl, hb⟩
 go_wp2
 go_ret
 exact ⟨rfl, hb⟩
end
section
open Go.RowKit
theorem zjZ (p : UInt8 → Bool) (a b : List UInt8) : spl p (a ++ b) = b.foldl (zaW p) (spl p a) := by
 unfold spl; rw [List.foldl_append]
theorem zlG (p : UInt8 → Bool) (l : List UInt8) : ∀ (xs : List (List UInt8)) (t : List UInt8), (∀ c ∈ l, p c = false) → l.foldl (zaW p) (xs, t) = (xs, t ++ l) := by
 induction l with
 | nil => intro xs t _; simp
 | cons c l ih =>
  intro xs t h
  have hc := h c (by simp)
  simp only [List.foldl_cons, zaW, hc]
  rw [show (if false = true then (xs ++ [t], []) else (xs, t ++ [c])) = (xs, t ++ [c]) from rfl, ih _ _ (fun d hd => h d (by simp [hd]))]
  simp
theorem yaX (c : UInt8) : hasB [46] c = decide (c = 46) := by
 simp only [hasB, List.any_cons, List.any_nil, Bool.or_false]
 by_cases h : c = 46
 ·subst h; rfl
 ·rw [decide_eq_false h]; exact beq_eq_false_iff_ne.2 (fun e => h e.symm)
/-- the last part -/
def zuQ (l : List UInt8) : List UInt8 := (spl (hasB [46]) l).2
theorem znM (l : List UInt8) : zaE l = (spl (hasB [46]) l).1 ++ [zuQ l] := rfl
theorem z3V (ps : List (List UInt8)) (t : List UInt8) : (ps ++ [t]).getD ps.length [] = t := by simp [List.getD]
theorem z0H (l : List UInt8) (c : UInt8) (h : c ≠ 46) : zuQ (l ++ [c]) = zuQ l ++ [c] := by
 unfold zuQ
 rw [zjZ]
 simp [zaW, yaX, h]
theorem z8K (l : List UInt8) (hn : l ≠ []) (h : l.getLast hn ≠ 46) : zuQ l ≠ [] := by
 conv => lhs; rw [← List.dropLast_concat_getLast hn]
 rw [z0H _ _ h]
 simp
theorem z0W (l : List UInt8) : spl (hasB [46]) (l ++ [46]) = ((spl (hasB [46]) l).1 ++ [zuQ l], []) := by
 rw [zjZ]
 simp [zaW, yaX, zuQ]
end
end

end Go.Proofs.YtphapecoimlngaaGreatDoor
