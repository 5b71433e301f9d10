/-
  What the law HostReads leans on, and its walk (2 of 18).
-/
import Derived.IntWalk
import Derived.StillTailTactics
import Derived.Deep.RegionHeld3
import Derived.Deep.AppendLies
import Derived.Test.YtphapecoimlngaaGreatDoorHostReadsPkA
namespace Go.Proofs.YtphapecoimlngaaGreatDoor
set_option maxRecDepth 100000
set_option maxHeartbeats 16000000
section
section
open Go.RowKit
def hexN (n : Nat) : UInt8 := ([48, 49, 50, 51, 52, 53, 54, 55, 56, 57, 65, 66, 67, 68, 69, 70] : List UInt8).getD n 0
def pctB (c : UInt8) : List UInt8 := [37, hexN (c.toNat / 16), hexN (c.toNat % 16)]
theorem z8A (n : Nat) (h : n < (ByteArray.mk #[48, 49, 50, 51, 52, 53, 54, 55, 56, 57, 65, 66, 67, 68, 69, 70]).size) : ((ByteArray.mk #[48, 49, 50, 51, 52, 53, 54, 55, 56, 57, 65, 66, 67, 68, 69, 70])[n]'h).toNat = (hexN n).toNat := by
 have key : ∀ n : Fin 16, ((ByteArray.mk #[48, 49, 50, 51, 52, 53, 54, 55, 56, 57, 65, 66, 67, 68, 69, 70])[n.val]'n.isLt).toNat = (hexN n.val).toNat := by decide
 exact key ⟨n, h⟩
theorem z6N (c : UInt8) (w : World) :
  Calls Tryz.prog 34 #[.int .u8 (c.toNat : Int)] w fun e w' => e = .returned (.string ⟨(pctB c).toArray⟩) ∧ Below w.heap.size w w' := by
 obtain ⟨n, hn⟩ : ∃ n, c.toNat = n := ⟨_, rfl⟩
 have hc : n < 256 := by rw [← hn]; exact c.toNat_lt
 have hR : pctB c = [37, hexN (n / 16), hexN (n % 16)] := by unfold pctB; rw [hn]
 rw [hn, hR]
 clear hn hR c
 have h1 : (0 : Int) ≤ (n : Int) / 16 := by omega
 have h2 : (n : Int) / 16 < 16 := by omega
 have h3 : (0 : Int) ≤ (n : Int) % 16 := by omega
 have h4 : (n : Int) % 16 < 16 := by omega
 have k1 : n / 16 < (ByteArray.mk #[48, 49, 50, 51, 52, 53, 54, 55, 56, 57, 65, 66, 67, 68, 69, 70]).size := by show n / 16 < 16; omega
 have k2 : n % 16 < (ByteArray.mk #[48, 49, 50, 51, 52, 53, 54, 55, 56, 57, 65, 66, 67, 68, 69, 70]).size := by show n % 16 < 16; omega
 have hcv := z6B (P := Tryz.prog) w.drew 30 9 5 [37, (((ByteArray.mk #[48, 49, 50, 51, 52, 53, 54, 55, 56, 57, 65, 66, 67, 68, 69, 70])[n / 16]'k1).toNat : Int), (((ByteArray.mk #[48, 49, 50, 51, 52, 53, 54, 55, 56, 57, 65, 66, 67, 68, 69, 70])[n % 16]'k2).toNat : Int)]
  (by
   intro x hx
   simp only [List.mem_cons, List.not_mem_nil, or_false] at hx
   rcases hx with rfl | rfl | rfl
   ·decide
   ·have := ((ByteArray.mk #[48, 49, 50, 51, 52, 53, 54, 55, 56, 57, 65, 66, 67, 68, 69, 70])[n / 16]'k1).toNat_lt; omega
   ·have := ((ByteArray.mk #[48, 49, 50, 51, 52, 53, 54, 55, 56, 57, 65, 66, 67, 68, 69, 70])[n % 16]'k2).toNat_lt; omega)
  Tryz.underlying30 Tryz.underlying5 Tryz.underlying9
 have hcv2 : (convert 30 9 (.slice (some ⟨w.heap.size, 0, none⟩) 3 3)).run Tryz.prog ((w.alloc (.cells #[.int .u8 37, .int .u8 (((ByteArray.mk #[48, 49, 50, 51, 52, 53, 54, 55, 56, 57, 65, 66, 67, 68, 69, 70])[n / 16]'k1).toNat : Int), .int .u8 (((ByteArray.mk #[48, 49, 50, 51, 52, 53, 54, 55, 56, 57, 65, 66, 67, 68, 69, 70])[n % 16]'k2).toNat : Int)] 5)).drew) = _ := hcv
 clear hcv
 have hR : zpK [37, (((ByteArray.mk #[48, 49, 50, 51, 52, 53, 54, 55, 56, 57, 65, 66, 67, 68, 69, 70])[n / 16]'k1).toNat : Int), (((ByteArray.mk #[48, 49, 50, 51, 52, 53, 54, 55, 56, 57, 65, 66, 67, 68, 69, 70])[n % 16]'k2).toNat : Int)] = [37, hexN (n / 16), hexN (n % 16)] := by
  simp only [zpK, List.map_cons, List.map_nil, z8A _ k1, z8A _ k2, zpL]
  rfl
 rw [hR] at hcv2
 clear hR
 generalize [37, hexN (n / 16), hexN (n % 16)] = R at hcv2 ⊢
 go_enter Tryz.func34, Tryz.ntmps34
 go_wp2
 go_region
 all_goals (go_wp2; go_ret; exact ⟨rfl, ((Below.refl _ _).alloc (Nat.le_refl _) _).drew⟩)
def setL : Nat → List Int
 | 1 => [32, 34, 60, 62, 96]
 | 2 => [32, 34, 35, 60, 62]
 | 3 => [32, 34, 35, 60, 62, 39]
 | 4 => [32, 34, 35, 60, 62, 63, 94, 96, 123, 125]
 | 5 => [32, 34, 35, 60, 62, 63, 94, 96, 123, 125, 47, 58, 59, 61, 64, 91, 92, 93, 124]
 | _ => []
def inB (s r : Int) : Bool := decide (0 ≤ s ∧ s ≤ 5) && (decide (r ≤ 31 ∨ 126 < r) || (setL s.toNat).contains r)
theorem z8P {s r : Int} (h : s < 0 ∨ 5 < s) : inB s r = false := by
 unfold inB
 rw [decide_eq_false (by omega)]; rfl
theorem z9B {s r : Int} (h0 : 0 ≤ s) (h1 : s ≤ 5) (h : r ≤ 31 ∨ 126 < r) : inB s r = true := by
 unfold inB
 rw [decide_eq_true ⟨h0, h1⟩, decide_eq_true h]; rfl
theorem zjZ {s r : Int} (h0 : 0 ≤ s) (h1 : s ≤ 5) (h2 : 31 < r) (h3 : r ≤ 126) : inB s r = (setL s.toNat).contains r := by
 unfold inB
 rw [decide_eq_true ⟨h0, h1⟩, decide_eq_false (by omega)]; simp
theorem z8M (n : Nat) (h : n < 127) : decide (0 ≤ Lib.indexByte ([] : List UInt8) n.toUInt8) = (setL 0).contains (n : Int) := by
 have key : ∀ n : Fin 127, decide (0 ≤ Lib.indexByte ([] : List UInt8) n.val.toUInt8) = (setL 0).contains (n.val : Int) := by decide +kernel
 exact key ⟨n, h⟩
theorem z9O (r : Int) (w : World) (h2 : 31 < r) (h3 : r ≤ 126) :
  Calls Tryz.prog 214 #[.int .u8 0, .int .i32 r] w fun e w' => e = .returned (.bool (inB 0 r)) ∧ w = w' := by
 obtain ⟨n, rfl⟩ := Int.eq_ofNat_of_zero_le (show 0 ≤ r by omega)
 have HB := Lib.hid ((zjZ (s := 0) (by decide) (by decide) h2 h3).trans (z8M n (by omega)).symm)
 go_enter Tryz.func214, Tryz.ntmps214
 go_wp2_with (first | (go_at_call 68; refine (Tryz.strings_ContainsRune_ascii _ _ _ (by omega) (by omega)).mono ?_; rintro e w' ⟨rfl, rfl⟩) | go_in)
 go_ret
 exact ⟨zaS (by rw [HB.out]; have d1 : decide ((n : Int) ≤ 31) = false := decide_eq_false (by omega); have d2 : decide (126 < (n : Int)) = false := decide_eq_false (by omega); simp only [d1, d2, Bool.false_or]), rfl⟩
theorem z9D (n : Nat) (h : n < 127) : decide (0 ≤ Lib.indexByte ([32, 34, 60, 62, 96] : List UInt8) n.toUInt8) = (setL 1).contains (n : Int) := by
 have key : ∀ n : Fin 127, decide (0 ≤ Lib.indexByte ([32, 34, 60, 62, 96] : List UInt8) n.val.toUInt8) = (setL 1).contains (n.val : Int) := by decide +kernel
 exact key ⟨n, h⟩
theorem z8K (r : Int) (w : World) (h2 : 31 < r) (h3 : r ≤ 126) :
  Calls Tryz.prog 214 #[.int .u8 1, .int .i32 r] w fun e w' => e = .returned (.bool (inB 1 r)) ∧ w = w' := by
 obtain ⟨n, rfl⟩ := Int.eq_ofNat_of_zero_le (show 0 ≤ r by omega)
 have HB := Lib.hid ((zjZ (s := 1) (by decide) (by decide) h2 h3).trans (z9D n (by omega)).symm)
 go_enter Tryz.func214, Tryz.ntmps214
 go_wp2_with (first | (go_at_call 68; refine (Tryz.strings_ContainsRune_ascii _ _ _ (by omega) (by omega)).mono ?_; rintro e w' ⟨rfl, rfl⟩) | go_in)
 go_ret
 exact ⟨zaS (by rw [HB.out]; have d1 : decide ((n : Int) ≤ 31) = false := decide_eq_false (by omega); have d2 : decide (126 < (n : Int)) = false := decide_eq_false (by omega); simp only [d1, d2, Bool.false_or]), rfl⟩
theorem z8L (n : Nat) (h : n < 127) : decide (0 ≤ Lib.indexByte ([32, 34, 35, 60, 62] : List UInt8) n.toUInt8) = (setL 2).contains (n : Int) := by
 have key : ∀ n : Fin 127, decide (0 ≤ Lib.indexByte ([32, 34, 35, 60, 62] : List UInt8) n.val.toUInt8) = (setL 2).contains (n.val : Int) := by decide +kernel
 exact key ⟨n, h⟩
theorem z9G (r : Int) (w : World) (h2 : 31 < r) (h3 : r ≤ 126) :
  Calls Tryz.prog 214 #[.int .u8 2, .int .i32 r] w fun e w' => e = .returned (.bool (inB 2 r)) ∧ w = w' := by
 obtain ⟨n, rfl⟩ := Int.eq_ofNat_of_zero_le (show 0 ≤ r by omega)
 have HB := Lib.hid ((zjZ (s := 2) (by decide) (by decide) h2 h3).trans (z8L n (by omega)).symm)
 go_enter Tryz.func214, Tryz.ntmps214
 go_wp2_with (first | (go_at_call 68; refine (Tryz.strings_ContainsRune_ascii _ _ _ (by omega) (by omega)).mono ?_; rintro e w' ⟨rfl, rfl⟩) | go_in)
 go_ret
 exact ⟨zaS (by rw [HB.out]; have d1 : decide ((n : Int) ≤ 31) = false := decide_eq_false (by omega); have d2 : decide (126 < (n : Int)) = false := decide_eq_false (by omega); simp only [d1, d2, Bool.false_or]), rfl⟩
theorem z9E (n : Nat) (h : n < 127) : decide (0 ≤ Lib.indexByte ([32, 34, 35, 60, 62, 39] : List UInt8) n.toUInt8) = (setL 3).contains (n : Int) := by
 have key : ∀ n : Fin 127, decide (0 ≤ Lib.indexByte ([32, 34, 35, 60, 62, 39] : List UInt8) n.val.toUInt8) = (setL 3).contains (n.val : Int) := by decide +kernel
 exact key ⟨n, h⟩
theorem z8V (r : Int) (w : World) (h2 : 31 < r) (h3 : r ≤ 126) :
  Calls Tryz.prog 214 #[.int .u8 3, .int .i32 r] w fun e w' => e = .returned (.bool (inB 3 r)) ∧ w = w' := by
 obtain ⟨n, rfl⟩ := Int.eq_ofNat_of_zero_le (show 0 ≤ r by omega)
 have HB := Lib.hid ((zjZ (s := 3) (by decide) (by decide) h2 h3).trans (z9E n (by omega)).symm)
 go_enter Tryz.func214, Tryz.ntmps214
 go_wp2_with (first | (go_at_call 68; refine (Tryz.strings_ContainsRune_ascii _ _ _ (by omega) (by omega)).mono ?_; rintro e w' ⟨rfl, rfl⟩) | go_in)
 go_ret
 exact ⟨zaS (by rw [HB.out]; have d1 : decide ((n : Int) ≤ 31) = false := decide_eq_false (by omega); have d2 : decide (126 < (n : Int)) = false := decide_eq_false (by omega); simp only [d1, d2, Bool.false_or]), rfl⟩
theorem z8F (n : Nat) (h : n < 127) : decide (0 ≤ Lib.indexByte ([32, 34, 35, 60, 62, 63, 94, 96, 123, 125] : List UInt8) n.toUInt8) = (setL 4).contains (n : Int) := by
 have key : ∀ n : Fin 127, decide (0 ≤ Lib.indexByte ([32, 34, 35, 60, 62, 63, 94, 96, 123, 125] : List UInt8) n.val.toUInt8) = (setL 4).contains (n.val : Int) := by decide +kernel
 exact key ⟨n, h⟩
theorem z8Q (r : Int) (w : World) (h2 : 31 < r) (h3 : r ≤ 126) :
  Calls Tryz.prog 214 #[.int .u8 4, .int .i32 r] w fun e w' => e = .returned (.bool (inB 4 r)) ∧ w = w' := by
 obtain ⟨n, rfl⟩ := Int.eq_ofNat_of_zero_le (show 0 ≤ r by omega)
 have HB := Lib.hid ((zjZ (s := 4) (by decide) (by decide) h2 h3).trans (z8F n (by omega)).symm)
 go_enter Tryz.func214, Tryz.ntmps214
 go_wp2_with (first | (go_at_call 68; refine (Tryz.strings_ContainsRune_ascii _ _ _ (by omega) (by omega)).mono ?_; rintro e w' ⟨rfl, rfl⟩) | go_in)
 go_ret
 exact ⟨zaS (by rw [HB.out]; have d1 : decide ((n : Int) ≤ 31) = false := decide_eq_false (by omega); have d2 : decide (126 < (n : Int)) = false := decide_eq_false (by omega); simp only [d1, d2, Bool.false_or]), rfl⟩
theorem z8H (n : Nat) (h : n < 127) : decide (0 ≤ Lib.indexByte ([32, 34, 35, 60, 62, 63, 94, 96, 123, 125, 47, 58, 59, 61, 64, 91, 92, 93, 124] : List UInt8) n.toUInt8) = (setL 5).contains (n : Int) := by
 have key : ∀ n : Fin 127, decide (0 ≤ Lib.indexByte ([32, 34, 35, 60, 62, 63, 94, 96, 123, 125, 47, 58, 59, 61, 64, 91, 92, 93, 124] : List UInt8) n.val.toUInt8) = (setL 5).contains (n.val : Int) := by decide +kernel
 exact key ⟨n, h⟩
theorem z8O (r : Int) (w : World) (h2 : 31 < r) (h3 : r ≤ 126) :
  Calls Tryz.prog 214 #[.int .u8 5, .int .i32 r] w fun e w' => e = .returned (.bool (inB 5 r)) ∧ w = w' := by
 obtain ⟨n, rfl⟩ := Int.eq_ofNat_of_zero_le (show 0 ≤ r by omega)
 have HB := Lib.hid ((zjZ (s := 5) (by decide) (by decide) h2 h3).trans (z8H n (by omega)).symm)
 go_enter Tryz.func214, Tryz.ntmps214
 go_wp2_with (first | (go_at_call 68; refine (Tryz.strings_ContainsRune_ascii _ _ _ (by omega) (by omega)).mono ?_; rintro e w' ⟨rfl, rfl⟩) | go_in)
 go_ret
 exact ⟨zaS (by rw [HB.out]; have d1 : decide ((n : Int) ≤ 31) = false := decide_eq_false (by omega); have d2 : decide (126 < (n : Int)) = false := decide_eq_false (by omega); simp only [d1, d2, Bool.false_or]), rfl⟩
theorem in_ctl (s r : Int) (w : World) (h0 : 0 ≤ s) (h1 : s ≤ 5) (h : r ≤ 31 ∨ 126 < r) :
  Calls Tryz.prog 214 #[.int .u8 s, .int .i32 r] w fun e w' => e = .returned (.bool (inB s r)) ∧ w = w' := by
 have HB := Lib.hid (z9B h0 h1 h)
 rcases h with h | h
 ·go_enter Tryz.func214, Tryz.ntmps214
  go_wp2
  go_ret
  exact ⟨zaS HB.out.symm, rfl⟩
 ·go_enter Tryz.func214, Tryz.ntmps214
  go_wp2
  go_ret
  exact ⟨zaS HB.out.symm, rfl⟩
theorem in_out (s r : Int) (w : World) (h : 5 < s) :
  Calls Tryz.prog 214 #[.int .u8 s, .int .i32 r] w fun e w' => e = .returned (.bool (inB s r)) ∧ w = w' := by
 have HB := Lib.hid (z8P (s := s) (r := r) (.inr h))
 go_enter Tryz.func214, Tryz.ntmps214
 go_wp2
 go_ret
 exact ⟨zaS HB.out.symm, rfl⟩
theorem z7Z (s r : Int) (w : World) (h0 : 0 ≤ s) :
  Calls Tryz.prog 214 #[.int .u8 s, .int .i32 r] w fun e w' => e = .returned (.bool (inB s r)) ∧ w = w' := by
 by_cases h5 : 5 < s
 ·exact in_out s r w h5
 ·by_cases hc : r ≤ 31 ∨ 126 < r
  ·exact in_ctl s r w h0 (by omega) hc
  ·rcases (show s = 0 ∨ s = 1 ∨ s = 2 ∨ s = 3 ∨ s = 4 ∨ s = 5 from by omega) with rfl | rfl | rfl | rfl | rfl | rfl
   ·exact z9O r w (by omega) (by omega)
   ·exact z8K r w (by omega) (by omega)
   ·exact z9G r w (by omega) (by omega)
   ·exact z8V r w (by omega) (by omega)
   ·exact z8Q r w (by omega) (by omega)
   ·exact z8O r w (by omega) (by omega)
end
section
open Go.RowKit
end
section
open Go.RowKit
/-- % and two digits at a text's beginning: the byte -/
def zfG : List UInt8 → Option UInt8
 | c :: a :: b :: _ => if c.toNat = 37 ∧ 0 ≤ valZ (a.toNat : Int) ∧ 0 ≤ valZ (b.toNat : Int) then some (UInt8.ofNat ((valZ (a.toNat : Int) * 16 + valZ (b.toNat : Int)).toNat)) else none
 | _ => none
def decL : Nat → List UInt8 → List UInt8
 | 0, _ => []
 | _ + 1, [] => []
 | f + 1, c :: r => match zfG (c :: r) with
  | some v => v :: decL f (r.drop 2)
  | none => c :: decL f r
def decB (l : List UInt8) : List UInt8 := decL l.length l
theorem zqI (r : Int) : valZ r < 16 := by unfold valZ; (repeat' split) <;> omega
theorem z3W (r : Int) : -1 ≤ valZ r := by unfold valZ; (repeat' split) <;> omega
theorem zfT (s : ByteArray) (k : Nat) (h : k < s.size) : s.data.toList.drop k = s[k] :: s.data.toList.drop (k + 1) := by
 rw [List.drop_eq_getElem_cons (by simpa using h)]
 rfl
theorem zlL (s : ByteArray) (k : Nat) (h : ¬ k < s.size) : s.data.toList.drop k = [] := List.drop_eq_nil_of_le (by simpa using h)
theorem zkB (s : ByteArray) (k : Nat) (hk : k + 2 < s.size) (h37 : s[k].toNat = 37) (h1 : 0 ≤ valZ (s[k + 1].toNat : Int)) (h2 : 0 ≤ valZ (s[k + 2].toNat : Int)) :
  zfG (s.data.toList.drop k) = some (UInt8.ofNat ((valZ (s[k + 1].toNat : Int) * 16 + valZ (s[k + 2].toNat : Int)).toNat)) := by
 rw [zfT s k (by omega), zfT s (k + 1) (by omega), zfT s (k + 2) (by omega)]
 simp only [zfG]
 rw [if_pos ⟨h37, h1, h2⟩]
theorem zgF (s : ByteArray) (k : Nat) (hk : k + 2 < s.size) (h : s[k].toNat ≠ 37 ∨ valZ (s[k + 1].toNat : Int) < 0 ∨ valZ (s[k + 2].toNat : Int) < 0) :
  zfG (s.data.toList.drop k) = none := by
 rw [zfT s k (by omega), zfT s (k + 1) (by omega), zfT s (k + 2) (by omega)]
 simp only [zfG]
 rw [if_neg (by omega)]
theorem ziD (s : ByteArray) (k : Nat) (hk : s.size ≤ k + 2) : zfG (s.data.toList.drop k) = none := by
 by_cases h0 : k < s.size
 ·rw [zfT s k h0]
  by_cases h1 : k + 1 < s.size
  ·rw [zfT s (k + 1) h1, zlL s (k + 2) (by omega)]
   rfl
  ·rw [zlL s (k + 1) h1]
   rfl
 ·rw [zlL s k h0]
  rfl
theorem z5W (a b : Int) (h0 : 0 ≤ a) (h1 : a < 16) (h2 : 0 ≤ b) (h3 : b < 16) : bits BinOp.or IntKind.i64 (a * 16) b % 256 = a * 16 + b := by
 have key : ∀ a b : Fin 16, bits BinOp.or IntKind.i64 ((a.val : Int) * 16) (b.val : Int) % 256 = (a.val : Int) * 16 + (b.val : Int) := by decide +kernel
 have := key ⟨a.toNat, by omega⟩ ⟨b.toNat, by omega⟩
 simp only [Int.toNat_of_nonneg h0, Int.toNat_of_nonneg h2] at this
 exact this
def zwI (o : Option UInt8) (w : World) (e : Ending) (w' : World) : Prop := e = .returned (.tuple #[.int .u8 ((o.getD 0).toNat : Int), .bool o.isSome]) ∧ ∃ n, w' = w.drewN n
theorem zfK {o : Option UInt8} {w : World} {e : Ending} {w' : World} (ho : o = none) (he : e = .returned (.tuple #[.int .u8 0, .bool false])) (n : Nat) (hw : w' = w.drewN n) : zwI o w e w' := by
 subst ho
 exact ⟨he, n, hw⟩
theorem zrG {o : Option UInt8} {v : UInt8} {x : Int} {w : World} {e : Ending} {w' : World} (ho : o = some v) (he : e = .returned (.tuple #[.int .u8 x, .bool true])) (hx : x = (v.toNat : Int)) (n : Nat) (hw : w' = w.drewN n) : zwI o w e w' := by
 subst ho hx
 exact ⟨he, n, hw⟩
theorem zoB (x : Int) (h0 : 0 ≤ x) (h1 : x < 256) : x = ((UInt8.ofNat x.toNat).toNat : Int) := by
 have : x.toNat % 256 = x.toNat := Nat.mod_eq_of_lt (by omega)
 simp [this]
 omega
theorem zmS (s : ByteArray) (k : Nat) (w : World) (hs : s.size ≤ 1073741824) (hk : k < s.size) :
  Calls Tryz.prog 77 #[.string s, .int .i64 k] w (zwI (zfG (s.data.toList.drop k)) w) := by
 obtain ⟨c0, hc0⟩ : ∃ c, s[k].toNat = c := ⟨_, rfl⟩
 by_cases h2 : k + 2 < s.size
 ·obtain ⟨c1, hc1⟩ : ∃ c, s[k + 1].toNat = c := ⟨_, rfl⟩
  obtain ⟨c2, hc2⟩ : ∃ c, s[k + 2].toNat = c := ⟨_, rfl⟩
  have l1 : c1 < 256 := by rw [← hc1]; exact s[k + 1].toNat_lt
  have l2 : c2 < 256 := by rw [← hc2]; exact s[k + 2].toNat_lt
  by_cases h37 : c0 = 37
  ·subst h37
   obtain ⟨v1, hv1⟩ : ∃ v, valZ (c1 : Int) = v := ⟨_, rfl⟩
   obtain ⟨v2, hv2⟩ : ∃ v, valZ (c2 : Int) = v := ⟨_, rfl⟩
   have b1 : v1 < 16 := by rw [← hv1]; exact zqI _
   have b2 : v2 < 16 := by rw [← hv2]; exact zqI _
   have b3 : -1 ≤ v1 := by rw [← hv1]; exact z3W _
   have b4 : -1 ≤ v2 := by rw [← hv2]; exact z3W _
   have hb37 : ((37 : Int) != 37) = false := by decide
   by_cases hv : 0 ≤ v1 ∧ 0 ≤ v2
   ·obtain ⟨b5, b6⟩ := hv
    have HT := Lib.hid (zkB s k h2 hc0 (by rw [hc1, hv1]; exact b5) (by rw [hc2, hv2]; exact b6))
    rw [hc1, hc2, hv1, hv2] at HT
    have HO := Lib.hid (z5W v1 v2 b5 b1 b6 b2)
    have HX := Lib.hid (zoB (v1 * 16 + v2) (by omega) (by omega))
    have p1 : (0 : Int) ≤ (k : Int) + 1 := by omega
    have p2 : (0 : Int) ≤ (k : Int) + 2 := by omega
    have p3 : (k : Int) + 1 < (s.size : Int) := by omega
    have p4 : (k : Int) + 2 < (s.size : Int) := by omega
    have q1 : IntKind.i64.wrap ((k : Int) + 1) = (k : Int) + 1 := IntWalk.i64_in _ (by omega)
    have q2 : IntKind.i64.wrap ((k : Int) + 2) = (k : Int) + 2 := IntWalk.i64_in _ (by omega)
    have r1 : ((k : Int) + 1).toNat = k + 1 := by omega
    have r2 : ((k : Int) + 2).toNat = k + 2 := by omega
    go_enter Tryz.func77, Tryz.ntmps77
    go_wp2_with fail
    go_quiet ((go_at_call 109; exact Calls.quiet_of_same ((zcX _ _).mono fun _ _ h => ⟨h.1, h.2.symm⟩)))
    clear q1 q2 r1 r2
    go_wp2
    go_ret2
    exact zrG HT.out rfl (HO.out.trans HX.out) nq rfl
   ·have HT := Lib.hid (zgF s k h2 (by rw [hc1, hc2, hv1, hv2]; omega))
    have p1 : (0 : Int) ≤ (k : Int) + 1 := by omega
    have p2 : (0 : Int) ≤ (k : Int) + 2 := by omega
    have p3 : (k : Int) + 1 < (s.size : Int) := by omega
    have p4 : (k : Int) + 2 < (s.size : Int) := by omega
    by_cases hv1n : v1 < 0
    all_goals
     have q1 : IntKind.i64.wrap ((k : Int) + 1) = (k : Int) + 1 := IntWalk.i64_in _ (by omega)
     have q2 : IntKind.i64.wrap ((k : Int) + 2) = (k : Int) + 2 := IntWalk.i64_in _ (by omega)
     have r1 : ((k : Int) + 1).toNat = k + 1 := by omega
     have r2 : ((k : Int) + 2).toNat = k + 2 := by omega
     go_enter Tryz.func77, Tryz.ntmps77
     go_wp2_with fail
     go_quiet ((go_at_call 109; exact Calls.quiet_of_same ((zcX _ _).mono fun _ _ h => ⟨h.1, h.2.symm⟩)))
     clear q1 q2 r1 r2
     have hv2n : v1 < 0 ∨ v2 < 0 := by omega
     go_wp2
     all_goals
      go_ret2
      exact zfK HT.out rfl nq rfl
  ·have HT := Lib.hid (zgF s k h2 (.inl (by rw [hc0]; exact h37)))
   have hb : ((c0 : Int) != 37) = true := by rw [bne_iff_ne]; omega
   go_enter Tryz.func77, Tryz.ntmps77
   go_wp2
   go_ret2
   exact zfK HT.out rfl 0 rfl
 ·have HT := Lib.hid (ziD s k (by omega))
  by_cases h37 : c0 = 37
  ·subst h37
   go_enter Tryz.func77, Tryz.ntmps77
   go_wp2
   go_ret2
   exact zfK HT.out rfl 0 rfl
  ·have hb : ((c0 : Int) != 37) = true := by rw [bne_iff_ne]; omega
   go_enter Tryz.func77, Tryz.ntmps77
   go_wp2
   go_ret2
   exact zfK HT.out rfl 0 rfl
theorem zoH (s : ByteArray) (k : Nat) (w : World) (hs : s.size ≤ 1073741824) (hk : k < s.size) :
  Calls Tryz.prog 84 #[.string s, .int .i64 k] w fun e w' => e = .returned (.bool (zfG (s.data.toList.drop k)).isSome) ∧ w = w' := by
 obtain ⟨c0, hc0⟩ : ∃ c, s[k].toNat = c := ⟨_, rfl⟩
 by_cases h2 : k + 2 < s.size
 ·obtain ⟨c1, hc1⟩ : ∃ c, s[k + 1].toNat = c := ⟨_, rfl⟩
  obtain ⟨c2, hc2⟩ : ∃ c, s[k + 2].toNat = c := ⟨_, rfl⟩
  have l1 : c1 < 256 := by rw [← hc1]; exact s[k + 1].toNat_lt
  have l2 : c2 < 256 := by rw [← hc2]; exact s[k + 2].toNat_lt
  by_cases h37 : c0 = 37
  ·subst h37
   obtain ⟨v1, hv1⟩ : ∃ v, valZ (c1 : Int) = v := ⟨_, rfl⟩
   obtain ⟨v2, hv2⟩ : ∃ v, valZ (c2 : Int) = v := ⟨_, rfl⟩
   by_cases b5 : 0 ≤ v1
   ·by_cases b6 : 0 ≤ v2
    ·have HT := Lib.hid (congrArg Option.isSome (zkB s k h2 hc0 (by rw [hc1, hv1]; exact b5) (by rw [hc2, hv2]; exact b6)))
     go_enter Tryz.func84, Tryz.ntmps84
     go_wp2_with (go_at_call 85; refine (zcF _ _).mono ?_; rintro e w' ⟨rfl, rfl⟩)
     go_ret
     exact ⟨zaS (by rw [HT.out]; simp [*]), rfl⟩
    ·have HT := Lib.hid (congrArg Option.isSome (zgF s k h2 (by rw [hc1, hc2, hv1, hv2]; omega)))
     go_enter Tryz.func84, Tryz.ntmps84
     go_wp2_with (go_at_call 85; refine (zcF _ _).mono ?_; rintro e w' ⟨rfl, rfl⟩)
     go_ret
     exact ⟨zaS (by rw [HT.out]; simp [*]; try omega), rfl⟩
   ·have HT := Lib.hid (congrArg Option.isSome (zgF s k h2 (by rw [hc1, hc2, hv1, hv2]; omega)))
    go_enter Tryz.func84, Tryz.ntmps84
    go_wp2_with (go_at_call 85; refine (zcF _ _).mono ?_; rintro e w' ⟨rfl, rfl⟩)
    all_goals
     go_ret
     exact ⟨zaS (by rw [HT.out]; simp [*]; try omega), rfl⟩
  ·have HT := Lib.hid (congrArg Option.isSome (zgF s k h2 (.inl (by rw [hc0]; exact h37))))
   have hb : ((c0 : Int) == 37) = false := beq_eq_false_iff_ne.2 (by omega)
   go_enter Tryz.func84, Tryz.ntmps84
   go_wp2
   go_ret
   exact ⟨zaS (by rw [HT.out]; first | rfl | (simp [*]; done)), rfl⟩
 ·have HT := Lib.hid (congrArg Option.isSome (ziD s k (by omega)))
  go_enter Tryz.func84, Tryz.ntmps84
  go_wp2
  go_ret
  exact ⟨zaS (by rw [HT.out]; first | rfl | (simp; omega)), rfl⟩
end
section
open Go.RowKit
theorem zxO (s : ByteArray) (f k : Nat) (h : ¬ k < s.size) : decL f (s.data.toList.drop k) = [] := by
 rw [zlL s k h]
 cases f <;> rfl
theorem zsL (s : ByteArray) (f k : Nat) (v : UInt8) (h : k < s.size) (ht : zfG (s.data.toList.drop k) = some v) : decL (f + 1) (s.data.toList.drop k) = v :: decL f (s.data.toList.drop (k + 3)) := by
 rw [zfT s k h] at ht ⊢
 simp only [decL, ht, List.drop_drop]
theorem zsK (s : ByteArray) (f k : Nat) (h : k < s.size) (ht : zfG (s.data.toList.drop k) = none) : decL (f + 1) (s.data.toList.drop k) = s[k] :: decL f (s.data.toList.drop (k + 1)) := by
 rw [zfT s k h] at ht ⊢
 simp only [decL, ht]
theorem zoN (s : ByteArray) (k : Nat) (v : UInt8) (h : zfG (s.data.toList.drop k) = some v) : k + 2 < s.size := by
 by_cases hk : k + 2 < s.size
 ·exact hk
 ·rw [ziD s k (by omega)] at h; cases h
theorem zoS (s : ByteArray) (w : World) (hs : s.size ≤ 1073741824) :
  Calls Tryz.prog 54 #[.string s] w fun e w' => e = .returned (.string ⟨(decB s.data.toList).toArray⟩) ∧ Below w.heap.size w w' := by
 go_enter Tryz.func54, Tryz.ntmps54
 go_wp2
 go_loopw [4] (fun i wr => ∃ (k fuel : Nat) (T : List UInt8), i = .int .i64 k ∧ k ≤ s.size ∧ Lib.IsBuilderF 95 5 w.heap.size w.heap.size (Lib.byteCells T) wr ∧ Below w.heap.size w wr ∧ T.length ≤ k ∧ s.size ≤ k + fuel ∧ Hid (T ++ decL fuel (s.data.toList.drop k) = decB s.data.toList)) (fun i _ => s.size - (intOf i).toNat)
 case atStart =>
  refine ⟨0, s.size, [], rfl, Nat.zero_le _, Lib.IsBuilderF.of (Lib.fresh_isBuilder _ _ w), (Below.refl _ w).alloc (Nat.le_refl _) _, by simp, by omega, ?_⟩
  show [] ++ decL s.size (s.data.toList.drop 0) = decL s.data.toList.length s.data.toList
  rw [zaF]; rfl
 case round =>
  obtain ⟨k, fuel, T, rfl, hk, hI, hbw, hTl, hfu, HD⟩ := hrel
  have hsz := hbw.size
  by_cases hlt : k < s.size
  ·obtain ⟨f, rfl⟩ : ∃ f, fuel = f + 1 := ⟨fuel - 1, by omega⟩
   cases hth : zfG (s.data.toList.drop k) with
   | some v =>
    have hroom := zoN s k v hth
    have hD2 := HD.out
    rw [zsL s f k v hlt hth] at hD2
    have HD2 := Lib.hid hD2
    have HTH := Lib.hid hth
    clear hD2 hth
    go_wp2_with fail
    refine (zmS s k _ hs hlt).mono ?_
    rw [HTH.out]
    rintro e w' ⟨rfl, nq, rfl⟩
    have hI2 : Lib.IsBuilderF 95 5 w.heap.size w.heap.size (Lib.byteCells T) (wr.drewN nq) := hI
    have hb2 := zbE hbw nq
    have hsz2 : w.heap.size ≤ (wr.drewN nq).heap.size := hsz
    generalize wr.drewN nq = w2 at *
    go_wp2_with fail
    refine (Tryz.Builder_WriteByte_k w.heap.size w.heap.size _ _ _ hI2 (by rw [Lib.byteCells_length]; omega) hsz2).mono ?_
    rintro e w3 ⟨rfl, h3, b3, _⟩
    go_wp2
    go_roundw
    case rel =>
     refine ⟨k + 3, f, T ++ [v], by go_num, by omega, ?_, hb2.trans b3, by simp; omega, by omega, ?_⟩
     ·rw [zkD T v _ rfl]; exact .inr h3
     ·show (T ++ [v]) ++ _ = _
      rw [List.append_assoc]; exact HD2.out
    case measure => simp [intOf]; omega
   | none =>
    have hD2 := HD.out
    rw [zsK s f k hlt hth] at hD2
    have HD2 := Lib.hid hD2
    have HTH := Lib.hid hth
    clear hD2 hth
    go_wp2_with fail
    refine (zmS s k _ hs hlt).mono ?_
    rw [HTH.out]
    rintro e w' ⟨rfl, nq, rfl⟩
    have hI2 : Lib.IsBuilderF 95 5 w.heap.size w.heap.size (Lib.byteCells T) (wr.drewN nq) := hI
    have hb2 := zbE hbw nq
    have hsz2 : w.heap.size ≤ (wr.drewN nq).heap.size := hsz
    generalize wr.drewN nq = w2 at *
    go_wp2_with fail
    refine (Tryz.Builder_WriteByte_k w.heap.size w.heap.size _ _ _ hI2 (by rw [Lib.byteCells_length]; omega) hsz2).mono ?_
    rintro e w3 ⟨rfl, h3, b3, _⟩
    go_wp2
    go_roundw
    case rel =>
     refine ⟨k + 1, f, T ++ [s[k]], by go_num, by omega, ?_, hb2.trans b3, by simp; omega, by omega, ?_⟩
     ·rw [zkD T s[k] _ rfl]; exact .inr h3
     ·show (T ++ [s[k]]) ++ _ = _
      rw [List.append_assoc]; exact HD2.out
    case measure => simp [intOf]; omega
  ·have hfin : T = decB s.data.toList := by
    have := HD.out
    rwa [zxO s fuel k hlt, List.append_nil] at this
   subst hfin
   go_wp2_with fail
   refine (Tryz.Builder_String_any_k w.heap.size w.heap.size _ _ hI (by omega)).mono ?_
   rintro e w1 ⟨rfl, _, b1, _⟩
   go_wp2
   go_ret
   exact ⟨rfl, hbw.trans b1⟩
theorem zjD (s : ByteArray) (w : World) (hs : s.size ≤ 1073741824) :
  Calls Tryz.prog 58 #[.string s] w fun e w' => e = .returned (.string ⟨(decB s.data.toList).toArray⟩) ∧ Below w.heap.size w w' := by
 obtain ⟨i0, hi, hz0, hz1, hz2⟩ := info_parts Tryz.infoByte
 go_enter Tryz.func58, Tryz.ntmps58
 go_wp2
 go_loopw [3, 4] (fun v i wr => ∃ (k fuel : Nat) (T : List UInt8), i = .int .i64 k ∧ k ≤ s.size ∧ Gath w.heap.size wr v T ∧ Below w.heap.size w wr ∧ T.length ≤ k ∧ s.size ≤ k + fuel ∧ Hid (T ++ decL fuel (s.data.toList.drop k) = decB s.data.toList)) (fun _ i _ => s.size - (intOf i).toNat)
 case atStart =>
  refine ⟨0, s.size, [], rfl, Nat.zero_le _, Gath.nil _ _, Below.refl _ w, by simp, by omega, ?_⟩
  show [] ++ decL s.size (s.data.toList.drop 0) = decL s.data.toList.length s.data.toList
  rw [zaF]; rfl
 case round =>
  obtain ⟨k, fuel, T, rfl, hk, hown, hbw, hTl, hfu, HD⟩ := hrel
  have hsz := hbw.size
  unfold Gath at hown
  by_cases hlt : k < s.size
  ·obtain ⟨f, rfl⟩ : ∃ f, fuel = f + 1 := ⟨fuel - 1, by omega⟩
   cases hth : zfG (s.data.toList.drop k) with
   | some v =>
    have hroom := zoN s k v hth
    have hD2 := HD.out
    rw [zsL s f k v hlt hth] at hD2
    have HD2 := Lib.hid hD2
    have hth2 : (zfG (s.data.toList.drop k)).isSome = true := by rw [hth]; rfl
    obtain ⟨c1, hc1⟩ : ∃ c, s[k + 1].toNat = c := ⟨_, rfl⟩
    obtain ⟨c2, hc2⟩ : ∃ c, s[k + 2].toNat = c := ⟨_, rfl⟩
    have l1 : c1 < 256 := by rw [← hc1]; exact s[k + 1].toNat_lt
    have l2 : c2 < 256 := by rw [← hc2]; exact s[k + 2].toNat_lt
    obtain ⟨v1, hv1⟩ : ∃ v, valZ (c1 : Int) = v := ⟨_, rfl⟩
    obtain ⟨v2, hv2⟩ : ∃ v, valZ (c2 : Int) = v := ⟨_, rfl⟩
    have b1 : v1 < 16 := by rw [← hv1]; exact zqI _
    have b2 : v2 < 16 := by rw [← hv2]; exact zqI _
    have hgood : 0 ≤ v1 ∧ 0 ≤ v2 ∧ s[k].toNat = 37 := by
     by_cases hg : s[k].toNat ≠ 37 ∨ v1 < 0 ∨ v2 < 0
     ·rw [zgF s k hroom (by rw [hc1, hc2, hv1, hv2]; exact hg)] at hth; cases hth
     ·omega
    obtain ⟨b5, b6, h37⟩ := hgood
    have hv : v = UInt8.ofNat ((v1 * 16 + v2).toNat) := by
     have h3 := zkB s k hroom h37 (by rw [hc1, hv1]; exact b5) (by rw [hc2, hv2]; exact b6)
     rw [hth, hc1, hc2, hv1, hv2] at h3
     exact Option.some.inj h3
    have hvx : (v.toNat : Int) = 16 * v1 + v2 := by
     rw [hv, ← zoB (v1 * 16 + v2) (by omega) (by omega)]; omega
    have HVX := Lib.hid hvx
    have HTH := Lib.hid hth
    clear hD2 hth hv hvx h37
    go_wp2_with (go_at_call 84; refine (zoH s k _ hs hlt).mono ?_; rintro e w' ⟨rfl, rfl⟩)
    have p1 : (0 : Int) ≤ (k : Int) + 1 := by omega
    have p2 : (0 : Int) ≤ (k : Int) + 2 := by omega
    have p3 : (k : Int) + 1 < (s.size : Int) := by omega
    have p4 : (k : Int) + 2 < (s.size : Int) := by omega
    have q1 : IntKind.i64.wrap ((k : Int) + 1) = (k : Int) + 1 := IntWalk.i64_in _ (by omega)
    have q2 : IntKind.i64.wrap ((k : Int) + 2) = (k : Int) + 2 := IntWalk.i64_in _ (by omega)
    have q3 : IntKind.i64.wrap (16 * v1) = 16 * v1 := IntWalk.i64_in _ (by omega)
    have q4 : IntKind.i64.wrap (16 * v1 + v2) = 16 * v1 + v2 := IntWalk.i64_in _ (by omega)
    have r1 : ((k : Int) + 1).toNat = k + 1 := by omega
    have q5 : IntKind.i32.wrap (c1 : Int) = (c1 : Int) := IntWalk.i32_in _ (by omega)
    have q6 : IntKind.i32.wrap (c2 : Int) = (c2 : Int) := IntWalk.i32_in _ (by omega)
    have q7 : IntKind.u8.wrap (16 * v1 + v2) = 16 * v1 + v2 := IntWalk.u8_in _ (by omega)
    have r2 : ((k : Int) + 2).toNat = k + 2 := by omega
    go_region_held3 (fun _ => True) (exact trivial)
     (first
      | (go_at_call 85; refine (zcF _ _).mono ?_; rintro e w' ⟨rfl, rfl⟩)
      | (refine step_append_lies _ (by rfl) _ _ _ (by rfl) w.heap.size 5 i0 _ 1 1 Tryz.underlying30 hi hz0 hz1 hz2 rfl (by omega) _ T.length (Lib.byteCells T) (by rfl) ((hown.alloc _).drew) ⟨wr.heap.size, 0, none⟩ 1 1 [.int .u8 (16 * v1 + v2)] (by rfl) (by rfl) (World.news_of_block (cs := #[.int .u8 (16 * v1 + v2)]) (t := 5) (fr := (0, 0)) (heap_alloc_new wr _)) (by simp [Value.oneCell']) (by omega) (by unfold maxLen; omega) (by omega) (by simp; omega) (wr.heap.size + 1) (by simp) ?_; intro gg cap w1 hown1 hgrow hat hlt2))
    all_goals
     clear q1 q2 q3 q4 q5 q6 q7 r1 r2
     have hbw3 : Below w.heap.size w w1 := ((hbw.alloc (by omega) _).drew).grown hgrow (by simp; omega) (fun j hj => by have := hown.lt j hj; omega)
     clear hgrow hown hat
     go_wp2
     go_roundw
     case rel =>
      refine ⟨k + 3, f, T ++ [v], by go_num, by omega, Gath.snoc hown1 HVX.out, hbw3, by simp; omega, by omega, ?_⟩
      show (T ++ [v]) ++ _ = _
      rw [List.append_assoc]; exact HD2.out
     case measure => simp [intOf]; omega
   | none =>
    have hD2 := HD.out
    rw [zsK s f k hlt hth] at hD2
    have HD2 := Lib.hid hD2
    have hth2 : (zfG (s.data.toList.drop k)).isSome = false := by rw [hth]; rfl
    obtain ⟨c, hc⟩ : ∃ c, s[k].toNat = c := ⟨_, rfl⟩
    have HC := Lib.hid hc
    clear hD2 hth
    go_wp2_with (first | (go_at_call 84; refine (zoH s k _ hs hlt).mono ?_; rintro e w' ⟨rfl, rfl⟩) | (at_builtin; refine zaR _ rfl _ _ 30 rfl w.heap.size 5 i0 (.int .u8 0) 1 Tryz.underlying30 hi hz0 hz1 hz2 rfl _ _ _ rfl hown (.int .u8 (c : Int)) rfl rfl (by omega) (by omega) hsz ?_; intro v' w1 hown' hk'))
    go_roundw
    case rel =>
     refine ⟨k + 1, f, T ++ [s[k]], by go_num, by omega, Gath.snoc hown' (by rw [HC.out]), hbw.trans hk', by simp; omega, by omega, ?_⟩
     show (T ++ [s[k]]) ++ _ = _
     rw [List.append_assoc]; exact HD2.out
    case measure => simp [intOf]; omega
  ·have hfin : decB s.data.toList = T := by
    have := HD.out
    rw [zxO s fuel k hlt, List.append_nil] at this
    exact this.symm
   have hcv := Gath.conv hown
   have HF := Lib.hid hfin
   clear hfin
   go_wp2
   go_ret
   exact ⟨by rw [HF.out]; rfl, hbw⟩
end
section
open Go.RowKit
def pctL (l : List UInt8) : List UInt8 := l.flatMap pctB
def encP (s r : Int) : List UInt8 := if inB s r = true then pctL (Lib.encodeRune r) else Lib.encodeRune r
def encB (s : Int) (l : List Int) : List UInt8 := l.flatMap (encP s)
theorem zxW (l : List UInt8) : (pctL l).length = 3 * l.length := by
 induction l with
 | nil => rfl
 | cons c l ih => simp only [pctL, List.flatMap_cons, List.length_append] at ih ⊢; rw [ih]; simp [pctB]; omega
theorem z7E (s r : Int) : (encP s r).length ≤ 12 := by
 have := zgV r
 unfold encP
 split
 ·rw [zxW]; omega
 ·omega
theorem z1Q (l : List UInt8) (k : Nat) (h : k < l.length) : pctL (l.take (k + 1)) = pctL (l.take k) ++ pctB l[k] := by
 unfold pctL
 rw [List.take_succ_eq_append_getElem h, List.flatMap_append]
 simp
theorem z4I (s r : Int) (l : List Int) : encB s (r :: l) = encP s r ++ encB s l := by simp [encB]
theorem zsS {T e : TypeId} {B b : Nat} {bs : List Value} {w w' : World} (h : Lib.IsBuilderF T e B b bs w) (hb : Below w.heap.size w w') : Lib.IsBuilderF T e B b bs w' := by
 have key : ∀ p, Lib.BuilderAtF T e B b p bs w → Lib.BuilderAtF T e B b p bs w' := by
  intro p hh
  obtain ⟨hB, v, hv, hown, hne⟩ := hh
  refine ⟨hB, v, (hb.block b (Array.getElem?_eq_some_iff.1 hv).1).trans hv, ⟨hown.1, ?_⟩, hne⟩
  rcases hown.2 with hn | ⟨g, cap, cur, fz, hv2, hbg, hg, rest⟩
  ·exact .inl hn
  ·exact .inr ⟨g, cap, cur, fz, hv2, hbg, (hb.block g (Array.getElem?_eq_some_iff.1 hg).1).trans hg, rest⟩
 exact h.elim (fun x => .inl (key _ x)) (fun x => .inr (key _ x))
theorem z9A (w : World) (r : Int) (t : TypeId) : RowR (w.alloc (.cells #[.int .i32 r] t)) (.slice (some ⟨w.heap.size, 0, none⟩) 1 1) ([r].map (Value.int .i32)) := by
 refine ⟨_, 1, rfl, fun j u hj => ⟨_, rfl, ?_⟩⟩
 exact zuP w (.int .i32 r) t j u hj
theorem zuC (l : List UInt8) : Lib.strCells ⟨l.toArray⟩ = Lib.byteCells l := rfl
theorem zzS (l : List UInt8) (k : Nat) (h : k < (ByteArray.mk l.toArray).size) : (ByteArray.mk l.toArray)[k] = l[k]'(by simpa [ByteArray.size] using h) := rfl
theorem zyF (st : Int) (s : ByteArray) (w : World) (hst : 0 ≤ st) (hs : s.size ≤ 67108864) :
  Calls Tryz.prog 212 #[.int .u8 st, .string s] w fun e w' => e = .returned (.string ⟨(encB st (scal s)).toArray⟩) ∧ Below w.heap.size w w' := by
 go_enter Tryz.func212, Tryz.ntmps212
 go_wp2
 go_loopw [] (fun wr => ∃ (pos fuel : Nat) (acc : List UInt8), Lib.IsBuilderF 95 5 w.heap.size w.heap.size (Lib.byteCells acc) wr ∧ wr.heap[w.heap.size + 1]? = some (.stringIter s pos) ∧ Below w.heap.size w wr ∧ Hid (acc ++ encB st (zqB s fuel pos) = encB st (scal s)) ∧ s.size ≤ pos + fuel ∧ acc.length ≤ 12 * pos ∧ pos ≤ s.size + 4) (fun wr => s.size - wr.iterPos (w.heap.size + 1))
 case atStart =>
  refine ⟨0, s.size, [], (Lib.IsBuilderF.of (Lib.fresh_isBuilder _ _ w)).alloc _, ?_, ((Below.refl _ w).alloc (Nat.le_refl _) _).alloc (by simp) _, rfl, by omega, by simp, by omega⟩
  have := World.iter_heap (w.alloc (.cells #[.pointer none, .slice none 0 0] 95)) s 0
  simpa using this
 case round =>
  obtain ⟨pos, fuel, acc, hI, hit, hbw, HA, hfu, hal, hpo⟩ := hrel
  have hsz : w.heap.size + 1 < wr.heap.size := (Array.getElem?_eq_some_iff.1 hit).1
  by_cases hp : pos < s.size
  ·have hnx : ∀ ty, (Instr.next (.pointer (some ⟨w.heap.size + 1, 0, none⟩)) true ty).run Tryz.prog wr = _ := fun ty => Lib.run_next_any_at wr (w.heap.size + 1) s pos ty hit hp
   have hwd := zmE s pos hp
   have hwl := zxT s pos
   have hd1 := decode_le s pos
   have hI2 := hI.iterAt hit (pos + (Utf8.decode s pos).2)
   have hit2 := Lib.iterAt_heap wr (w.heap.size + 1) s pos (pos + (Utf8.decode s pos).2) hit
   have hbw2 := Lib.below_iterAt hbw (k := w.heap.size + 1) (by omega) s (pos + (Utf8.decode s pos).2)
   have hsz2 : w.heap.size + 1 < (wr.iterAt (w.heap.size + 1) s (pos + (Utf8.decode s pos).2)).heap.size := by rw [Lib.iterAt_size]; omega
   obtain ⟨f, rfl⟩ : ∃ f, fuel = f + 1 := ⟨fuel - 1, by omega⟩
   have hA2 := HA.out
   rw [zoJ s f pos hp, z4I] at hA2
   have HA2 := Lib.hid hA2
   clear hA2
   generalize wr.iterAt (w.heap.size + 1) s (pos + (Utf8.decode s pos).2) = wi at *
   generalize hr : ((Utf8.decode s pos).1 : Int) = r at *
   have hr0 : 0 ≤ r := by omega
   have hr1 : r ≤ 2147483647 := by omega
   have HWP : Hid (wr.iterPos (w.heap.size + 1) = pos) := by
    show wr.iterPos (w.heap.size + 1) = pos
    simp only [World.iterPos, hit]
   clear hr
   have hel := zgV r
   cases hin : inB st r with
   | false =>
    have hep : encP st r = Lib.encodeRune r := by unfold encP; rw [hin]; rfl
    have HEP := Lib.hid hep
    clear hep
    go_wp2_with fail
    refine (z7Z st r _ hst).mono ?_
    rintro e w' ⟨rfl, rfl⟩
    rw [hin]
    go_wp2_with fail
    refine (Tryz.Builder_WriteRune_k w.heap.size w.heap.size _ r (by omega) hr1 _ hI2 (by rw [Lib.byteCells_length]; omega) (by omega)).mono ?_
    rintro e w1 ⟨rfl, h1, b1, k1⟩
    have hit3 := k1.iter hit2 (by omega)
    go_wp2
    go_roundw
    case rel =>
     refine ⟨pos + (Utf8.decode s pos).2, f, acc ++ Lib.encodeRune r, ?_, hit3, hbw2.trans b1, ?_, by omega, by simp; omega, by omega⟩
     ·rw [Lib.byteCells_append, Lib.byteCells_encodeRune]; exact .inr h1
     ·show (acc ++ Lib.encodeRune r) ++ _ = _
      rw [List.append_assoc, ← HEP.out]; exact HA2.out
    case measure =>
     rw [HWP.out]
     simp only [World.iterPos, hit3]
     omega
   | true =>
    have hep : encP st r = pctL (Lib.encodeRune r) := by unfold encP; rw [hin]; rfl
    have HEP := Lib.hid hep
    clear hep
    go_wp2_with fail
    refine (z7Z st r _ hst).mono ?_
    rintro e w' ⟨rfl, rfl⟩
    rw [hin]
    have hrow := z9A wi r 21
    have hI3 := hI2.alloc (.cells #[.int .i32 r] 21)
    have hit3 : (wi.alloc (.cells #[.int .i32 r] 21)).heap[w.heap.size + 1]? = some (.stringIter s (pos + (Utf8.decode s pos).2)) := by rw [Below.heap_alloc _ _ _ (by omega)]; exact hit2
    have hbw3 := hbw2.alloc (by omega : w.heap.size ≤ wi.heap.size) (.cells #[.int .i32 r] 21)
    go_wp2_with fail
    refine (z5A _ [r] _ hrow (by simp) (by intro x hx; simp at hx; omega)).mono ?_
    rintro e w2 ⟨rfl, hb2⟩
    have hI4 := zsS hI3 hb2
    have hit4 := (hb2.block (w.heap.size + 1) (by simp; omega)).trans hit3
    have hbw4 : Below w.heap.size w w2 := hbw3.trans (hb2.mono (by simp; omega))
    clear hI2 hI3 hit2 hit3 hbw2 hbw3 hrow hb2
    rw [show ziW [r] = Lib.encodeRune r from by simp [ziW]]
    generalize hE : Lib.encodeRune r = E at *
    have HE := Lib.hid hE
    clear hE
    go_wp2
    go_loopw [26] (fun i wq => ∃ j : Nat, j ≤ E.length ∧ i = .int .i64 j ∧ Lib.IsBuilderF 95 5 w.heap.size w.heap.size (Lib.byteCells (acc ++ pctL (E.take j))) wq ∧ wq.heap[w.heap.size + 1]? = some (.stringIter s (pos + (Utf8.decode s pos).2)) ∧ Below w.heap.size w wq) (fun i _ => E.length - (intOf i).toNat)
    case atStart =>
     refine ⟨0, Nat.zero_le _, rfl, ?_, hit4, hbw4⟩
     simpa [pctL] using hI4
    case round =>
     obtain ⟨j, hj, rfl, hIq, hitq, hbwq⟩ := hrel
     have hszq : w.heap.size + 1 < wr.heap.size := (Array.getElem?_eq_some_iff.1 hitq).1
     by_cases hjlt : j < E.length
     ·have hjs : j < (ByteArray.mk E.toArray).size := by rw [zaB]; exact hjlt
      have hsn := z1Q E j hjlt
      have HSN := Lib.hid hsn
      have hpl : (pctL (E.take j)).length ≤ 12 := by rw [zxW, List.length_take]; omega
      clear hsn
      have hba := zzS E j hjs
      have HBA := Lib.hid hba
      clear hba
      go_wp2_with fail
      refine (z6N (ByteArray.mk E.toArray)[j] _).mono ?_
      rintro e w3 ⟨rfl, hb3⟩
      have hI5 := zsS hIq hb3
      have hit5 := (hb3.block (w.heap.size + 1) (by omega)).trans hitq
      have hbw5 : Below w.heap.size w w3 := hbwq.trans (hb3.mono (by omega))
      have hsz3 : w.heap.size ≤ w3.heap.size := hbw5.size
      go_wp2_with fail
      refine (Tryz.Builder_WriteString_k w.heap.size w.heap.size _ _ _ hI5 (by rw [Lib.byteCells_length, List.length_append, zaB, show (pctB (ByteArray.mk E.toArray)[j]).length = 3 from rfl]; omega) hsz3).mono ?_
      rintro e w4 ⟨rfl, h4, b4, k4⟩
      have hit6 := k4.iter hit5 (by omega)
      go_wp2
      go_roundw
      case rel =>
       refine ⟨j + 1, by omega, by go_num, ?_, hit6, hbw5.trans b4⟩
       rw [HSN.out, ← List.append_assoc, Lib.byteCells_append, ← HBA.out, ← zuC]
       exact .inr h4
      case measure => simp [intOf]; omega
     ·have hfin : pctL (E.take j) = encP st r := by rw [List.take_of_length_le (by omega), HEP.out]
      rw [hfin] at hIq
      clear hfin
      have hpl := z7E st r
      generalize encP st r = EP at *
      go_wp2
      go_roundw
      case rel =>
       refine ⟨pos + (Utf8.decode s pos).2, f, acc ++ EP, hIq, hitq, hbwq, ?_, by omega, by simp; omega, by omega⟩
       show (acc ++ EP) ++ _ = _
       rw [List.append_assoc]; exact HA2.out
      case measure =>
       simp only [World.iterPos, hitq]
       have := HWP.out
       simp only [World.iterPos] at this
       omega
  ·have hnx : ∀ ty, (Instr.next (.pointer (some ⟨w.heap.size + 1, 0, none⟩)) true ty).run Tryz.prog wr = _ := fun ty => Lib.run_next_end_at wr (w.heap.size + 1) s pos ty hit hp
   have hfin : acc = encB st (scal s) := by
    have := HA.out
    rw [zsB s fuel pos hp] at this
    simpa [encB] using this
   subst hfin
   go_wp2_with fail
   refine (Tryz.Builder_String_any_k w.heap.size w.heap.size _ _ hI (by omega)).mono ?_
   rintro e w1 ⟨rfl, _, b1, _⟩
   go_wp2
   go_ret
   exact ⟨rfl, hbw.trans b1⟩
end
section
open Go.RowKit
theorem z0O : encB 4 (scal ⟨#[97, 32, 98]⟩) = [97, 37, 50, 48, 98] := by decide +kernel
theorem z2O : decB [37, 50, 53, 52, 49] = [37, 52, 49] := by decide +kernel
theorem zzY (w : World) :
  Calls Tryz.prog 211 #[] w fun e w' => e = .returned (.bool true) ∧ Below w.heap.size w w' := by
 go_enter Tryz.func211, Tryz.ntmps211
 go_wp2_with fail
 refine (z1B _).mono ?_
 rintro e w1 ⟨rfl, hb⟩
 go_wp2
 go_ret
 exact ⟨rfl, hb⟩
theorem zwD (w : World) :
  Calls Tryz.prog 210 #[] w fun e w' => e = .returned (.bool true) ∧ Below w.heap.size w w' := by
 go_enter Tryz.func210, Tryz.ntmps210
 go_wp2_with fail
 refine (zzY _).mono ?_
 rintro e w1 ⟨rfl, hb1⟩
 go_wp2_with fail
 refine (zyF 4 _ _ (by decide) (by decide)).mono ?_
 rintro e w2 ⟨rfl, hb2⟩
 rw [z0O]
 have hc2 : Below w.heap.size w w2 := hb1.trans (hb2.mono hb1.size)
 clear hb1 hb2
 go_wp2_with fail
 refine (zoS _ _ (by decide)).mono ?_
 rintro e w3 ⟨rfl, hb3⟩
 have hd : decB (ByteArray.mk #[37, 50, 53, 52, 49]).data.toList = [37, 52, 49] := z2O
 rw [hd]
 have hc3 : Below w.heap.size w w3 := hc2.trans (hb3.mono hc2.size)
 clear hc2 hb3 hd
 go_wp2
 go_ret
 exact ⟨by first | rfl | exact zaS (by decide), hc3⟩
end
section
open Go.RowKit
def digC (b : Int) (c : UInt8) : Bool := decide (0 ≤ valZ (c.toNat : Int) ∧ valZ (c.toNat : Int) < b)
def zbQ (b : Int) (l : List UInt8) : Bool := l.all (digC b)
def capZ (x : Int) : Int := if 1099511627776 < x then 1099511627776 else x
def zuU (b : Int) (n : Int) (c : UInt8) : Int := capZ (n * b + valZ (c.toNat : Int))
def numZ (b : Int) (l : List UInt8) : Int := l.foldl (zuU b) 0
/-- the digits, and the base that stands ahead of them -/
def zgA (l : List UInt8) : List UInt8 × Int :=
 match l with
 | a :: c :: r => if a.toNat = 48 then (if c.toNat = 120 ∨ c.toNat = 88 then (r, 16) else (c :: r, 8)) else (a :: c :: r, 10)
 | _ => (l, 10)
def zaX (l : List UInt8) : Int × Bool :=
 if l.isEmpty then (0, false) else if zbQ (zgA l).2 (zgA l).1 then (numZ (zgA l).2 (zgA l).1, true) else (0, false)
theorem z0K (b : Int) (s : ByteArray) (k : Nat) (h : k < s.size) : zbQ b (s.data.toList.take (k + 1)) = (zbQ b (s.data.toList.take k) && digC b s[k]) := by
 rw [zeJ s k h]; simp [zbQ]
theorem zsF (b : Int) (s : ByteArray) (k : Nat) (h : k < s.size) : numZ b (s.data.toList.take (k + 1)) = zuU b (numZ b (s.data.toList.take k)) s[k] := by
 rw [zeJ s k h]; simp [numZ]
theorem zjM {b : Int} {c : UInt8} {v : Int} (hv : valZ (c.toNat : Int) = v) (h0 : 0 ≤ v) (h1 : v < b) : digC b c = true := decide_eq_true (by rw [hv]; exact ⟨h0, h1⟩)
theorem zdW {b : Int} {c : UInt8} {v : Int} (hv : valZ (c.toNat : Int) = v) (h : v < 0 ∨ b ≤ v) : digC b c = false := decide_eq_false (by rw [hv]; omega)
theorem zdR (b : Int) (s : ByteArray) (k : Nat) (h : k < s.size) (hc : digC b s[k] = false) : zbQ b s.data.toList = false := by
 unfold zbQ
 rw [List.all_eq_false]
 refine ⟨s[k], ?_, by rw [hc]; simp⟩
 show s.data[k] ∈ _
 simp
theorem zhN (b : Int) (s : ByteArray) (k : Nat) (h : k < s.size) (hp : zbQ b (s.data.toList.take k) = true) (hc : digC b s[k] = true) : zbQ b (s.data.toList.take (k + 1)) = true := by
 rw [z0K b s k h, hp, hc]; rfl
theorem zjC (r : Int) (h : 128 ≤ r) : valZ r = -1 := by
 unfold valZ; (repeat' split) <;> omega
theorem zpW (r : Int) : valZ r < 16 := by
 unfold valZ; (repeat' split) <;> omega
theorem z9M (x : Int) : capZ x ≤ 1099511627776 := by unfold capZ; split <;> omega
theorem z0W {x : Int} (h : 1099511627776 < x) : capZ x = 1099511627776 := if_pos h
theorem z1I {x : Int} (h : ¬ 1099511627776 < x) : capZ x = x := if_neg h
theorem zwU (b n : Int) (c : UInt8) (v : Int) (hv : valZ (c.toNat : Int) = v) : zuU b n c = capZ (n * b + v) := by rw [zuU, hv]
theorem zpB (l : List UInt8) : (zgA l).2 = 8 ∨ (zgA l).2 = 10 ∨ (zgA l).2 = 16 := by
 unfold zgA
 repeat' split
 all_goals simp
theorem zqU (s : ByteArray) (h : 2 ≤ s.size) : ∃ r, s.data.toList = s[0] :: s[1] :: r ∧ s.data.toList.drop 2 = r := by
 refine ⟨s.data.toList.drop 2, ?_, rfl⟩
 have e0 : s.data.toList = s.data.toList.drop 0 := rfl
 conv => lhs; rw [e0, List.drop_eq_getElem_cons (by simp; omega), List.drop_eq_getElem_cons (by simp; omega)]
 rfl
theorem zmY (s : ByteArray) (h : s.size < 2) : zgA s.data.toList = (s.data.toList, 10) := by
 have hl := zaF s
 match hd : s.data.toList, hl with
 | [], _ => rfl
 | [a], _ => rfl
 | a :: c :: r, hl => simp at hl; omega
theorem ztU (s : ByteArray) (h : 2 ≤ s.size) (h0 : s[0].toNat ≠ 48) : zgA s.data.toList = (s.data.toList, 10) := by
 obtain ⟨r, hr, _⟩ := zqU s h
 rw [hr]; simp [zgA, h0]
theorem ztC (s : ByteArray) (h : 2 ≤ s.size) (h0 : s[0].toNat = 48) (h1 : s[1].toNat = 120 ∨ s[1].toNat = 88) : zgA s.data.toList = (s.data.toList.drop 2, 16) := by
 obtain ⟨r, hr, h2⟩ := zqU s h
 rw [h2, hr]; simp only [zgA, h0, h1, if_true]
theorem zsZ (s : ByteArray) (h : 2 ≤ s.size) (h0 : s[0].toNat = 48) (h1 : ¬ (s[1].toNat = 120 ∨ s[1].toNat = 88)) : zgA s.data.toList = (s.data.toList.drop 1, 8) := by
 obtain ⟨r, hr, _⟩ := zqU s h
 rw [hr]; simp only [zgA, h0, h1, if_true, if_false]; rfl
theorem zhM (s : ByteArray) (a : Nat) : s.extract a s.size = ⟨(s.data.toList.drop a).toArray⟩ :=
 zdX s a s.size _ (List.take_of_length_le (by simp))
def z4E (w : World) (x : List UInt8 × Int) (e : Ending) (w' : World) : Prop := e = .returned (.tuple #[.string ⟨x.1.toArray⟩, .int .i64 x.2]) ∧ w = w'
theorem zhS {w : World} {x : List UInt8 × Int} {y : ByteArray} {b : Int} {l : List UInt8} (h : x = (l, b)) (hy : y = ⟨l.toArray⟩) : z4E w x (.returned (.tuple #[.string y, .int .i64 b])) w := by
 subst h hy; exact ⟨rfl, rfl⟩
theorem znP (s : ByteArray) (w : World) (hs : s.size ≤ 1073741824) :
  Calls Tryz.prog 112 #[.string s] w (z4E w (zgA s.data.toList)) := by
 by_cases h2 : s.size < 2
 ·have HR := Lib.hid (zmY s h2)
  go_enter Tryz.func112, Tryz.ntmps112
  go_wp2
  go_ret2
  exact zhS HR.out (by simp)
 ·have h2' : 2 ≤ s.size := by omega
  have l0 : 0 < s.size := by omega
  have l1 : 1 < s.size := by omega
  obtain ⟨a, ha⟩ : ∃ a, s[0].toNat = a := ⟨_, rfl⟩
  obtain ⟨c, hc⟩ : ∃ a, s[1].toNat = a := ⟨_, rfl⟩
  by_cases h48 : a = 48
  ·subst h48
   by_cases hx : c = 120 ∨ c = 88
   ·have HR := Lib.hid (ztC s h2' ha (by rw [hc]; exact hx))
    rcases hx with rfl | rfl
    all_goals
     go_enter Tryz.func112, Tryz.ntmps112
     go_wp2
     go_ret2
     exact zhS HR.out (zhM s 2)
   ·have HR := Lib.hid (zsZ s h2' ha (by rw [hc]; exact hx))
    have b1 : ((c : Int) == 120) = false := beq_eq_false_iff_ne.2 (by omega)
    have b2 : ((c : Int) == 88) = false := beq_eq_false_iff_ne.2 (by omega)
    clear hx
    go_enter Tryz.func112, Tryz.ntmps112
    go_wp2
    go_ret2
    exact zhS HR.out (zhM s 1)
  ·have HR := Lib.hid (ztU s h2' (by rw [ha]; exact h48))
   have b1 : ((a : Int) != 48) = true := by rw [bne_iff_ne]; omega
   go_enter Tryz.func112, Tryz.ntmps112
   go_wp2
   go_ret2
   exact zhS HR.out (by simp)
def zxE (w : World) (x : Int × Bool) (e : Ending) (w' : World) : Prop := e = .returned (.tuple #[.int .u64 x.1, .bool x.2]) ∧ Below w.heap.size w w'
theorem zcR {w w' : World} {x : Int × Bool} {n : Int} {b : Bool} (h : x = (n, b)) (hb : Below w.heap.size w w') : zxE w x (.returned (.tuple #[.int .u64 n, .bool b])) w' := by
 subst h; exact ⟨rfl, hb⟩
theorem zbP (s : ByteArray) (b : Int) (w : World) (hs : s.size ≤ 1073741824) :
  Calls Tryz.prog 87 #[.string s, .int .i64 b] w fun e w' => e = .returned (.bool (zbQ b s.data.toList)) ∧ w = w' := by
 go_enter Tryz.func87, Tryz.ntmps87
 go_wp2
 go_loop [5] (fun i => ∃ k : Nat, k ≤ s.size ∧ i = .int .i64 k ∧ Hid (zbQ b (s.data.toList.take k) = true)) (fun i => s.size - (intOf i).toNat)
 case atStart => exact ⟨0, Nat.zero_le _, rfl, rfl⟩
 case round =>
  obtain ⟨k, hk, rfl, H⟩ := hrel
  by_cases hlt : k < s.size
  ·obtain ⟨c, hc⟩ : ∃ c, (s[k]'hlt).toNat = c := ⟨_, rfl⟩
   have hc256 : c < 256 := by rw [← hc]; exact (s[k]'hlt).toNat_lt
   obtain ⟨v, hv⟩ : ∃ v, valZ (c : Int) = v := ⟨_, rfl⟩
   have HV : Hid (valZ (s[k].toNat : Int) = v) := by show valZ (s[k].toNat : Int) = v; rw [hc]; exact hv
   by_cases h0 : v < 0
   ·have HF := Lib.hid (zdR b s k hlt (zdW HV.out (.inl h0)))
    go_wp2_with (go_at_call 85; refine (zcF _ _).mono ?_; rintro e w' ⟨rfl, rfl⟩)
    go_ret
    exact ⟨zaS HF.out.symm, rfl⟩
   ·by_cases h1 : b ≤ v
    ·have HF := Lib.hid (zdR b s k hlt (zdW HV.out (.inr h1)))
     go_wp2_with (go_at_call 85; refine (zcF _ _).mono ?_; rintro e w' ⟨rfl, rfl⟩)
     go_ret
     exact ⟨zaS HF.out.symm, rfl⟩
    ·have HF := Lib.hid (zhN b s k hlt H.out (zjM HV.out (by omega) (by omega)))
     go_wp2_with (go_at_call 85; refine (zcF _ _).mono ?_; rintro e w' ⟨rfl, rfl⟩)
     go_round
     case rel => exact ⟨k + 1, by omega, by go_num, HF⟩
     case measure => simp [intOf]; omega
  ·have HF : Hid (zbQ b s.data.toList = true) := by
    show zbQ b s.data.toList = true
    have := H.out
    rwa [zcW s k hlt] at this
   go_wp2
   go_ret
   exact ⟨zaS HF.out.symm, rfl⟩
theorem z1A (b : Int) (s : ByteArray) (k : Nat) (h : k < s.size) (hd : zbQ b s.data.toList = true) : 0 ≤ valZ (s[k].toNat : Int) ∧ valZ (s[k].toNat : Int) < b := by
 unfold zbQ at hd
 rw [List.all_eq_true] at hd
 have := hd s[k] (by show s.data[k] ∈ _; simp)
 exact of_decide_eq_true this
theorem zeL (s : ByteArray) (b : Int) (w : World) (hs : s.size ≤ 1073741824) (hb : b = 8 ∨ b = 10 ∨ b = 16) (hd : zbQ b s.data.toList = true) :
  Calls Tryz.prog 115 #[.string s, .int .i64 b] w fun e w' => e = .returned (.int .u64 (numZ b s.data.toList)) ∧ w = w' := by
 have HD := Lib.hid hd
 clear hd
 have hb1 : 8 ≤ b := by omega
 have hb2 : b ≤ 16 := by omega
 clear hb
 go_enter Tryz.func115, Tryz.ntmps115
 go_wp2
 go_loop [5, 6] (fun n i => ∃ (k : Nat) (A : Int), k ≤ s.size ∧ i = .int .i64 k ∧ n = .int .i64 A ∧ 0 ≤ A ∧ A ≤ 1099511627776 ∧ Hid (A = numZ b (s.data.toList.take k))) (fun _ i => s.size - (intOf i).toNat)
 case atStart => exact ⟨0, 0, Nat.zero_le _, rfl, rfl, by omega, by omega, rfl⟩
 case round =>
  obtain ⟨k, A, hk, rfl, rfl, hA0, hA1, HA⟩ := hrel
  by_cases hlt : k < s.size
  ·obtain ⟨c, hc⟩ : ∃ c, (s[k]'hlt).toNat = c := ⟨_, rfl⟩
   have hc256 : c < 256 := by rw [← hc]; exact (s[k]'hlt).toNat_lt
   obtain ⟨v, hv⟩ : ∃ v, valZ (c : Int) = v := ⟨_, rfl⟩
   have hvb := z1A b s k hlt HD.out
   rw [hc, hv] at hvb
   obtain ⟨hv0, hv1⟩ := hvb
   have hsn := zsF b s k hlt
   rw [← HA.out, zwU _ _ _ v (by rw [hc]; exact hv)] at hsn
   have HSN := Lib.hid hsn
   clear hsn
   have hP0 : 0 ≤ A * b := Int.mul_nonneg hA0 (by omega)
   have hP1 : A * b ≤ 1099511627776 * 16 := Int.mul_le_mul hA1 hb2 (by omega) (by omega)
   by_cases ht : 1099511627776 < A * b + v
   ·have HC := Lib.hid (HSN.out.trans (z0W ht))
    go_wp2_with (go_at_call 85; refine (zcF _ _).mono ?_; rintro e w' ⟨rfl, rfl⟩)
    go_round
    case rel => exact ⟨k + 1, 1099511627776, by omega, by go_num, rfl, by omega, by omega, HC.out.symm⟩
    case measure => simp [intOf]; omega
   ·have HC := Lib.hid (HSN.out.trans (z1I ht))
    go_wp2_with (go_at_call 85; refine (zcF _ _).mono ?_; rintro e w' ⟨rfl, rfl⟩)
    go_round
    case rel => exact ⟨k + 1, _, by omega, by go_num, rfl, by omega, by omega, HC.out.symm⟩
    case measure => simp [intOf]; omega
  ·have HF : Hid (numZ b s.data.toList = A) := by
    show numZ b s.data.toList = A
    rw [HA.out, zcW s k hlt]
   go_wp2
   go_ret
   exact ⟨zcB HF.out.symm, rfl⟩
end
section
open Go.RowKit
theorem zhF (l : List UInt8) (r : List UInt8) (b : Int) (h : zgA l = (r, b)) (hd : zbQ b r = false) : zaX l = (0, false) := by
 unfold zaX
 rw [h, hd]
 split <;> rfl
theorem zgK (l : List UInt8) (r : List UInt8) (b : Int) (h : zgA l = (r, b)) (hn : l ≠ []) (hd : zbQ b r = true) : zaX l = (numZ b r, true) := by
 unfold zaX
 rw [h, hd]
 cases l with
 | nil => exact absurd rfl hn
 | cons a t => rfl
theorem zuW (s : ByteArray) (h : s.size = 0) : s.data.toList = [] := List.length_eq_zero_iff.1 (by rw [zaF]; exact h)
theorem zcY (s : ByteArray) (h : s.size ≠ 0) : s.data.toList ≠ [] := fun e => h (by rw [← zaF, e]; rfl)
theorem z3A (s : ByteArray) : ByteArray.mk s.data.toList.toArray = s := by simp
theorem zaC (l : List UInt8) : (ByteArray.mk l.toArray).data.toList = l := by simp
theorem zcT (s : ByteArray) (h : s.size = 0) : s = ⟨#[]⟩ := by
 apply ByteArray.ext
 apply Array.ext'
 exact zuW s h
theorem zdT (s : ByteArray) (h : s.size ≠ 0) : s.toList.isEmpty = false := by
 rw [ByteArray.toList_eq]
 cases hd : s.data.toList with
 | nil => exact absurd hd (zcY s h)
 | cons a l => rfl
theorem zzT (s : ByteArray) (d : ByteArray) (b : Int) (w : World) (hs : s.size ≤ 1073741824) (hn : s.size ≠ 0) (hb : b = 8 ∨ b = 10 ∨ b = 16) (hr : zgA s.data.toList = (d.data.toList, b)) :
  Calls Tryz.prog 81 #[.string s] w (zxE w (zaX s.data.toList)) := by
 have HR := Lib.hid hr
 have HNO := Lib.hid (zhF s.data.toList _ b hr)
 have HYES := Lib.hid (zgK s.data.toList _ b hr (zcY s hn))
 have hse := zdT s hn
 clear hr hn
 have hb1 : 8 ≤ b := by omega
 have hb2 : b ≤ 16 := by omega
 clear hb
 go_enter Tryz.func81, Tryz.ntmps81
 go_wp2_with fail
 refine (znP s _ hs).mono ?_
 rw [HR.out]
 rintro e w' ⟨rfl, rfl⟩
 simp only [z3A]
 go_wp2
 go_loopw [6] (fun n wr => ∃ (k : Nat) (A : Int), n = .int .u64 A ∧ 0 ≤ A ∧ A ≤ 1099511627776 ∧ k ≤ d.size ∧ wr.heap[w.heap.size]? = some (.stringIter d k) ∧ Below w.heap.size w wr ∧ w.heap.size + 1 ≤ wr.heap.size ∧ Hid (A = numZ b (d.data.toList.take k)) ∧ Hid (zbQ b (d.data.toList.take k) = true)) (fun _ wr => d.size - wr.iterPos w.heap.size)
 case atStart => exact ⟨0, 0, rfl, by omega, by omega, Nat.zero_le _, World.iter_heap w d 0, (Below.refl _ w).alloc (Nat.le_refl _) _, by simp [World.iter], rfl, rfl⟩
 case round =>
  obtain ⟨k, A, rfl, hA0, hA1, hk, hit, hbw, hsz, HA, HDG⟩ := hrel
  by_cases hp : k < d.size
  ·obtain ⟨c, hc⟩ : ∃ c, (d[k]'hp).toNat = c := ⟨_, rfl⟩
   have hnx : ∀ ty, (Instr.next (.pointer (some ⟨w.heap.size, 0, none⟩)) true ty).run Tryz.prog wr = _ := fun ty => Lib.run_next_any_at wr w.heap.size d k ty hit hp
   by_cases hc128 : c < 128
   ·have hdec := decode_ascii d k hp (by omega)
    rw [hc] at hdec
    rw [hdec] at hnx
    have hit2 := Lib.iterAt_heap wr w.heap.size d k (k + 1) hit
    have hbw2 := Lib.below_iterAt hbw (k := w.heap.size) (Nat.le_refl _) d (k + 1)
    have hsz2 : w.heap.size + 1 ≤ (wr.iterAt w.heap.size d (k + 1)).heap.size := by rw [Lib.iterAt_size]; exact hsz
    simp only at hnx
    generalize wr.iterAt w.heap.size d (k + 1) = wi at *
    obtain ⟨v, hv⟩ : ∃ v, valZ (c : Int) = v := ⟨_, rfl⟩
    have hv16 : v < 16 := by rw [← hv]; exact zpW _
    have HV : Hid (valZ (d[k].toNat : Int) = v) := by show valZ (d[k].toNat : Int) = v; rw [hc]; exact hv
    have HIT := Lib.hid hit
    have HC := Lib.hid hc
    clear hit hc hdec
    by_cases h0 : v < 0
    ·have HF := Lib.hid (HNO.out (zdR b d k hp (zdW HV.out (.inl h0))))
     go_wp2_with (go_at_call 109; refine (zcX _ _).mono ?_; rintro e w' ⟨rfl, rfl⟩)
     go_ret2
     exact zcR HF.out hbw2
    ·by_cases h1 : b ≤ v
     ·have HF := Lib.hid (HNO.out (zdR b d k hp (zdW HV.out (.inr h1))))
      go_wp2_with (go_at_call 109; refine (zcX _ _).mono ?_; rintro e w' ⟨rfl, rfl⟩)
      go_ret2
      exact zcR HF.out hbw2
     ·have HF := Lib.hid (zhN b d k hp HDG.out (zjM HV.out (by omega) (by omega)))
      have hsn := zsF b d k hp
      rw [← HA.out, zwU _ _ _ v HV.out] at hsn
      have HSN := Lib.hid hsn
      clear hsn
      have hP0 : 0 ≤ A * b := Int.mul_nonneg hA0 (by omega)
      have hP1 : A * b ≤ 1099511627776 * 16 := Int.mul_le_mul hA1 hb2 (by omega) (by omega)
      by_cases ht : 1099511627776 < A * b + v
      ·have HC2 := Lib.hid (HSN.out.trans (z0W ht))
       go_wp2_with (go_at_call 109; refine (zcX _ _).mono ?_; rintro e w' ⟨rfl, rfl⟩)
       go_roundw
       case rel => exact ⟨k + 1, 1099511627776, rfl, by omega, by omega, by omega, hit2, hbw2, hsz2, HC2.out.symm, HF⟩
       case measure =>
        simp only [World.iterPos, hit2, HIT.out]
        omega
      ·have HC2 := Lib.hid (HSN.out.trans (z1I ht))
       go_wp2_with (go_at_call 109; refine (zcX _ _).mono ?_; rintro e w' ⟨rfl, rfl⟩)
       go_roundw
       case rel => exact ⟨k + 1, _, rfl, by omega, by omega, by omega, hit2, hbw2, hsz2, HC2.out.symm, HF⟩
       case measure =>
        simp only [World.iterPos, hit2, HIT.out]
        omega
   ·have hh := decode_high d k hp (by omega)
    obtain ⟨r, hr⟩ : ∃ r, (Utf8.decode d k).1 = r := ⟨_, rfl⟩
    obtain ⟨wd, hwd⟩ : ∃ r, (Utf8.decode d k).2 = r := ⟨_, rfl⟩
    have hrl := decode_le d k
    rw [hr, hwd] at hnx
    rw [hr, hwd] at hh
    rw [hr] at hrl
    have hbw2 := Lib.below_iterAt hbw (k := w.heap.size) (Nat.le_refl _) d (k + wd)
    generalize wr.iterAt w.heap.size d (k + wd) = wi at *
    have hv : valZ (r : Int) = -1 := zjC _ (by omega)
    have HF := Lib.hid (HNO.out (zdR b d k hp (zdW (zjC _ (by omega)) (.inl (by omega)))))
    clear hc hr hwd
    go_wp2_with (go_at_call 109; refine (zcX _ _).mono ?_; rintro e w' ⟨rfl, rfl⟩)
    go_ret2
    exact zcR HF.out hbw2
  ·have hnx : ∀ ty, (Instr.next (.pointer (some ⟨w.heap.size, 0, none⟩)) true ty).run Tryz.prog wr = _ := fun ty => Lib.run_next_end_at wr w.heap.size d k ty hit hp
   have hdt := HDG.out
   rw [zcW d k hp] at hdt
   have hat := HA.out
   rw [zcW d k hp] at hat
   have HF := Lib.hid (HYES.out hdt)
   have HAT := Lib.hid hat
   clear hdt hat
   go_wp2
   go_ret2
   exact zcR (by rw [HF.out, HAT.out]) hbw
theorem zaP (s : ByteArray) (w : World) (hs : s.size ≤ 1073741824) :
  Calls Tryz.prog 81 #[.string s] w (zxE w (zaX s.data.toList)) := by
 by_cases hn : s.size = 0
 ·obtain rfl := zcT s hn
  clear hn hs
  have HF : Hid (zaX (ByteArray.mk #[]).data.toList = (0, false)) := rfl
  go_enter Tryz.func81, Tryz.ntmps81
  go_wp2
  go_ret2
  exact zcR HF.out (Below.refl _ _)
 ·obtain ⟨⟨r, b⟩, hr⟩ : ∃ x, zgA s.data.toList = x := ⟨_, rfl⟩
  have hb := zpB s.data.toList
  rw [hr] at hb
  exact zzT s ⟨r.toArray⟩ b w hs hn hb (by rw [zaC]; exact hr)
/-- the reference's: each of its ways -/
theorem ziQ (s : ByteArray) (a : Nat) (d : ByteArray) (h : s.extract a s.size = d) : s.data.toList.drop a = d.data.toList := by
 rw [← h, zhM]
theorem zkY (s : ByteArray) (a : Nat) (d : ByteArray) (h : s.extract a s.size = d) : d.size ≤ s.size := by
 rw [← h]; simp [ByteArray.size_extract]
theorem zaI (s : ByteArray) (w : World) (hs : s.size ≤ 1073741824) :
  Calls Tryz.prog 86 #[.string s] w (zxE w (zaX s.data.toList)) := by
 by_cases hn : s.size = 0
 ·obtain rfl := zcT s hn
  clear hn hs
  have HF : Hid (zaX (ByteArray.mk #[]).data.toList = (0, false)) := rfl
  go_enter Tryz.func86, Tryz.ntmps86
  go_wp2
  go_ret2
  exact zcR HF.out (Below.refl _ _)
 ·have hn1 : 1 ≤ s.size := by omega
  have hnb : ((s.size : Int) == 0) = false := beq_eq_false_iff_ne.2 (by omega)
  by_cases h2 : s.size < 2
  ·have HR := Lib.hid (zmY s h2)
   by_cases hdg : zbQ 10 s.data.toList = true
   ·have HF := Lib.hid (zgK s.data.toList _ 10 HR.out (zcY s hn) hdg)
    have HDG := Lib.hid hdg
    clear hdg hn
    go_enter Tryz.func86, Tryz.ntmps86
    go_wp2_with fail
    refine (zbP s 10 _ (by omega)).mono ?_
    rw [HDG.out]
    rintro e w' ⟨rfl, rfl⟩
    go_wp2_with fail
    refine (zeL s 10 _ (by omega) (by omega) HDG.out).mono ?_
    rintro e w' ⟨rfl, rfl⟩
    go_wp2
    go_ret2
    exact zcR HF.out (Below.refl _ _)
   ·have hdf : zbQ 10 s.data.toList = false := by simpa using hdg
    have HF := Lib.hid (zhF s.data.toList _ 10 HR.out hdf)
    have HDG := Lib.hid hdf
    clear hdg hdf hn
    go_enter Tryz.func86, Tryz.ntmps86
    go_wp2_with fail
    refine (zbP s 10 _ (by omega)).mono ?_
    rw [HDG.out]
    rintro e w' ⟨rfl, rfl⟩
    go_wp2
    go_ret2
    exact zcR HF.out (Below.refl _ _)
  ·have h2' : 2 ≤ s.size := by omega
   have l0 : 0 < s.size := by omega
   have l1 : 1 < s.size := by omega
   obtain ⟨a, ha⟩ : ∃ a, s[0].toNat = a := ⟨_, rfl⟩
   obtain ⟨c, hc⟩ : ∃ a, s[1].toNat = a := ⟨_, rfl⟩
   by_cases h48 : a = 48
   ·subst h48
    by_cases hx : c = 120 ∨ c = 88
    ·have HR0 := ztC s h2' ha (by rw [hc]; exact hx)
     obtain ⟨d, hd⟩ : ∃ d, s.extract 2 s.size = d := ⟨_, rfl⟩
     have hdz := zkY s 2 d hd
     rw [ziQ s 2 d hd] at HR0
     have HR := Lib.hid HR0
     clear HR0
     rcases hx with rfl | rfl
     all_goals
      by_cases hdg : zbQ 16 d.data.toList = true
      ·have HF := Lib.hid (zgK s.data.toList _ 16 HR.out (zcY s hn) hdg)
       have HDG := Lib.hid hdg
       clear hdg hn
       go_enter Tryz.func86, Tryz.ntmps86
       go_wp2_with fail
       go_quiet (fail)
       go_wp2_with fail
       go_quiet (fail)
       go_wp2_with fail
       refine (zbP d 16 _ (by omega)).mono ?_
       rw [HDG.out]
       rintro e w' ⟨rfl, rfl⟩
       go_wp2_with fail
       refine (zeL d 16 _ (by omega) (by omega) HDG.out).mono ?_
       rintro e w' ⟨rfl, rfl⟩
       go_wp2
       go_ret2
       exact zcR HF.out (by first | exact zbE (Below.refl _ _) _ | exact zbE (zbE (Below.refl _ _) _) _)
      ·have hdf : zbQ 16 d.data.toList = false := by simpa using hdg
       have HF := Lib.hid (zhF s.data.toList _ 16 HR.out hdf)
       have HDG := Lib.hid hdf
       clear hdg hdf hn
       go_enter Tryz.func86, Tryz.ntmps86
       go_wp2_with fail
       go_quiet (fail)
       go_wp2_with fail
       go_quiet (fail)
       go_wp2_with fail
       refine (zbP d 16 _ (by omega)).mono ?_
       rw [HDG.out]
       rintro e w' ⟨rfl, rfl⟩
       go_wp2
       go_ret2
       exact zcR HF.out (by first | exact zbE (Below.refl _ _) _ | exact zbE (zbE (Below.refl _ _) _) _)
    ·have HR0 := zsZ s h2' ha (by rw [hc]; exact hx)
     obtain ⟨d, hd⟩ : ∃ d, s.extract 1 s.size = d := ⟨_, rfl⟩
     have hdz := zkY s 1 d hd
     rw [ziQ s 1 d hd] at HR0
     have HR := Lib.hid HR0
     have b1 : ((c : Int) == 120) = false := beq_eq_false_iff_ne.2 (by omega)
     have b2 : ((c : Int) == 88) = false := beq_eq_false_iff_ne.2 (by omega)
     clear hx HR0
     by_cases hdg : zbQ 8 d.data.toList = true
     ·have HF := Lib.hid (zgK s.data.toList _ 8 HR.out (zcY s hn) hdg)
      have HDG := Lib.hid hdg
      clear hdg hn
      go_enter Tryz.func86, Tryz.ntmps86
      go_wp2_with fail
      go_quiet (fail)
      go_wp2_with fail
      refine (zbP d 8 _ (by omega)).mono ?_
      rw [HDG.out]
      rintro e w' ⟨rfl, rfl⟩
      go_wp2_with fail
      refine (zeL d 8 _ (by omega) (by omega) HDG.out).mono ?_
      rintro e w' ⟨rfl, rfl⟩
      go_wp2
      go_ret2
      exact zcR HF.out (by first | exact zbE (Below.refl _ _) _ | exact zbE (zbE (Below.refl _ _) _) _)
     ·have hdf : zbQ 8 d.data.toList = false := by simpa using hdg
      have HF := Lib.hid (zhF s.data.toList _ 8 HR.out hdf)
      have HDG := Lib.hid hdf
      clear hdg hdf hn
      go_enter Tryz.func86, Tryz.ntmps86
      go_wp2_with fail
      go_quiet (fail)
      go_wp2_with fail
      refine (zbP d 8 _ (by omega)).mono ?_
      rw [HDG.out]
      rintro e w' ⟨rfl, rfl⟩
      go_wp2
      go_ret2
      exact zcR HF.out (by first | exact zbE (Below.refl _ _) _ | exact zbE (zbE (Below.refl _ _) _) _)
   ·have HR := Lib.hid (ztU s h2' (by rw [ha]; exact h48))
    have b1 : ((a : Int) == 48) = false := beq_eq_false_iff_ne.2 (by omega)
    by_cases hdg : zbQ 10 s.data.toList = true
    ·have HF := Lib.hid (zgK s.data.toList _ 10 HR.out (zcY s hn) hdg)
     have HDG := Lib.hid hdg
     clear hdg hn
     go_enter Tryz.func86, Tryz.ntmps86
     go_wp2_with fail
     refine (zbP s 10 _ (by omega)).mono ?_
     rw [HDG.out]
     rintro e w' ⟨rfl, rfl⟩
     go_wp2_with fail
     refine (zeL s 10 _ (by omega) (by omega) HDG.out).mono ?_
     rintro e w' ⟨rfl, rfl⟩
     go_wp2
     go_ret2
     exact zcR HF.out (Below.refl _ _)
    ·have hdf : zbQ 10 s.data.toList = false := by simpa using hdg
     have HF := Lib.hid (zhF s.data.toList _ 10 HR.out hdf)
     have HDG := Lib.hid hdf
     clear hdg hdf hn
     go_enter Tryz.func86, Tryz.ntmps86
     go_wp2_with fail
     refine (zbP s 10 _ (by omega)).mono ?_
     rw [HDG.out]
     rintro e w' ⟨rfl, rfl⟩
     go_wp2
     go_ret2
     exact zcR HF.out (Below.refl _ _)
end
section
open Go.RowKit
def decN (l : List UInt8) : Int := l.foldl (fun n c => n * 10 + valZ (c.toNat : Int)) 0
def decZ (l : List UInt8) (m : Int) : Int × Bool :=
 if (l.isEmpty || (decide (1 < l.length) && decide ((l.getD 0 0).toNat = 48)) || !zbQ 10 l) = true then (0, false) else if m < decN l then (0, false) else (decN l, true)
theorem ztR (s : ByteArray) (k : Nat) (h : k < s.size) : decN (s.data.toList.take (k + 1)) = decN (s.data.toList.take k) * 10 + valZ (s[k].toNat : Int) := by
 rw [zeJ s k h]; simp [decN]
theorem ztJ (l : List UInt8) : ∀ a : Int, 0 ≤ a → zbQ 10 l = true → a ≤ l.foldl (fun n c => n * 10 + valZ (c.toNat : Int)) a := by
 induction l with
 | nil => intro a _ _; exact Int.le_refl _
 | cons c l ih =>
  intro a ha hd
  have h1 : digC 10 c = true ∧ zbQ 10 l = true := by simpa [zbQ] using hd
  have h2 := of_decide_eq_true h1.1
  have := ih (a * 10 + valZ (c.toNat : Int)) (by omega) h1.2
  exact Int.le_trans (by omega) this
theorem znS (l : List UInt8) (hd : zbQ 10 l = true) : 0 ≤ decN l := ztJ l 0 (Int.le_refl _) hd
theorem zzP (b : Int) (l : List UInt8) (k : Nat) : zbQ b l = (zbQ b (l.take k) && zbQ b (l.drop k)) := by
 unfold zbQ
 rw [← List.all_append, List.take_append_drop]
theorem zkR (l : List UInt8) (k : Nat) (hd : zbQ 10 l = true) : decN (l.take k) ≤ decN l := by
 have h := zzP 10 l k
 rw [hd] at h
 have h2 : zbQ 10 (l.take k) = true ∧ zbQ 10 (l.drop k) = true := by simpa using h.symm
 have e : decN l = (l.drop k).foldl (fun n c => n * 10 + valZ (c.toNat : Int)) (decN (l.take k)) := by
  unfold decN
  rw [← List.foldl_append, List.take_append_drop]
 rw [e]
 exact ztJ _ _ (znS _ h2.1) h2.2
theorem ziT (l : List UInt8) (m : Int) (h : l = [] ∨ (1 < l.length ∧ (l.getD 0 0).toNat = 48)) : decZ l m = (0, false) := by
 unfold decZ
 rw [if_pos]
 rcases h with rfl | ⟨h1, h2⟩
 ·rfl
 ·rw [decide_eq_true h1, decide_eq_true h2]; simp
theorem zqT (l : List UInt8) (m : Int) (h : zbQ 10 l = false) : decZ l m = (0, false) := by
 unfold decZ
 rw [if_pos (by rw [h]; simp)]
theorem zxQ (l : List UInt8) (m : Int) (k : Nat) (h : m < decN (l.take k)) : decZ l m = (0, false) := by
 by_cases hd : zbQ 10 l = true
 ·unfold decZ
  split
  ·rfl
  ·rw [if_pos]
   have := zkR l k hd
   omega
 ·exact zqT l m (by simpa using hd)
theorem zxD (l : List UInt8) (m : Int) (h0 : l ≠ []) (h1 : ¬ (1 < l.length ∧ (l.getD 0 0).toNat = 48)) (hd : zbQ 10 l = true) (hm : decN l ≤ m) : decZ l m = (decN l, true) := by
 unfold decZ
 rw [if_neg, if_neg (by omega)]
 rw [hd]
 cases l with
 | nil => exact absurd rfl h0
 | cons a r =>
  by_cases e1 : 1 < (a :: r).length
  ·rw [decide_eq_true e1, decide_eq_false (fun e => h1 ⟨e1, e⟩)]; simp
  ·rw [decide_eq_false e1]; simp
theorem zjJ (s : ByteArray) (h : 0 < s.size) : (s.data.toList.getD 0 0).toNat = s[0].toNat := by
 rw [List.getD, zeM s 0 h]; rfl
theorem zpD (r : Int) : zeB r = decide (0 ≤ valZ r ∧ valZ r < 10) := by
 unfold zeB valZ
 by_cases h : 48 ≤ r ∧ r ≤ 57
 ·rw [if_pos h, decide_eq_true h, decide_eq_true (by omega)]
 ·rw [if_neg h, decide_eq_false h]
  refine (decide_eq_false ?_).symm
  repeat' split
  all_goals omega
theorem ziF (c : UInt8) : digC 10 c = zeB (c.toNat : Int) := (zpD _).symm
theorem zmA {r : Int} (h : zeB r = true) : 48 ≤ r ∧ r ≤ 57 := of_decide_eq_true h
theorem zjS {r : Int} (h1 : 48 ≤ r) (h2 : r ≤ 57) : valZ r = r - 48 := if_pos ⟨h1, h2⟩
theorem zgO (r : Int) (h : 128 ≤ r) : zeB r = false := decide_eq_false (by omega)
def ztO (w : World) (x : Int × Bool) (e : Ending) (w' : World) : Prop := e = .returned (.tuple #[.int .i64 x.1, .bool x.2]) ∧ Below w.heap.size w w'
theorem zcZ {w w' : World} {x : Int × Bool} {n : Int} {b : Bool} (h : x = (n, b)) (hb : Below w.heap.size w w') : ztO w x (.returned (.tuple #[.int .i64 n, .bool b])) w' := by
 subst h; exact ⟨rfl, hb⟩
theorem zsC (s : ByteArray) (m : Int) (w : World) (hs : s.size ≤ 1073741824) (hm : m ≤ 9223372036854775807) (hm0 : -9223372036854775808 ≤ m) (hn : 1 ≤ s.size) (hz : ¬ (1 < s.size ∧ s[0].toNat = 48)) :
  Calls Tryz.prog 164 #[.string s, .int .i64 m] w (ztO w (decZ s.data.toList m)) := by
 have HNO := Lib.hid (zqT s.data.toList m)
 have HBIG := Lib.hid (zxQ s.data.toList m)
 have HYES := Lib.hid (zxD s.data.toList m (zcY s (by omega)) (by rw [zaF, zjJ s (by omega)]; exact hz))
 have hse := zdT s (by omega)
 have l0 : 0 < s.size := by omega
 obtain ⟨a, ha⟩ : ∃ a, s[0].toNat = a := ⟨_, rfl⟩
 rw [ha] at hz
 rcases (show s.size ≤ 1 ∨ (1 < s.size ∧ ((a : Int) == 48) = false) from by
   by_cases h1 : 1 < s.size
   ·exact .inr ⟨h1, beq_eq_false_iff_ne.2 (fun e => hz ⟨h1, by omega⟩)⟩
   ·exact .inl (by omega)) with h1 | ⟨h1, hb1⟩
 all_goals
  clear hz
  go_enter Tryz.func164, Tryz.ntmps164
  go_wp2
  go_loopw [6] (fun n wr => ∃ (k : Nat) (A : Int), n = .int .i64 A ∧ 0 ≤ A ∧ (A = 0 ∨ A ≤ m) ∧ k ≤ s.size ∧ wr.heap[w.heap.size]? = some (.stringIter s k) ∧ Below w.heap.size w wr ∧ w.heap.size + 1 ≤ wr.heap.size ∧ Hid (A = decN (s.data.toList.take k)) ∧ Hid (zbQ 10 (s.data.toList.take k) = true) ∧ Hid (1 ≤ k → A ≤ m)) (fun _ wr => s.size - wr.iterPos w.heap.size)
  case atStart => exact ⟨0, 0, rfl, by omega, .inl rfl, Nat.zero_le _, World.iter_heap w s 0, (Below.refl _ w).alloc (Nat.le_refl _) _, by simp [World.iter], rfl, rfl, fun h => absurd h (by omega)⟩
  case round =>
   obtain ⟨k, A, rfl, hA0, hA1, hk, hit, hbw, hsz, HA, HDG, HK⟩ := hrel
   have hA2 : A ≤ 9223372036854775807 := by omega
   clear hA1
   by_cases hp : k < s.size
   ·obtain ⟨c, hc⟩ : ∃ c, (s[k]'hp).toNat = c := ⟨_, rfl⟩
    have hnx : ∀ ty, (Instr.next (.pointer (some ⟨w.heap.size, 0, none⟩)) true ty).run Tryz.prog wr = _ := fun ty => Lib.run_next_any_at wr w.heap.size s k ty hit hp
    by_cases hc128 : c < 128
    ·have hdec := decode_ascii s k hp (by omega)
     rw [hc] at hdec
     rw [hdec] at hnx
     have hit2 := Lib.iterAt_heap wr w.heap.size s k (k + 1) hit
     have hbw2 := Lib.below_iterAt hbw (k := w.heap.size) (Nat.le_refl _) s (k + 1)
     have hsz2 : w.heap.size + 1 ≤ (wr.iterAt w.heap.size s (k + 1)).heap.size := by rw [Lib.iterAt_size]; exact hsz
     simp only at hnx
     generalize wr.iterAt w.heap.size s (k + 1) = wi at *
     have HIT := Lib.hid hit
     have HC := Lib.hid hc
     clear hit hc hdec
     cases hdg : zeB (c : Int) with
     | false =>
      have HF := Lib.hid (HNO.out (zdR 10 s k hp (by rw [ziF, HC.out]; exact hdg)))
      go_wp2_with (go_at_call 111; refine (zeP _ _).mono ?_; rintro e w' ⟨rfl, rfl⟩)
      go_ret2
      exact zcZ HF.out hbw2
     | true =>
      obtain ⟨hc1, hc2⟩ := zmA hdg
      have hv : valZ (c : Int) = (c : Int) - 48 := zjS hc1 hc2
      have HF := Lib.hid (zhN 10 s k hp HDG.out (by rw [ziF, HC.out]; exact hdg))
      have hsn := ztR s k hp
      rw [← HA.out, HC.out, hv] at hsn
      have HSN := Lib.hid hsn
      clear hsn
      obtain ⟨v, hvv⟩ : ∃ v : Int, (c : Int) - 48 = v := ⟨_, rfl⟩
      have hv0 : 0 ≤ v := by omega
      have hv9 : v ≤ 9 := by omega
      rw [hvv] at hv
      have HVV := Lib.hid hvv
      clear hvv
      by_cases hg : m < A * 10 + v
      ·have HB := Lib.hid (HBIG.out (k + 1) (by rw [HSN.out, HVV.out]; exact hg))
       by_cases hg1 : m < v
       ·go_wp2_with (first | (go_at_call 111; refine (zeP _ _).mono ?_; rintro e w' ⟨rfl, rfl⟩) | (go_at_call 109; refine (zcX _ _).mono ?_; rintro e w' ⟨rfl, rfl⟩))
        go_ret2
        exact zcZ HB.out hbw2
       ·have hg2 : (m - v) / 10 < A := by omega
        go_wp2_with (first | (go_at_call 111; refine (zeP _ _).mono ?_; rintro e w' ⟨rfl, rfl⟩) | (go_at_call 109; refine (zcX _ _).mono ?_; rintro e w' ⟨rfl, rfl⟩))
        go_ret2
        exact zcZ HB.out hbw2
      ·have hg1 : ¬ m < v := by omega
       have hg2 : ¬ (m - v) / 10 < A := by omega
       go_wp2_with (first | (go_at_call 111; refine (zeP _ _).mono ?_; rintro e w' ⟨rfl, rfl⟩) | (go_at_call 109; refine (zcX _ _).mono ?_; rintro e w' ⟨rfl, rfl⟩))
       go_roundw
       case rel => exact ⟨k + 1, A * 10 + v, rfl, by omega, by omega, by omega, hit2, hbw2, hsz2, (by show _ = _; rw [HSN.out, HVV.out]), HF, fun _ => by omega⟩
       case measure =>
        simp only [World.iterPos, hit2, HIT.out]
        omega
    ·have hh := decode_high s k hp (by omega)
     obtain ⟨r, hr⟩ : ∃ r, (Utf8.decode s k).1 = r := ⟨_, rfl⟩
     obtain ⟨wd, hwd⟩ : ∃ r, (Utf8.decode s k).2 = r := ⟨_, rfl⟩
     have hrl := decode_le s k
     rw [hr, hwd] at hnx
     rw [hr, hwd] at hh
     rw [hr] at hrl
     have hbw2 := Lib.below_iterAt hbw (k := w.heap.size) (Nat.le_refl _) s (k + wd)
     generalize wr.iterAt w.heap.size s (k + wd) = wi at *
     have hv : zeB (r : Int) = false := zgO _ (by omega)
     have HF := Lib.hid (HNO.out (zdR 10 s k hp (by rw [ziF]; exact zgO _ (by omega))))
     clear hc hr hwd
     go_wp2_with (go_at_call 111; refine (zeP _ _).mono ?_; rintro e w' ⟨rfl, rfl⟩)
     go_ret2
     exact zcZ HF.out hbw2
   ·have hnx : ∀ ty, (Instr.next (.pointer (some ⟨w.heap.size, 0, none⟩)) true ty).run Tryz.prog wr = _ := fun ty => Lib.run_next_end_at wr w.heap.size s k ty hit hp
    have hdt := HDG.out
    rw [zcW s k hp] at hdt
    have hat := HA.out
    rw [zcW s k hp] at hat
    have HF := Lib.hid (HYES.out hdt (by rw [← hat]; exact HK.out (by omega)))
    have HAT := Lib.hid hat
    clear hdt hat
    go_wp2
    go_ret2
    exact zcZ (by rw [HF.out, HAT.out]) hbw
theorem zcU (s : ByteArray) (m : Int) (w : World) (hs : s.size ≤ 1073741824) (hm : m ≤ 9223372036854775807) (hm0 : -9223372036854775808 ≤ m) :
  Calls Tryz.prog 164 #[.string s, .int .i64 m] w (ztO w (decZ s.data.toList m)) := by
 by_cases hn : s.size = 0
 ·obtain rfl := zcT s hn
  have HF := Lib.hid (ziT (ByteArray.mk #[]).data.toList m (.inl rfl))
  clear hn hs
  go_enter Tryz.func164, Tryz.ntmps164
  go_wp2
  go_ret2
  exact zcZ HF.out (Below.refl _ _)
 ·by_cases hz : 1 < s.size ∧ s[0].toNat = 48
  ·obtain ⟨h1, h0⟩ := hz
   have HF := Lib.hid (ziT s.data.toList m (.inr ⟨by rw [zaF]; exact h1, by rw [zjJ s (by omega)]; exact h0⟩))
   have hse := zdT s hn
   have l0 : 0 < s.size := by omega
   go_enter Tryz.func164, Tryz.ntmps164
   go_wp2
   go_ret2
   exact zcZ HF.out (Below.refl _ _)
  ·exact zsC s m w hs hm hm0 (by omega) hz
end
section
open Go.RowKit
theorem zmH (s : ByteArray) (m : Int) (w : World) (hs : s.size ≤ 1073741824) (hm : m ≤ 9223372036854775807) (hm0 : -9223372036854775808 ≤ m) (hn : 1 ≤ s.size) (hz : ¬ (1 < s.size ∧ s[0].toNat = 48)) (hd : zbQ 10 s.data.toList = true) :
  Calls Tryz.prog 145 #[.string s, .int .i64 m] w (ztO w (decZ s.data.toList m)) := by
 have HBIG := Lib.hid (zxQ s.data.toList m)
 have HYES := Lib.hid (zxD s.data.toList m (zcY s (by omega)) (by rw [zaF, zjJ s (by omega)]; exact hz) hd)
 have HD := Lib.hid hd
 have l0 : 0 < s.size := by omega
 have hnb : ((s.size : Int) == 0) = false := beq_eq_false_iff_ne.2 (by omega)
 obtain ⟨a, ha⟩ : ∃ a, s[0].toNat = a := ⟨_, rfl⟩
 rw [ha] at hz
 rcases (show s.size ≤ 1 ∨ (1 < s.size ∧ ((a : Int) == 48) = false) from by
   by_cases h1 : 1 < s.size
   ·exact .inr ⟨h1, beq_eq_false_iff_ne.2 (fun e => hz ⟨h1, by omega⟩)⟩
   ·exact .inl (by omega)) with h1 | ⟨h1, hb1⟩
 all_goals
  clear hz hd
  go_enter Tryz.func145, Tryz.ntmps145
  go_wp2_with fail
  refine (zbP s 10 _ hs).mono ?_
  rw [HD.out]
  rintro e w' ⟨rfl, rfl⟩
  go_wp2
  go_loop [6, 7] (fun n i => ∃ (k : Nat) (A : Int), k ≤ s.size ∧ i = .int .i64 k ∧ n = .int .i64 A ∧ 0 ≤ A ∧ A ≤ 9223372036854775807 ∧ Hid (A = decN (s.data.toList.take k))) (fun _ i => s.size - (intOf i).toNat)
  case atStart => exact ⟨0, 0, Nat.zero_le _, rfl, rfl, by omega, by omega, rfl⟩
  case round =>
   obtain ⟨k, A, hk, rfl, rfl, hA0, hA1, HA⟩ := hrel
   by_cases hp : k < s.size
   ·obtain ⟨c, hc⟩ : ∃ c, (s[k]'hp).toNat = c := ⟨_, rfl⟩
    have hdk := z1A 10 s k hp HD.out
    have hdg : zeB (c : Int) = true := by rw [zpD, ← hc]; exact decide_eq_true hdk
    obtain ⟨hc1, hc2⟩ := zmA hdg
    have hv : valZ (c : Int) = (c : Int) - 48 := zjS hc1 hc2
    have hsn := ztR s k hp
    rw [← HA.out, hc, hv] at hsn
    have HSN := Lib.hid hsn
    clear hsn hdk hdg hv
    by_cases hg : (9223372036854775807 - ((c : Int) - 48)) / 10 < A
    ·have HB := Lib.hid (HBIG.out (k + 1) (by rw [HSN.out]; omega))
     go_wp2
     go_ret2
     exact zcZ HB.out (Below.refl _ _)
    ·go_wp2
     go_round
     case rel => exact ⟨k + 1, 10 * A + ((c : Int) - 48), by omega, by go_num, rfl, by omega, by omega, (by show _ = _; rw [HSN.out]; omega)⟩
     case measure => simp [intOf]; omega
   ·have hat := HA.out
    rw [zcW s k hp] at hat
    by_cases hg : m < A
    ·have HB := Lib.hid (HBIG.out k (by rw [← HA.out]; exact hg))
     go_wp2
     go_ret2
     exact zcZ HB.out (Below.refl _ _)
    ·have HF := Lib.hid (HYES.out (by rw [← hat]; omega))
     have HAT := Lib.hid hat
     clear hat
     go_wp2
     go_ret2
     exact zcZ (by rw [HF.out, HAT.out]) (Below.refl _ _)
theorem ziC (s : ByteArray) (m : Int) (w : World) (hs : s.size ≤ 1073741824) (hm : m ≤ 9223372036854775807) (hm0 : -9223372036854775808 ≤ m) :
  Calls Tryz.prog 145 #[.string s, .int .i64 m] w (ztO w (decZ s.data.toList m)) := by
 by_cases hn : s.size = 0
 ·obtain rfl := zcT s hn
  have HF := Lib.hid (ziT (ByteArray.mk #[]).data.toList m (.inl rfl))
  clear hn hs
  go_enter Tryz.func145, Tryz.ntmps145
  go_wp2
  go_ret2
  exact zcZ HF.out (Below.refl _ _)
 ·have hnb : ((s.size : Int) == 0) = false := beq_eq_false_iff_ne.2 (by omega)
  cases hd : zbQ 10 s.data.toList with
  | false =>
   have HF := Lib.hid (zqT s.data.toList m hd)
   have HD := Lib.hid hd
   clear hd
   go_enter Tryz.func145, Tryz.ntmps145
   go_wp2_with fail
   refine (zbP s 10 _ hs).mono ?_
   rw [HD.out]
   rintro e w' ⟨rfl, rfl⟩
   go_wp2
   go_ret2
   exact zcZ HF.out (Below.refl _ _)
  | true =>
   by_cases hz : 1 < s.size ∧ s[0].toNat = 48
   ·obtain ⟨h1, h0⟩ := hz
    have HF := Lib.hid (ziT s.data.toList m (.inr ⟨by rw [zaF]; exact h1, by rw [zjJ s (by omega)]; exact h0⟩))
    have l0 : 0 < s.size := by omega
    have HD := Lib.hid hd
    clear hd
    go_enter Tryz.func145, Tryz.ntmps145
    go_wp2_with fail
    refine (zbP s 10 _ hs).mono ?_
    rw [HD.out]
    rintro e w' ⟨rfl, rfl⟩
    go_wp2
    go_ret2
    exact zcZ HF.out (Below.refl _ _)
   ·exact zmH s m w hs hm hm0 (by omega) hz hd
def zdK (l : List UInt8) : Bool := !l.isEmpty && zbQ 10 l
theorem z2M {l : List UInt8} (h : zbQ 10 l = false) : zdK l = false := by unfold zdK; rw [h]; simp
theorem z0C {s : ByteArray} (hn : s.size ≠ 0) (h : zbQ 10 s.data.toList = true) : zdK s.data.toList = true := by
 unfold zdK; rw [h]
 cases hd : s.data.toList with
 | nil => exact absurd hd (zcY s hn)
 | cons a l => rfl
def zeS (w : World) (b : Bool) (e : Ending) (w' : World) : Prop := e = .returned (.bool b) ∧ Below w.heap.size w w'
theorem zaY {w w' : World} {x b : Bool} (h : x = b) (hb : Below w.heap.size w w') : zeS w x (.returned (.bool b)) w' := by
 subst h; exact ⟨rfl, hb⟩
theorem zgG (s : ByteArray) (w : World) (hs : s.size ≤ 1073741824) :
  Calls Tryz.prog 80 #[.string s] w (zeS w (zdK s.data.toList)) := by
 by_cases hn : s.size = 0
 ·obtain rfl := zcT s hn
  have HF : Hid (zdK (ByteArray.mk #[]).data.toList = false) := rfl
  clear hn hs
  go_enter Tryz.func80, Tryz.ntmps80
  go_wp2
  go_loopw [] (fun wr => wr.heap[w.heap.size]? = some (.stringIter ⟨#[]⟩ 0) ∧ Below w.heap.size w wr) (fun _ => 0)
  case atStart => exact ⟨World.iter_heap w ⟨#[]⟩ 0, (Below.refl _ w).alloc (Nat.le_refl _) _⟩
  case round =>
   obtain ⟨hit, hbw⟩ := hrel
   have hnx : ∀ ty, (Instr.next (.pointer (some ⟨w.heap.size, 0, none⟩)) true ty).run Tryz.prog wr = _ := fun ty => Lib.run_next_end_at wr w.heap.size ⟨#[]⟩ 0 ty hit (by decide)
   go_wp2
   go_ret
   exact zaY HF.out hbw
 ·have HNO := Lib.hid (z2M (l := s.data.toList))
  have HYES := Lib.hid (z0C hn)
  have hse := zdT s hn
  clear hn
  go_enter Tryz.func80, Tryz.ntmps80
  go_wp2
  go_loopw [] (fun wr => ∃ (k : Nat), k ≤ s.size ∧ wr.heap[w.heap.size]? = some (.stringIter s k) ∧ Below w.heap.size w wr ∧ w.heap.size + 1 ≤ wr.heap.size ∧ Hid (zbQ 10 (s.data.toList.take k) = true)) (fun wr => s.size - wr.iterPos w.heap.size)
  case atStart => exact ⟨0, Nat.zero_le _, World.iter_heap w s 0, (Below.refl _ w).alloc (Nat.le_refl _) _, by simp [World.iter], rfl⟩
  case round =>
   obtain ⟨k, hk, hit, hbw, hsz, HDG⟩ := hrel
   by_cases hp : k < s.size
   ·obtain ⟨c, hc⟩ : ∃ c, (s[k]'hp).toNat = c := ⟨_, rfl⟩
    have hnx : ∀ ty, (Instr.next (.pointer (some ⟨w.heap.size, 0, none⟩)) true ty).run Tryz.prog wr = _ := fun ty => Lib.run_next_any_at wr w.heap.size s k ty hit hp
    by_cases hc128 : c < 128
    ·have hdec := decode_ascii s k hp (by omega)
     rw [hc] at hdec
     rw [hdec] at hnx
     have hit2 := Lib.iterAt_heap wr w.heap.size s k (k + 1) hit
     have hbw2 := Lib.below_iterAt hbw (k := w.heap.size) (Nat.le_refl _) s (k + 1)
     have hsz2 : w.heap.size + 1 ≤ (wr.iterAt w.heap.size s (k + 1)).heap.size := by rw [Lib.iterAt_size]; exact hsz
     simp only at hnx
     generalize wr.iterAt w.heap.size s (k + 1) = wi at *
     have HIT := Lib.hid hit
     have HC := Lib.hid hc
     clear hit hc hdec
     cases hdg : zeB (c : Int) with
     | false =>
      have HF := Lib.hid (HNO.out (zdR 10 s k hp (by rw [ziF, HC.out]; exact hdg)))
      go_wp2_with (go_at_call 111; refine (zeP _ _).mono ?_; rintro e w' ⟨rfl, rfl⟩)
      go_ret
      exact zaY HF.out hbw2
     | true =>
      have HF := Lib.hid (zhN 10 s k hp HDG.out (by rw [ziF, HC.out]; exact hdg))
      go_wp2_with (go_at_call 111; refine (zeP _ _).mono ?_; rintro e w' ⟨rfl, rfl⟩)
      go_roundw
      case rel => exact ⟨k + 1, by omega, hit2, hbw2, hsz2, HF⟩
      case measure =>
       simp only [World.iterPos, hit2, HIT.out]
       omega
    ·have hh := decode_high s k hp (by omega)
     obtain ⟨r, hr⟩ : ∃ r, (Utf8.decode s k).1 = r := ⟨_, rfl⟩
     obtain ⟨wd, hwd⟩ : ∃ r, (Utf8.decode s k).2 = r := ⟨_, rfl⟩
     have hrl := decode_le s k
     rw [hr, hwd] at hnx
     rw [hr, hwd] at hh
     rw [hr] at hrl
     have hbw2 := Lib.below_iterAt hbw (k := w.heap.size) (Nat.le_refl _) s (k + wd)
     generalize wr.iterAt w.heap.size s (k + wd) = wi at *
     have hv : zeB (r : Int) = false := zgO _ (by omega)
     have HF := Lib.hid (HNO.out (zdR 10 s k hp (by rw [ziF]; exact zgO _ (by omega))))
     clear hc hr hwd
     go_wp2_with (go_at_call 111; refine (zeP _ _).mono ?_; rintro e w' ⟨rfl, rfl⟩)
     go_ret
     exact zaY HF.out hbw2
   ·have hnx : ∀ ty, (Instr.next (.pointer (some ⟨w.heap.size, 0, none⟩)) true ty).run Tryz.prog wr = _ := fun ty => Lib.run_next_end_at wr w.heap.size s k ty hit hp
    have hdt := HDG.out
    rw [zcW s k hp] at hdt
    have HF := Lib.hid (HYES.out hdt)
    clear hdt
    go_wp2
    go_ret
    exact zaY HF.out hbw
end
section
open Go.RowKit
def ziR (ps : List (List UInt8)) : List UInt8 :=
 if 1 < ps.length ∧ ps.getD (ps.length - 1) [] = [] then ps.getD (ps.length - 2) [] else ps.getD (ps.length - 1) []
def zaE (l : List UInt8) : List (List UInt8) := splitB (hasB [46]) l
def ziN (x : List UInt8) : Bool := zdK x || (zaX x).2
def zeF (l : List UInt8) : Bool := ziN (ziR (zaE l))
theorem z5L (p : UInt8 → Bool) (l : List UInt8) : ∀ st : List (List UInt8) × List UInt8, (∀ x ∈ (l.foldl (zaZ p) st).1, x ∈ st.1 ∨ x.length ≤ st.2.length + l.length) ∧ (l.foldl (zaZ p) st).2.length ≤ st.2.length + l.length := by
 induction l with
 | nil => intro st; exact ⟨fun x hx => .inl hx, by simp⟩
 | cons c l ih =>
  intro st
  simp only [List.foldl_cons, List.length_cons]
  have h := ih (zaZ p st c)
  by_cases hp : p c = true
  ·have e : zaZ p st c = (st.1 ++ [st.2], []) := by simp [zaZ, hp]
   rw [e] at h ⊢
   refine ⟨fun x hx => ?_, by have := h.2; simp at this; omega⟩
   rcases h.1 x hx with h1 | h1
   ·simp at h1
    rcases h1 with h1 | h1
    ·exact .inl h1
    ·subst h1; exact .inr (by omega)
   ·simp at h1; exact .inr (by omega)
  ·have e : zaZ p st c = (st.1, st.2 ++ [c]) := by simp [zaZ, hp]
   rw [e] at h ⊢
   refine ⟨fun x hx => ?_, by have := h.2; simp at this; omega⟩
   rcases h.1 x hx with h1 | h1
   ·exact .inl h1
   ·simp at h1; exact .inr (by omega)
theorem z5Q (p : UInt8 → Bool) (l x : List UInt8) (h : x ∈ splitB p l) : x.length ≤ l.length := by
 have k := z5L p l ([], [])
 unfold splitB at h
 rcases List.mem_append.1 h with h | h
 ·rcases k.1 x h with h | h
  ·simp at h
  ·simpa using h
 ·simp at h
  subst h
  exact Nat.le_trans k.2 (by simp)
theorem zaW (p : UInt8 → Bool) (l : List UInt8) (j : Nat) : ((splitB p l).getD j []).length ≤ l.length := by
 by_cases h : j < (splitB p l).length
 ·refine z5Q p l _ ?_
  rw [List.getD, List.getElem?_eq_getElem h]
  exact List.getElem_mem h
 ·rw [List.getD, List.getElem?_eq_none (by omega)]
  simp
/-- what number.Ends reads of the parts -/
theorem ziS (n : Nat) (x : List UInt8) (ps : List (List UInt8)) (h : ps.length = n + 1) (hx : ps.getD n [] = x) (hc : n = 0 ∨ x ≠ []) : ziR ps = x := by
 unfold ziR
 rw [h, Nat.add_sub_cancel, hx, if_neg]
 rintro ⟨h1, h2⟩
 rcases hc with h3 | h3
 ·omega
 ·exact h3 h2
theorem zlU (n : Nat) (y : List UInt8) (ps : List (List UInt8)) (h : ps.length = n + 2) (hx : ps.getD (n + 1) [] = []) (hy : ps.getD n [] = y) : ziR ps = y := by
 unfold ziR
 rw [h, show n + 2 - 1 = n + 1 from rfl, hx, if_pos ⟨by omega, rfl⟩, show n + 2 - 2 = n from rfl, hy]
theorem zbY {x : List UInt8} (h : x ≠ []) : x.isEmpty = false := by cases x with | nil => exact absurd rfl h | cons a l => rfl
/-- the last part's ways: its digits alone, or a number -/
theorem ziL {x : List UInt8} (h : zdK x = true) : ziN x = true := by unfold ziN; rw [h]; rfl
theorem ziE {x : List UInt8} {b : Bool} (h : zdK x = false) (hb : (zaX x).2 = b) : ziN x = b := by unfold ziN; rw [h, hb]; rfl
end
section
open Go.RowKit
theorem z5X (s : ByteArray) (w : World) (hs : s.size ≤ 1073741824) (x : List UInt8) (hl : (zaE s.data.toList).length = 1) (hx : (zaE s.data.toList).getD 0 [] = x) :
  Calls Tryz.prog 55 #[.string s] w (zeS w (zeF s.data.toList)) := by
 have hxl : x.length ≤ s.size := by rw [← hx, ← zaF]; exact zaW _ _ _
 have HE0 := Lib.hid (show zeF s.data.toList = ziN x from by unfold zeF; rw [ziS 0 x _ hl hx (.inl rfl)])
 have HL := Lib.hid hl
 have HX := Lib.hid hx
 clear hl hx
 go_enter Tryz.func55, Tryz.ntmps55
 go_wp2_with fail
 refine (zdA s _ _ hs).mono ?_
 rintro e w1 ⟨v, rfl, hp, hb1⟩
 have hp' : zbV w.heap.size w1 v (zaE s.data.toList) := hp
 obtain ⟨g, cap, rfl, hg, hcell⟩ := hp'.form (by rw [HL.out]; omega)
 rw [HL.out]
 rw [HL.out] at hcell
 have hcx := hcell 0 (by omega)
 rw [HX.out] at hcx
 clear hcell hp hp'
 by_cases haz : zdK x = true
 -- digits alone
 ·have HE := Lib.hid (HE0.out.trans (ziL haz))
  have HAZ := Lib.hid haz
  clear haz
  go_wp2_with fail
  refine (zgG ⟨x.toArray⟩ _ (by rw [zaB]; omega)).mono ?_
  rw [zaC, HAZ.out]
  rintro e w2 ⟨rfl, hb2⟩
  have hc2 : Below w.heap.size w w2 := hb1.trans (hb2.mono hb1.size)
  clear hb1 hb2
  go_wp2
  go_ret
  exact zaY HE.out hc2
 ·have haf : zdK x = false := by simpa using haz
  have HE := Lib.hid (HE0.out.trans (ziE haf rfl))
  have HAZ := Lib.hid haf
  clear haz haf
  go_wp2_with fail
  refine (zgG ⟨x.toArray⟩ _ (by rw [zaB]; omega)).mono ?_
  rw [zaC, HAZ.out]
  rintro e w2 ⟨rfl, hb2⟩
  have hc2 : Below w.heap.size w w2 := hb1.trans (hb2.mono hb1.size)
  have hcx2 := (hb2.cell (p := ⟨g, 0, none⟩) hg).trans hcx
  clear hb1 hb2 hcx
  go_wp2_with fail
  refine (zaP ⟨x.toArray⟩ _ (by rw [zaB]; omega)).mono ?_
  rw [zaC]
  rintro e w3 ⟨rfl, hb3⟩
  have hc3 : Below w.heap.size w w3 := hc2.trans (hb3.mono hc2.size)
  clear hc2 hb3 hcx2
  go_wp2
  go_ret
  exact zaY HE.out hc3
theorem zyZ (s : ByteArray) (w : World) (hs : s.size ≤ 1073741824) (n : Nat) (x : List UInt8) (hl : (zaE s.data.toList).length = n + 2) (hx : (zaE s.data.toList).getD (n + 1) [] = x) (hne : x ≠ []) :
  Calls Tryz.prog 55 #[.string s] w (zeS w (zeF s.data.toList)) := by
 have hxl : x.length ≤ s.size := by rw [← hx, ← zaF]; exact zaW _ _ _
 have HE0 := Lib.hid (show zeF s.data.toList = ziN x from by unfold zeF; rw [ziS (n + 1) x _ hl hx (.inr hne)])
 have hxe : x.isEmpty = false := zbY hne
 have HL := Lib.hid hl
 have HX := Lib.hid hx
 clear hl hx hne
 have hnb : n ≤ 1073741824 := by
  have h1 := zcE (hasB [46]) s.data.toList
  rw [zaF] at h1
  have h2 := HL.out
  unfold zaE at h2
  omega
 go_enter Tryz.func55, Tryz.ntmps55
 go_wp2_with fail
 refine (zdA s _ _ hs).mono ?_
 rintro e w1 ⟨v, rfl, hp, hb1⟩
 have hp' : zbV w.heap.size w1 v (zaE s.data.toList) := hp
 obtain ⟨g, cap, rfl, hg, hcell⟩ := hp'.form (by rw [HL.out]; omega)
 rw [HL.out]
 rw [HL.out] at hcell
 have hcx := hcell (n + 1) (by omega)
 rw [HX.out] at hcx
 clear hcell hp hp'
 by_cases haz : zdK x = true
 -- digits alone
 ·have HE := Lib.hid (HE0.out.trans (ziL haz))
  have HAZ := Lib.hid haz
  clear haz
  go_wp2_with fail
  refine (zgG ⟨x.toArray⟩ _ (by rw [zaB]; omega)).mono ?_
  rw [zaC, HAZ.out]
  rintro e w2 ⟨rfl, hb2⟩
  have hc2 : Below w.heap.size w w2 := hb1.trans (hb2.mono hb1.size)
  clear hb1 hb2
  go_wp2
  go_ret
  exact zaY HE.out hc2
 ·have haf : zdK x = false := by simpa using haz
  have HE := Lib.hid (HE0.out.trans (ziE haf rfl))
  have HAZ := Lib.hid haf
  clear haz haf
  go_wp2_with fail
  refine (zgG ⟨x.toArray⟩ _ (by rw [zaB]; omega)).mono ?_
  rw [zaC, HAZ.out]
  rintro e w2 ⟨rfl, hb2⟩
  have hc2 : Below w.heap.size w w2 := hb1.trans (hb2.mono hb1.size)
  have hcx2 := (hb2.cell (p := ⟨g, (n + 1), none⟩) hg).trans hcx
  clear hb1 hb2 hcx
  go_wp2_with fail
  refine (zaP ⟨x.toArray⟩ _ (by rw [zaB]; omega)).mono ?_
  rw [zaC]
  rintro e w3 ⟨rfl, hb3⟩
  have hc3 : Below w.heap.size w w3 := hc2.trans (hb3.mono hc2.size)
  clear hc2 hb3 hcx2
  go_wp2
  go_ret
  exact zaY HE.out hc3
theorem zsY (s : ByteArray) (w : World) (hs : s.size ≤ 1073741824) (n : Nat) (x : List UInt8) (hl : (zaE s.data.toList).length = n + 2) (hx : (zaE s.data.toList).getD n [] = x) (hy : (zaE s.data.toList).getD (n + 1) [] = []) :
  Calls Tryz.prog 55 #[.string s] w (zeS w (zeF s.data.toList)) := by
 have hxl : x.length ≤ s.size := by rw [← hx, ← zaF]; exact zaW _ _ _
 have HE0 := Lib.hid (show zeF s.data.toList = ziN x from by unfold zeF; rw [zlU n x _ hl hy hx])
 have HL := Lib.hid hl
 have HX := Lib.hid hx
 have HY := Lib.hid hy
 clear hl hx hy
 have hnb : n ≤ 1073741824 := by
  have h1 := zcE (hasB [46]) s.data.toList
  rw [zaF] at h1
  have h2 := HL.out
  unfold zaE at h2
  omega
 go_enter Tryz.func55, Tryz.ntmps55
 go_wp2_with fail
 refine (zdA s _ _ hs).mono ?_
 rintro e w1 ⟨v, rfl, hp, hb1⟩
 have hp' : zbV w.heap.size w1 v (zaE s.data.toList) := hp
 obtain ⟨g, cap, rfl, hg, hcell⟩ := hp'.form (by rw [HL.out]; omega)
 rw [HL.out]
 rw [HL.out] at hcell
 have hcx := hcell n (by omega)
 rw [HX.out] at hcx
 have hcy := hcell (n + 1) (by omega)
 rw [HY.out] at hcy
 clear hcell hp hp'
 by_cases haz : zdK x = true
 -- digits alone
 ·have HE := Lib.hid (HE0.out.trans (ziL haz))
  have HAZ := Lib.hid haz
  clear haz
  go_wp2_with fail
  refine (zgG ⟨x.toArray⟩ _ (by rw [zaB]; omega)).mono ?_
  rw [zaC, HAZ.out]
  rintro e w2 ⟨rfl, hb2⟩
  have hc2 : Below w.heap.size w w2 := hb1.trans (hb2.mono hb1.size)
  clear hb1 hb2
  go_wp2
  go_ret
  exact zaY HE.out hc2
 ·have haf : zdK x = false := by simpa using haz
  have HE := Lib.hid (HE0.out.trans (ziE haf rfl))
  have HAZ := Lib.hid haf
  clear haz haf
  go_wp2_with fail
  refine (zgG ⟨x.toArray⟩ _ (by rw [zaB]; omega)).mono ?_
  rw [zaC, HAZ.out]
  rintro e w2 ⟨rfl, hb2⟩
  have hc2 : Below w.heap.size w w2 := hb1.trans (hb2.mono hb1.size)
  have hcx2 := (hb2.cell (p := ⟨g, n, none⟩) hg).trans hcx
  clear hb1 hb2 hcx
  go_wp2_with fail
  refine (zaP ⟨x.toArray⟩ _ (by rw [zaB]; omega)).mono ?_
  rw [zaC]
  rintro e w3 ⟨rfl, hb3⟩
  have hc3 : Below w.heap.size w w3 := hc2.trans (hb3.mono hc2.size)
  clear hc2 hb3 hcx2
  go_wp2
  go_ret
  exact zaY HE.out hc3
theorem zxG (s : ByteArray) (w : World) (hs : s.size ≤ 1073741824) :
  Calls Tryz.prog 55 #[.string s] w (zeS w (zeF s.data.toList)) := by
 have h0 : 0 < (zaE s.data.toList).length := zeQ _ _
 by_cases h1 : (zaE s.data.toList).length = 1
 ·exact z5X s w hs _ h1 rfl
 ·obtain ⟨n, hn⟩ : ∃ n, (zaE s.data.toList).length = n + 2 := ⟨(zaE s.data.toList).length - 2, by omega⟩
  by_cases he : (zaE s.data.toList).getD (n + 1) [] = []
  ·exact zsY s w hs n _ hn rfl he
  ·exact zyZ s w hs n _ hn rfl he
end
section
open Go.RowKit
theorem znA {x : List UInt8} {p : Int} (h : zaX x = (p, true)) : ziN x = true := by unfold ziN; rw [h]; simp
theorem zmF {x : List UInt8} {p : Int} (h : zaX x = (p, false)) : ziN x = zdK x := by unfold ziN; rw [h]; simp
theorem zwE (s : ByteArray) (w : World) (hs : s.size ≤ 1073741824) (x : List UInt8) (hl : (zaE s.data.toList).length = 1) (hx : (zaE s.data.toList).getD 0 [] = x) :
  Calls Tryz.prog 59 #[.string s] w (zeS w (zeF s.data.toList)) := by
 have hxl : x.length ≤ s.size := by rw [← hx, ← zaF]; exact zaW _ _ _
 have HE0 := Lib.hid (show zeF s.data.toList = ziN x from by unfold zeF; rw [ziS 0 x _ hl hx (.inl rfl)])
 have HL := Lib.hid hl
 have HX := Lib.hid hx
 clear hl hx
 go_enter Tryz.func59, Tryz.ntmps59
 go_wp2_with fail
 refine (zcA s _ _ hs (by decide)).mono ?_
 rintro e w1 ⟨v, rfl, hp, hb1⟩
 have hp' : zbV w.heap.size w1 v (zaE s.data.toList) := hp
 obtain ⟨g, cap, rfl, hg, hcell⟩ := hp'.form (by rw [HL.out]; omega)
 rw [HL.out]
 rw [HL.out] at hcell
 have hcx := hcell 0 (by omega)
 rw [HX.out] at hcx
 clear hcell hp hp'
 by_cases hxn : x = []
 ·subst hxn
  have HPZ : Hid (zaX [] = (0, false)) := rfl
  go_wp2_with fail
  refine (zaI ⟨#[]⟩ _ (by decide)).mono ?_
  rw [show zaX (ByteArray.mk #[]).data.toList = (0, false) from rfl]
  rintro e w2 ⟨rfl, hb2⟩
  have hc2 : Below w.heap.size w w2 := hb1.trans (hb2.mono hb1.size)
  clear hb1 hb2
  go_wp2
  go_ret
  exact zaY (HE0.out.trans rfl) hc2
 ·have hxe : x.isEmpty = false := zbY hxn
  obtain ⟨pz, b, hpz⟩ : ∃ p b, zaX x = (p, b) := ⟨_, _, rfl⟩
  have HPZ := Lib.hid hpz
  clear hpz
  cases b with
  | true =>
   have HE := Lib.hid (HE0.out.trans (znA HPZ.out))
   go_wp2_with fail
   refine (zaI ⟨x.toArray⟩ _ (by rw [zaB]; omega)).mono ?_
   rw [zaC, HPZ.out]
   rintro e w2 ⟨rfl, hb2⟩
   have hc2 : Below w.heap.size w w2 := hb1.trans (hb2.mono hb1.size)
   clear hb1 hb2
   go_wp2
   go_ret
   exact zaY HE.out hc2
  | false =>
   have HE := Lib.hid (HE0.out.trans (zmF HPZ.out))
   go_wp2_with fail
   refine (zaI ⟨x.toArray⟩ _ (by rw [zaB]; omega)).mono ?_
   rw [zaC, HPZ.out]
   rintro e w2 ⟨rfl, hb2⟩
   have hc2 : Below w.heap.size w w2 := hb1.trans (hb2.mono hb1.size)
   clear hb1 hb2
   ·skip
    have HA := Lib.hid (show zdK x = zbQ 10 x from by unfold zdK; rw [hxe]; rfl)
    go_wp2_with fail
    refine (zbP ⟨x.toArray⟩ 10 _ (by rw [zaB]; omega)).mono ?_
    rw [zaC]
    rintro e w' ⟨rfl, rfl⟩
    go_wp2
    go_ret
    exact zaY (HE.out.trans HA.out) hc2
theorem zpS (s : ByteArray) (w : World) (hs : s.size ≤ 1073741824) (n : Nat) (x : List UInt8) (hl : (zaE s.data.toList).length = n + 2) (hx : (zaE s.data.toList).getD (n + 1) [] = x) (hne : x ≠ []) :
  Calls Tryz.prog 59 #[.string s] w (zeS w (zeF s.data.toList)) := by
 have hxl : x.length ≤ s.size := by rw [← hx, ← zaF]; exact zaW _ _ _
 have HE0 := Lib.hid (show zeF s.data.toList = ziN x from by unfold zeF; rw [ziS (n + 1) x _ hl hx (.inr hne)])
 have hxe : x.isEmpty = false := zbY hne
 have HL := Lib.hid hl
 have HX := Lib.hid hx
 clear hl hx hne
 have hnb : n ≤ 1073741824 := by
  have h1 := zcE (hasB [46]) s.data.toList
  rw [zaF] at h1
  have h2 := HL.out
  unfold zaE at h2
  omega
 go_enter Tryz.func59, Tryz.ntmps59
 go_wp2_with fail
 refine (zcA s _ _ hs (by decide)).mono ?_
 rintro e w1 ⟨v, rfl, hp, hb1⟩
 have hp' : zbV w.heap.size w1 v (zaE s.data.toList) := hp
 obtain ⟨g, cap, rfl, hg, hcell⟩ := hp'.form (by rw [HL.out]; omega)
 rw [HL.out]
 rw [HL.out] at hcell
 have hcx := hcell (n + 1) (by omega)
 rw [HX.out] at hcx
 clear hcell hp hp'
 obtain ⟨pz, b, hpz⟩ : ∃ p b, zaX x = (p, b) := ⟨_, _, rfl⟩
 have HPZ := Lib.hid hpz
 clear hpz
 cases b with
 | true =>
  have HE := Lib.hid (HE0.out.trans (znA HPZ.out))
  go_wp2_with fail
  refine (zaI ⟨x.toArray⟩ _ (by rw [zaB]; omega)).mono ?_
  rw [zaC, HPZ.out]
  rintro e w2 ⟨rfl, hb2⟩
  have hc2 : Below w.heap.size w w2 := hb1.trans (hb2.mono hb1.size)
  clear hb1 hb2
  go_wp2
  go_ret
  exact zaY HE.out hc2
 | false =>
  have HE := Lib.hid (HE0.out.trans (zmF HPZ.out))
  go_wp2_with fail
  refine (zaI ⟨x.toArray⟩ _ (by rw [zaB]; omega)).mono ?_
  rw [zaC, HPZ.out]
  rintro e w2 ⟨rfl, hb2⟩
  have hc2 : Below w.heap.size w w2 := hb1.trans (hb2.mono hb1.size)
  clear hb1 hb2
  ·skip
   have HA := Lib.hid (show zdK x = zbQ 10 x from by unfold zdK; rw [hxe]; rfl)
   go_wp2_with fail
   refine (zbP ⟨x.toArray⟩ 10 _ (by rw [zaB]; omega)).mono ?_
   rw [zaC]
   rintro e w' ⟨rfl, rfl⟩
   go_wp2
   go_ret
   exact zaY (HE.out.trans HA.out) hc2
theorem zmR (s : ByteArray) (w : World) (hs : s.size ≤ 1073741824) (n : Nat) (x : List UInt8) (hl : (zaE s.data.toList).length = n + 2) (hx : (zaE s.data.toList).getD n [] = x) (hy : (zaE s.data.toList).getD (n + 1) [] = []) :
  Calls Tryz.prog 59 #[.string s] w (zeS w (zeF s.data.toList)) := by
 have hxl : x.length ≤ s.size := by rw [← hx, ← zaF]; exact zaW _ _ _
 have HE0 := Lib.hid (show zeF s.data.toList = ziN x from by unfold zeF; rw [zlU n x _ hl hy hx])
 have HL := Lib.hid hl
 have HX := Lib.hid hx
 have HY := Lib.hid hy
 clear hl hx hy
 have hnb : n ≤ 1073741824 := by
  have h1 := zcE (hasB [46]) s.data.toList
  rw [zaF] at h1
  have h2 := HL.out
  unfold zaE at h2
  omega
 go_enter Tryz.func59, Tryz.ntmps59
 go_wp2_with fail
 refine (zcA s _ _ hs (by decide)).mono ?_
 rintro e w1 ⟨v, rfl, hp, hb1⟩
 have hp' : zbV w.heap.size w1 v (zaE s.data.toList) := hp
 obtain ⟨g, cap, rfl, hg, hcell⟩ := hp'.form (by rw [HL.out]; omega)
 rw [HL.out]
 rw [HL.out] at hcell
 have hcx := hcell n (by omega)
 rw [HX.out] at hcx
 have hcy := hcell (n + 1) (by omega)
 rw [HY.out] at hcy
 clear hcell hp hp'
 obtain ⟨pz, b, hpz⟩ : ∃ p b, zaX x = (p, b) := ⟨_, _, rfl⟩
 have HPZ := Lib.hid hpz
 clear hpz
 cases b with
 | true =>
  have HE := Lib.hid (HE0.out.trans (znA HPZ.out))
  go_wp2_with fail
  refine (zaI ⟨x.toArray⟩ _ (by rw [zaB]; omega)).mono ?_
  rw [zaC, HPZ.out]
  rintro e w2 ⟨rfl, hb2⟩
  have hc2 : Below w.heap.size w w2 := hb1.trans (hb2.mono hb1.size)
  clear hb1 hb2
  go_wp2
  go_ret
  exact zaY HE.out hc2
 | false =>
  have HE := Lib.hid (HE0.out.trans (zmF HPZ.out))
  go_wp2_with fail
  refine (zaI ⟨x.toArray⟩ _ (by rw [zaB]; omega)).mono ?_
  rw [zaC, HPZ.out]
  rintro e w2 ⟨rfl, hb2⟩
  have hc2 : Below w.heap.size w w2 := hb1.trans (hb2.mono hb1.size)
  clear hb1 hb2
  by_cases hxn : x = []
  ·subst hxn
   go_wp2
   go_ret
   exact zaY (HE.out.trans rfl) hc2
  ·have hxe : x.isEmpty = false := zbY hxn
   have HA := Lib.hid (show zdK x = zbQ 10 x from by unfold zdK; rw [hxe]; rfl)
   go_wp2_with fail
   refine (zbP ⟨x.toArray⟩ 10 _ (by rw [zaB]; omega)).mono ?_
   rw [zaC]
   rintro e w' ⟨rfl, rfl⟩
   go_wp2
   go_ret
   exact zaY (HE.out.trans HA.out) hc2
theorem zwG (s : ByteArray) (w : World) (hs : s.size ≤ 1073741824) :
  Calls Tryz.prog 59 #[.string s] w (zeS w (zeF s.data.toList)) := by
 have h0 : 0 < (zaE s.data.toList).length := zeQ _ _
 by_cases h1 : (zaE s.data.toList).length = 1
 ·exact zwE s w hs _ h1 rfl
 ·obtain ⟨n, hn⟩ : ∃ n, (zaE s.data.toList).length = n + 2 := ⟨(zaE s.data.toList).length - 2, by omega⟩
  by_cases he : (zaE s.data.toList).getD (n + 1) [] = []
  ·exact zmR s w hs n _ hn rfl he
  ·exact zpS s w hs n _ hn rfl he
end
section
open Go.RowKit
theorem p3_a : zaX [48, 120, 55, 102] = (127, true) := by decide +kernel
theorem p3_b : zaX [48, 49, 55] = (15, true) := by decide +kernel
theorem p3_c : zaX [48, 56] = (0, false) := by decide +kernel
theorem p3_d : zeF [97, 46, 48, 120] = true := by decide +kernel
theorem z0L (w : World) :
  Calls Tryz.prog 209 #[] w fun e w' => e = .returned (.bool true) ∧ Below w.heap.size w w' := by
 go_enter Tryz.func209, Tryz.ntmps209
 go_wp2_with fail
 refine (zwD _).mono ?_
 rintro e w1 ⟨rfl, hb⟩
 go_wp2
 go_ret
 exact ⟨rfl, hb⟩
theorem zvN (w : World) :
  Calls Tryz.prog 208 #[] w fun e w' => e = .returned (.bool true) ∧ Below w.heap.size w w' := by
 go_enter Tryz.func208, Tryz.ntmps208
 go_wp2_with fail
 refine (zaP _ _ (by decide)).mono ?_
 rw [show zaX (ByteArray.mk #[48, 120, 55, 102]).data.toList = (127, true) from p3_a]
 rintro e w1 ⟨rfl, hb1⟩
 go_wp2_with fail
 refine (zaP _ _ (by decide)).mono ?_
 rw [show zaX (ByteArray.mk #[48, 49, 55]).data.toList = (15, true) from p3_b]
 rintro e w2 ⟨rfl, hb2⟩
 have hc2 : Below w.heap.size w w2 := hb1.trans (hb2.mono hb1.size)
 clear hb1 hb2
 go_wp2_with fail
 refine (zaP _ _ (by decide)).mono ?_
 rw [show zaX (ByteArray.mk #[48, 56]).data.toList = (0, false) from p3_c]
 rintro e w3 ⟨rfl, hb3⟩
 have hc3 : Below w.heap.size w w3 := hc2.trans (hb3.mono hc2.size)
 clear hc2 hb3
 go_wp2_with fail
 refine (z0L _).mono ?_
 rintro e w4 ⟨rfl, hb4⟩
 have hc4 : Below w.heap.size w w4 := hc3.trans (hb4.mono hc3.size)
 clear hc3 hb4
 go_wp2_with fail
 refine (zxG _ _ (by decide)).mono ?_
 rw [show zeF (ByteArray.mk #[97, 46, 48, 120]).data.toList = true from p3_d]
 rintro e w5 ⟨rfl, hb5⟩
 have hc5 : Below w.heap.size w w5 := hc4.trans (hb5.mono hc4.size)
 clear hc4 hb5
 go_wp2
 go_ret
 exact ⟨rfl, hc5⟩
theorem zzC (w : World) :
  Calls Tryz.prog 207 #[] w fun e w' => e = .returned (.bool true) ∧ Below w.heap.size w w' := by
 go_enter Tryz.func207, Tryz.ntmps207
 go_wp2_with fail
 refine (zvN _).mono ?_
 rintro e w1 ⟨rfl, hb⟩
 go_wp2
 go_ret
 exact ⟨rfl, hb⟩
end
section
open Go.RowKit
theorem zkF (p : UInt8 → Bool) (a b : List UInt8) : spl p (a ++ b) = b.foldl (zaZ p) (spl p a) := by
 unfold spl; rw [List.foldl_append]
theorem z5C (p : UInt8 → Bool) (l : List UInt8) : ∀ (xs : List (List UInt8)) (t : List UInt8), (∀ c ∈ l, p c = false) → l.foldl (zaZ p) (xs, t) = (xs, t ++ l) := by
 induction l with
 | nil => intro xs t _; simp
 | cons c l ih =>
  intro xs t h
  have hc := h c (by simp)
  simp only [List.foldl_cons, zaZ, hc]
  rw [show (if false = true then (xs ++ [t], []) else (xs, t ++ [c])) = (xs, t ++ [c]) from rfl, ih _ _ (fun d hd => h d (by simp [hd]))]
  simp
theorem has46 (c : UInt8) : hasB [46] c = decide (c = 46) := by
 simp only [hasB, List.any_cons, List.any_nil, Bool.or_false]
 by_cases h : c = 46
 ·subst h; rfl
 ·rw [decide_eq_false h]; exact beq_eq_false_iff_ne.2 (fun e => h e.symm)
/-- the last part -/
def zvQ (l : List UInt8) : List UInt8 := (spl (hasB [46]) l).2
theorem znQ (l : List UInt8) : zaE l = (spl (hasB [46]) l).1 ++ [zvQ l] := rfl
theorem z2U (ps : List (List UInt8)) (t : List UInt8) : (ps ++ [t]).getD ps.length [] = t := by simp [List.getD]
theorem zyQ (l : List UInt8) (c : UInt8) (h : c ≠ 46) : zvQ (l ++ [c]) = zvQ l ++ [c] := by
 unfold zvQ
 rw [zkF]
 simp [zaZ, has46, h]
theorem z6A (l : List UInt8) (hn : l ≠ []) (h : l.getLast hn ≠ 46) : zvQ l ≠ [] := by
 conv => lhs; rw [← List.dropLast_concat_getLast hn]
 rw [zyQ _ _ h]
 simp
theorem zyW (l : List UInt8) : spl (hasB [46]) (l ++ [46]) = ((spl (hasB [46]) l).1 ++ [zvQ l], []) := by
 rw [zkF]
 simp [zaZ, has46, zvQ]
end
end

end Go.Proofs.YtphapecoimlngaaGreatDoor
