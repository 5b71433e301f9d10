/-
  What the law DomainJoins leans on, and its walk (2 of 17).
-/
import Derived.IntWalk
import Derived.StillTailTactics
import Derived.Deep.RegionHeld3
import Derived.Deep.AppendLies
import Derived.Test.YtphapecoimlngaaGreatDoorDomainJoinsPkA
namespace Go.Proofs.YtphapecoimlngaaGreatDoor
set_option maxRecDepth 100000
set_option maxHeartbeats 16000000
section
section
open Go.RowKit
def hexN (n : Nat) : UInt8 := ([48, 49, 50, 51, 52, 53, 54, 55, 56, 57, 65, 66, 67, 68, 69, 70] : List UInt8).getD n 0
def pctB (c : UInt8) : List UInt8 := [37, hexN (c.toNat / 16), hexN (c.toNat % 16)]
theorem z3J (n : Nat) (h : n < (ByteArray.mk #[48, 49, 50, 51, 52, 53, 54, 55, 56, 57, 65, 66, 67, 68, 69, 70]).size) : ((ByteArray.mk #[48, 49, 50, 51, 52, 53, 54, 55, 56, 57, 65, 66, 67, 68, 69, 70])[n]'h).toNat = (hexN n).toNat := by
 have key : ∀ n : Fin 16, ((ByteArray.mk #[48, 49, 50, 51, 52, 53, 54, 55, 56, 57, 65, 66, 67, 68, 69, 70])[n.val]'n.isLt).toNat = (hexN n.val).toNat := by decide
 exact key ⟨n, h⟩
theorem z1U (c : UInt8) (w : World) :
  Calls Tryz.prog 34 #[.int .u8 (c.toNat : Int)] w fun e w' => e = .returned (.string ⟨(pctB c).toArray⟩) ∧ Below w.heap.size w w' := by
 obtain ⟨n, hn⟩ : ∃ n, c.toNat = n := ⟨_, rfl⟩
 have hc : n < 256 := by rw [← hn]; exact c.toNat_lt
 have hR : pctB c = [37, hexN (n / 16), hexN (n % 16)] := by unfold pctB; rw [hn]
 rw [hn, hR]
 clear hn hR c
 have h1 : (0 : Int) ≤ (n : Int) / 16 := by omega
 have h2 : (n : Int) / 16 < 16 := by omega
 have h3 : (0 : Int) ≤ (n : Int) % 16 := by omega
 have h4 : (n : Int) % 16 < 16 := by omega
 have k1 : n / 16 < (ByteArray.mk #[48, 49, 50, 51, 52, 53, 54, 55, 56, 57, 65, 66, 67, 68, 69, 70]).size := by show n / 16 < 16; omega
 have k2 : n % 16 < (ByteArray.mk #[48, 49, 50, 51, 52, 53, 54, 55, 56, 57, 65, 66, 67, 68, 69, 70]).size := by show n % 16 < 16; omega
 have hcv := z2M (P := Tryz.prog) w.drew 30 9 5 [37, (((ByteArray.mk #[48, 49, 50, 51, 52, 53, 54, 55, 56, 57, 65, 66, 67, 68, 69, 70])[n / 16]'k1).toNat : Int), (((ByteArray.mk #[48, 49, 50, 51, 52, 53, 54, 55, 56, 57, 65, 66, 67, 68, 69, 70])[n % 16]'k2).toNat : Int)]
  (by
   intro x hx
   simp only [List.mem_cons, List.not_mem_nil, or_false] at hx
   rcases hx with rfl | rfl | rfl
   ·decide
   ·have := ((ByteArray.mk #[48, 49, 50, 51, 52, 53, 54, 55, 56, 57, 65, 66, 67, 68, 69, 70])[n / 16]'k1).toNat_lt; omega
   ·have := ((ByteArray.mk #[48, 49, 50, 51, 52, 53, 54, 55, 56, 57, 65, 66, 67, 68, 69, 70])[n % 16]'k2).toNat_lt; omega)
  Tryz.underlying30 Tryz.underlying5 Tryz.underlying9
 have hcv2 : (convert 30 9 (.slice (some ⟨w.heap.size, 0, none⟩) 3 3)).run Tryz.prog ((w.alloc (.cells #[.int .u8 37, .int .u8 (((ByteArray.mk #[48, 49, 50, 51, 52, 53, 54, 55, 56, 57, 65, 66, 67, 68, 69, 70])[n / 16]'k1).toNat : Int), .int .u8 (((ByteArray.mk #[48, 49, 50, 51, 52, 53, 54, 55, 56, 57, 65, 66, 67, 68, 69, 70])[n % 16]'k2).toNat : Int)] 5)).drew) = _ := hcv
 clear hcv
 have hR : zmC [37, (((ByteArray.mk #[48, 49, 50, 51, 52, 53, 54, 55, 56, 57, 65, 66, 67, 68, 69, 70])[n / 16]'k1).toNat : Int), (((ByteArray.mk #[48, 49, 50, 51, 52, 53, 54, 55, 56, 57, 65, 66, 67, 68, 69, 70])[n % 16]'k2).toNat : Int)] = [37, hexN (n / 16), hexN (n % 16)] := by
  simp only [zmC, List.map_cons, List.map_nil, z3J _ k1, z3J _ k2, zmU]
  rfl
 rw [hR] at hcv2
 clear hR
 generalize [37, hexN (n / 16), hexN (n % 16)] = R at hcv2 ⊢
 go_enter Tryz.func34, Tryz.ntmps34
 go_wp2
 go_region
 all_goals (go_wp2; go_ret; exact ⟨rfl, ((Below.refl _ _).alloc (Nat.le_refl _) _).drew⟩)
def setL : Nat → List Int
 | 1 => [32, 34, 60, 62, 96]
 | 2 => [32, 34, 35, 60, 62]
 | 3 => [32, 34, 35, 60, 62, 39]
 | 4 => [32, 34, 35, 60, 62, 63, 94, 96, 123, 125]
 | 5 => [32, 34, 35, 60, 62, 63, 94, 96, 123, 125, 47, 58, 59, 61, 64, 91, 92, 93, 124]
 | _ => []
def inB (s r : Int) : Bool := decide (0 ≤ s ∧ s ≤ 5) && (decide (r ≤ 31 ∨ 126 < r) || (setL s.toNat).contains r)
theorem z5O {s r : Int} (h : s < 0 ∨ 5 < s) : inB s r = false := by
 unfold inB
 rw [decide_eq_false (by omega)]; rfl
theorem z4L {s r : Int} (h0 : 0 ≤ s) (h1 : s ≤ 5) (h : r ≤ 31 ∨ 126 < r) : inB s r = true := by
 unfold inB
 rw [decide_eq_true ⟨h0, h1⟩, decide_eq_true h]; rfl
theorem ziF {s r : Int} (h0 : 0 ≤ s) (h1 : s ≤ 5) (h2 : 31 < r) (h3 : r ≤ 126) : inB s r = (setL s.toNat).contains r := by
 unfold inB
 rw [decide_eq_true ⟨h0, h1⟩, decide_eq_false (by omega)]; simp
theorem z5B (n : Nat) (h : n < 127) : decide (0 ≤ Lib.indexByte ([] : List UInt8) n.toUInt8) = (setL 0).contains (n : Int) := by
 have key : ∀ n : Fin 127, decide (0 ≤ Lib.indexByte ([] : List UInt8) n.val.toUInt8) = (setL 0).contains (n.val : Int) := by decide +kernel
 exact key ⟨n, h⟩
theorem z5E (r : Int) (w : World) (h2 : 31 < r) (h3 : r ≤ 126) :
  Calls Tryz.prog 214 #[.int .u8 0, .int .i32 r] w fun e w' => e = .returned (.bool (inB 0 r)) ∧ w = w' := by
 obtain ⟨n, rfl⟩ := Int.eq_ofNat_of_zero_le (show 0 ≤ r by omega)
 have HB := Lib.hid ((ziF (s := 0) (by decide) (by decide) h2 h3).trans (z5B n (by omega)).symm)
 go_enter Tryz.func214, Tryz.ntmps214
 go_wp2_with (first | (go_at_call 68; refine (Tryz.strings_ContainsRune_ascii _ _ _ (by omega) (by omega)).mono ?_; rintro e w' ⟨rfl, rfl⟩) | go_in)
 go_ret
 exact ⟨zaX (by rw [HB.out]; have d1 : decide ((n : Int) ≤ 31) = false := decide_eq_false (by omega); have d2 : decide (126 < (n : Int)) = false := decide_eq_false (by omega); simp only [d1, d2, Bool.false_or]), rfl⟩
theorem z4G (n : Nat) (h : n < 127) : decide (0 ≤ Lib.indexByte ([32, 34, 60, 62, 96] : List UInt8) n.toUInt8) = (setL 1).contains (n : Int) := by
 have key : ∀ n : Fin 127, decide (0 ≤ Lib.indexByte ([32, 34, 60, 62, 96] : List UInt8) n.val.toUInt8) = (setL 1).contains (n.val : Int) := by decide +kernel
 exact key ⟨n, h⟩
theorem z4R (r : Int) (w : World) (h2 : 31 < r) (h3 : r ≤ 126) :
  Calls Tryz.prog 214 #[.int .u8 1, .int .i32 r] w fun e w' => e = .returned (.bool (inB 1 r)) ∧ w = w' := by
 obtain ⟨n, rfl⟩ := Int.eq_ofNat_of_zero_le (show 0 ≤ r by omega)
 have HB := Lib.hid ((ziF (s := 1) (by decide) (by decide) h2 h3).trans (z4G n (by omega)).symm)
 go_enter Tryz.func214, Tryz.ntmps214
 go_wp2_with (first | (go_at_call 68; refine (Tryz.strings_ContainsRune_ascii _ _ _ (by omega) (by omega)).mono ?_; rintro e w' ⟨rfl, rfl⟩) | go_in)
 go_ret
 exact ⟨zaX (by rw [HB.out]; have d1 : decide ((n : Int) ≤ 31) = false := decide_eq_false (by omega); have d2 : decide (126 < (n : Int)) = false := decide_eq_false (by omega); simp only [d1, d2, Bool.false_or]), rfl⟩
theorem z4W (n : Nat) (h : n < 127) : decide (0 ≤ Lib.indexByte ([32, 34, 35, 60, 62] : List UInt8) n.toUInt8) = (setL 2).contains (n : Int) := by
 have key : ∀ n : Fin 127, decide (0 ≤ Lib.indexByte ([32, 34, 35, 60, 62] : List UInt8) n.val.toUInt8) = (setL 2).contains (n.val : Int) := by decide +kernel
 exact key ⟨n, h⟩
theorem z4H (r : Int) (w : World) (h2 : 31 < r) (h3 : r ≤ 126) :
  Calls Tryz.prog 214 #[.int .u8 2, .int .i32 r] w fun e w' => e = .returned (.bool (inB 2 r)) ∧ w = w' := by
 obtain ⟨n, rfl⟩ := Int.eq_ofNat_of_zero_le (show 0 ≤ r by omega)
 have HB := Lib.hid ((ziF (s := 2) (by decide) (by decide) h2 h3).trans (z4W n (by omega)).symm)
 go_enter Tryz.func214, Tryz.ntmps214
 go_wp2_with (first | (go_at_call 68; refine (Tryz.strings_ContainsRune_ascii _ _ _ (by omega) (by omega)).mono ?_; rintro e w' ⟨rfl, rfl⟩) | go_in)
 go_ret
 exact ⟨zaX (by rw [HB.out]; have d1 : decide ((n : Int) ≤ 31) = false := decide_eq_false (by omega); have d2 : decide (126 < (n : Int)) = false := decide_eq_false (by omega); simp only [d1, d2, Bool.false_or]), rfl⟩
theorem z5H (n : Nat) (h : n < 127) : decide (0 ≤ Lib.indexByte ([32, 34, 35, 60, 62, 39] : List UInt8) n.toUInt8) = (setL 3).contains (n : Int) := by
 have key : ∀ n : Fin 127, decide (0 ≤ Lib.indexByte ([32, 34, 35, 60, 62, 39] : List UInt8) n.val.toUInt8) = (setL 3).contains (n.val : Int) := by decide +kernel
 exact key ⟨n, h⟩
theorem z4K (r : Int) (w : World) (h2 : 31 < r) (h3 : r ≤ 126) :
  Calls Tryz.prog 214 #[.int .u8 3, .int .i32 r] w fun e w' => e = .returned (.bool (inB 3 r)) ∧ w = w' := by
 obtain ⟨n, rfl⟩ := Int.eq_ofNat_of_zero_le (show 0 ≤ r by omega)
 have HB := Lib.hid ((ziF (s := 3) (by decide) (by decide) h2 h3).trans (z5H n (by omega)).symm)
 go_enter Tryz.func214, Tryz.ntmps214
 go_wp2_with (first | (go_at_call 68; refine (Tryz.strings_ContainsRune_ascii _ _ _ (by omega) (by omega)).mono ?_; rintro e w' ⟨rfl, rfl⟩) | go_in)
 go_ret
 exact ⟨zaX (by rw [HB.out]; have d1 : decide ((n : Int) ≤ 31) = false := decide_eq_false (by omega); have d2 : decide (126 < (n : Int)) = false := decide_eq_false (by omega); simp only [d1, d2, Bool.false_or]), rfl⟩
theorem z5M (n : Nat) (h : n < 127) : decide (0 ≤ Lib.indexByte ([32, 34, 35, 60, 62, 63, 94, 96, 123, 125] : List UInt8) n.toUInt8) = (setL 4).contains (n : Int) := by
 have key : ∀ n : Fin 127, decide (0 ≤ Lib.indexByte ([32, 34, 35, 60, 62, 63, 94, 96, 123, 125] : List UInt8) n.val.toUInt8) = (setL 4).contains (n.val : Int) := by decide +kernel
 exact key ⟨n, h⟩
theorem z5C (r : Int) (w : World) (h2 : 31 < r) (h3 : r ≤ 126) :
  Calls Tryz.prog 214 #[.int .u8 4, .int .i32 r] w fun e w' => e = .returned (.bool (inB 4 r)) ∧ w = w' := by
 obtain ⟨n, rfl⟩ := Int.eq_ofNat_of_zero_le (show 0 ≤ r by omega)
 have HB := Lib.hid ((ziF (s := 4) (by decide) (by decide) h2 h3).trans (z5M n (by omega)).symm)
 go_enter Tryz.func214, Tryz.ntmps214
 go_wp2_with (first | (go_at_call 68; refine (Tryz.strings_ContainsRune_ascii _ _ _ (by omega) (by omega)).mono ?_; rintro e w' ⟨rfl, rfl⟩) | go_in)
 go_ret
 exact ⟨zaX (by rw [HB.out]; have d1 : decide ((n : Int) ≤ 31) = false := decide_eq_false (by omega); have d2 : decide (126 < (n : Int)) = false := decide_eq_false (by omega); simp only [d1, d2, Bool.false_or]), rfl⟩
theorem z5T (n : Nat) (h : n < 127) : decide (0 ≤ Lib.indexByte ([32, 34, 35, 60, 62, 63, 94, 96, 123, 125, 47, 58, 59, 61, 64, 91, 92, 93, 124] : List UInt8) n.toUInt8) = (setL 5).contains (n : Int) := by
 have key : ∀ n : Fin 127, decide (0 ≤ Lib.indexByte ([32, 34, 35, 60, 62, 63, 94, 96, 123, 125, 47, 58, 59, 61, 64, 91, 92, 93, 124] : List UInt8) n.val.toUInt8) = (setL 5).contains (n.val : Int) := by decide +kernel
 exact key ⟨n, h⟩
theorem z4D (r : Int) (w : World) (h2 : 31 < r) (h3 : r ≤ 126) :
  Calls Tryz.prog 214 #[.int .u8 5, .int .i32 r] w fun e w' => e = .returned (.bool (inB 5 r)) ∧ w = w' := by
 obtain ⟨n, rfl⟩ := Int.eq_ofNat_of_zero_le (show 0 ≤ r by omega)
 have HB := Lib.hid ((ziF (s := 5) (by decide) (by decide) h2 h3).trans (z5T n (by omega)).symm)
 go_enter Tryz.func214, Tryz.ntmps214
 go_wp2_with (first | (go_at_call 68; refine (Tryz.strings_ContainsRune_ascii _ _ _ (by omega) (by omega)).mono ?_; rintro e w' ⟨rfl, rfl⟩) | go_in)
 go_ret
 exact ⟨zaX (by rw [HB.out]; have d1 : decide ((n : Int) ≤ 31) = false := decide_eq_false (by omega); have d2 : decide (126 < (n : Int)) = false := decide_eq_false (by omega); simp only [d1, d2, Bool.false_or]), rfl⟩
theorem in_ctl (s r : Int) (w : World) (h0 : 0 ≤ s) (h1 : s ≤ 5) (h : r ≤ 31 ∨ 126 < r) :
  Calls Tryz.prog 214 #[.int .u8 s, .int .i32 r] w fun e w' => e = .returned (.bool (inB s r)) ∧ w = w' := by
 have HB := Lib.hid (z4L h0 h1 h)
 rcases h with h | h
 ·go_enter Tryz.func214, Tryz.ntmps214
  go_wp2
  go_ret
  exact ⟨zaX HB.out.symm, rfl⟩
 ·go_enter Tryz.func214, Tryz.ntmps214
  go_wp2
  go_ret
  exact ⟨zaX HB.out.symm, rfl⟩
theorem in_out (s r : Int) (w : World) (h : 5 < s) :
  Calls Tryz.prog 214 #[.int .u8 s, .int .i32 r] w fun e w' => e = .returned (.bool (inB s r)) ∧ w = w' := by
 have HB := Lib.hid (z5O (s := s) (r := r) (.inr h))
 go_enter Tryz.func214, Tryz.ntmps214
 go_wp2
 go_ret
 exact ⟨zaX HB.out.symm, rfl⟩
theorem z3N (s r : Int) (w : World) (h0 : 0 ≤ s) :
  Calls Tryz.prog 214 #[.int .u8 s, .int .i32 r] w fun e w' => e = .returned (.bool (inB s r)) ∧ w = w' := by
 by_cases h5 : 5 < s
 ·exact in_out s r w h5
 ·by_cases hc : r ≤ 31 ∨ 126 < r
  ·exact in_ctl s r w h0 (by omega) hc
  ·rcases (show s = 0 ∨ s = 1 ∨ s = 2 ∨ s = 3 ∨ s = 4 ∨ s = 5 from by omega) with rfl | rfl | rfl | rfl | rfl | rfl
   ·exact z5E r w (by omega) (by omega)
   ·exact z4R r w (by omega) (by omega)
   ·exact z4H r w (by omega) (by omega)
   ·exact z4K r w (by omega) (by omega)
   ·exact z5C r w (by omega) (by omega)
   ·exact z4D r w (by omega) (by omega)
end
section
open Go.RowKit
end
section
open Go.RowKit
/-- % and two digits at a text's beginning: the byte -/
def zgA : List UInt8 → Option UInt8
 | c :: a :: b :: _ => if c.toNat = 37 ∧ 0 ≤ valZ (a.toNat : Int) ∧ 0 ≤ valZ (b.toNat : Int) then some (UInt8.ofNat ((valZ (a.toNat : Int) * 16 + valZ (b.toNat : Int)).toNat)) else none
 | _ => none
def decL : Nat → List UInt8 → List UInt8
 | 0, _ => []
 | _ + 1, [] => []
 | f + 1, c :: r => match zgA (c :: r) with
  | some v => v :: decL f (r.drop 2)
  | none => c :: decL f r
def decB (l : List UInt8) : List UInt8 := decL l.length l
theorem z0E (r : Int) : valZ r < 16 := by unfold valZ; (repeat' split) <;> omega
theorem zyB (r : Int) : -1 ≤ valZ r := by unfold valZ; (repeat' split) <;> omega
theorem zeR (s : ByteArray) (k : Nat) (h : k < s.size) : s.data.toList.drop k = s[k] :: s.data.toList.drop (k + 1) := by
 rw [List.drop_eq_getElem_cons (by simpa using h)]
 rfl
theorem ziV (s : ByteArray) (k : Nat) (h : ¬ k < s.size) : s.data.toList.drop k = [] := List.drop_eq_nil_of_le (by simpa using h)
theorem zvB (s : ByteArray) (k : Nat) (hk : k + 2 < s.size) (h37 : s[k].toNat = 37) (h1 : 0 ≤ valZ (s[k + 1].toNat : Int)) (h2 : 0 ≤ valZ (s[k + 2].toNat : Int)) :
  zgA (s.data.toList.drop k) = some (UInt8.ofNat ((valZ (s[k + 1].toNat : Int) * 16 + valZ (s[k + 2].toNat : Int)).toNat)) := by
 rw [zeR s k (by omega), zeR s (k + 1) (by omega), zeR s (k + 2) (by omega)]
 simp only [zgA]
 rw [if_pos ⟨h37, h1, h2⟩]
theorem znU (s : ByteArray) (k : Nat) (hk : k + 2 < s.size) (h : s[k].toNat ≠ 37 ∨ valZ (s[k + 1].toNat : Int) < 0 ∨ valZ (s[k + 2].toNat : Int) < 0) :
  zgA (s.data.toList.drop k) = none := by
 rw [zeR s k (by omega), zeR s (k + 1) (by omega), zeR s (k + 2) (by omega)]
 simp only [zgA]
 rw [if_neg (by omega)]
theorem zkJ (s : ByteArray) (k : Nat) (hk : s.size ≤ k + 2) : zgA (s.data.toList.drop k) = none := by
 by_cases h0 : k < s.size
 ·rw [zeR s k h0]
  by_cases h1 : k + 1 < s.size
  ·rw [zeR s (k + 1) h1, ziV s (k + 2) (by omega)]
   rfl
  ·rw [ziV s (k + 1) h1]
   rfl
 ·rw [ziV s k h0]
  rfl
theorem z2Z (a b : Int) (h0 : 0 ≤ a) (h1 : a < 16) (h2 : 0 ≤ b) (h3 : b < 16) : bits BinOp.or IntKind.i64 (a * 16) b % 256 = a * 16 + b := by
 have key : ∀ a b : Fin 16, bits BinOp.or IntKind.i64 ((a.val : Int) * 16) (b.val : Int) % 256 = (a.val : Int) * 16 + (b.val : Int) := by decide +kernel
 have := key ⟨a.toNat, by omega⟩ ⟨b.toNat, by omega⟩
 simp only [Int.toNat_of_nonneg h0, Int.toNat_of_nonneg h2] at this
 exact this
def zqB (o : Option UInt8) (w : World) (e : Ending) (w' : World) : Prop := e = .returned (.tuple #[.int .u8 ((o.getD 0).toNat : Int), .bool o.isSome]) ∧ ∃ n, w' = w.drewN n
theorem zeN {o : Option UInt8} {w : World} {e : Ending} {w' : World} (ho : o = none) (he : e = .returned (.tuple #[.int .u8 0, .bool false])) (n : Nat) (hw : w' = w.drewN n) : zqB o w e w' := by
 subst ho
 exact ⟨he, n, hw⟩
theorem zoZ {o : Option UInt8} {v : UInt8} {x : Int} {w : World} {e : Ending} {w' : World} (ho : o = some v) (he : e = .returned (.tuple #[.int .u8 x, .bool true])) (hx : x = (v.toNat : Int)) (n : Nat) (hw : w' = w.drewN n) : zqB o w e w' := by
 subst ho hx
 exact ⟨he, n, hw⟩
theorem ztQ (x : Int) (h0 : 0 ≤ x) (h1 : x < 256) : x = ((UInt8.ofNat x.toNat).toNat : Int) := by
 have : x.toNat % 256 = x.toNat := Nat.mod_eq_of_lt (by omega)
 simp [this]
 omega
theorem zjE (s : ByteArray) (k : Nat) (w : World) (hs : s.size ≤ 1073741824) (hk : k < s.size) :
  Calls Tryz.prog 77 #[.string s, .int .i64 k] w (zqB (zgA (s.data.toList.drop k)) w) := by
 obtain ⟨c0, hc0⟩ : ∃ c, s[k].toNat = c := ⟨_, rfl⟩
 by_cases h2 : k + 2 < s.size
 ·obtain ⟨c1, hc1⟩ : ∃ c, s[k + 1].toNat = c := ⟨_, rfl⟩
  obtain ⟨c2, hc2⟩ : ∃ c, s[k + 2].toNat = c := ⟨_, rfl⟩
  have l1 : c1 < 256 := by rw [← hc1]; exact s[k + 1].toNat_lt
  have l2 : c2 < 256 := by rw [← hc2]; exact s[k + 2].toNat_lt
  by_cases h37 : c0 = 37
  ·subst h37
   obtain ⟨v1, hv1⟩ : ∃ v, valZ (c1 : Int) = v := ⟨_, rfl⟩
   obtain ⟨v2, hv2⟩ : ∃ v, valZ (c2 : Int) = v := ⟨_, rfl⟩
   have b1 : v1 < 16 := by rw [← hv1]; exact z0E _
   have b2 : v2 < 16 := by rw [← hv2]; exact z0E _
   have b3 : -1 ≤ v1 := by rw [← hv1]; exact zyB _
   have b4 : -1 ≤ v2 := by rw [← hv2]; exact zyB _
   have hb37 : ((37 : Int) != 37) = false := by decide
   by_cases hv : 0 ≤ v1 ∧ 0 ≤ v2
   ·obtain ⟨b5, b6⟩ := hv
    have HT := Lib.hid (zvB s k h2 hc0 (by rw [hc1, hv1]; exact b5) (by rw [hc2, hv2]; exact b6))
    rw [hc1, hc2, hv1, hv2] at HT
    have HO := Lib.hid (z2Z v1 v2 b5 b1 b6 b2)
    have HX := Lib.hid (ztQ (v1 * 16 + v2) (by omega) (by omega))
    have p1 : (0 : Int) ≤ (k : Int) + 1 := by omega
    have p2 : (0 : Int) ≤ (k : Int) + 2 := by omega
    have p3 : (k : Int) + 1 < (s.size : Int) := by omega
    have p4 : (k : Int) + 2 < (s.size : Int) := by omega
    have q1 : IntKind.i64.wrap ((k : Int) + 1) = (k : Int) + 1 := IntWalk.i64_in _ (by omega)
    have q2 : IntKind.i64.wrap ((k : Int) + 2) = (k : Int) + 2 := IntWalk.i64_in _ (by omega)
    have r1 : ((k : Int) + 1).toNat = k + 1 := by omega
    have r2 : ((k : Int) + 2).toNat = k + 2 := by omega
    go_enter Tryz.func77, Tryz.ntmps77
    go_wp2_with fail
    go_quiet ((go_at_call 109; exact Calls.quiet_of_same ((zcC _ _).mono fun _ _ h => ⟨h.1, h.2.symm⟩)))
    clear q1 q2 r1 r2
    go_wp2
    go_ret2
    exact zoZ HT.out rfl (HO.out.trans HX.out) nq rfl
   ·have HT := Lib.hid (znU s k h2 (by rw [hc1, hc2, hv1, hv2]; omega))
    have p1 : (0 : Int) ≤ (k : Int) + 1 := by omega
    have p2 : (0 : Int) ≤ (k : Int) + 2 := by omega
    have p3 : (k : Int) + 1 < (s.size : Int) := by omega
    have p4 : (k : Int) + 2 < (s.size : Int) := by omega
    by_cases hv1n : v1 < 0
    all_goals
     have q1 : IntKind.i64.wrap ((k : Int) + 1) = (k : Int) + 1 := IntWalk.i64_in _ (by omega)
     have q2 : IntKind.i64.wrap ((k : Int) + 2) = (k : Int) + 2 := IntWalk.i64_in _ (by omega)
     have r1 : ((k : Int) + 1).toNat = k + 1 := by omega
     have r2 : ((k : Int) + 2).toNat = k + 2 := by omega
     go_enter Tryz.func77, Tryz.ntmps77
     go_wp2_with fail
     go_quiet ((go_at_call 109; exact Calls.quiet_of_same ((zcC _ _).mono fun _ _ h => ⟨h.1, h.2.symm⟩)))
     clear q1 q2 r1 r2
     have hv2n : v1 < 0 ∨ v2 < 0 := by omega
     go_wp2
     all_goals
      go_ret2
      exact zeN HT.out rfl nq rfl
  ·have HT := Lib.hid (znU s k h2 (.inl (by rw [hc0]; exact h37)))
   have hb : ((c0 : Int) != 37) = true := by rw [bne_iff_ne]; omega
   go_enter Tryz.func77, Tryz.ntmps77
   go_wp2
   go_ret2
   exact zeN HT.out rfl 0 rfl
 ·have HT := Lib.hid (zkJ s k (by omega))
  by_cases h37 : c0 = 37
  ·subst h37
   go_enter Tryz.func77, Tryz.ntmps77
   go_wp2
   go_ret2
   exact zeN HT.out rfl 0 rfl
  ·have hb : ((c0 : Int) != 37) = true := by rw [bne_iff_ne]; omega
   go_enter Tryz.func77, Tryz.ntmps77
   go_wp2
   go_ret2
   exact zeN HT.out rfl 0 rfl
end
section
open Go.RowKit
theorem z0P (s : ByteArray) (f k : Nat) (h : ¬ k < s.size) : decL f (s.data.toList.drop k) = [] := by
 rw [ziV s k h]
 cases f <;> rfl
theorem zwY (s : ByteArray) (f k : Nat) (v : UInt8) (h : k < s.size) (ht : zgA (s.data.toList.drop k) = some v) : decL (f + 1) (s.data.toList.drop k) = v :: decL f (s.data.toList.drop (k + 3)) := by
 rw [zeR s k h] at ht ⊢
 simp only [decL, ht, List.drop_drop]
theorem zwV (s : ByteArray) (f k : Nat) (h : k < s.size) (ht : zgA (s.data.toList.drop k) = none) : decL (f + 1) (s.data.toList.drop k) = s[k] :: decL f (s.data.toList.drop (k + 1)) := by
 rw [zeR s k h] at ht ⊢
 simp only [decL, ht]
theorem zuF (s : ByteArray) (k : Nat) (v : UInt8) (h : zgA (s.data.toList.drop k) = some v) : k + 2 < s.size := by
 by_cases hk : k + 2 < s.size
 ·exact hk
 ·rw [zkJ s k (by omega)] at h; cases h
theorem zuA (s : ByteArray) (w : World) (hs : s.size ≤ 1073741824) :
  Calls Tryz.prog 54 #[.string s] w fun e w' => e = .returned (.string ⟨(decB s.data.toList).toArray⟩) ∧ Below w.heap.size w w' := by
 go_enter Tryz.func54, Tryz.ntmps54
 go_wp2
 go_loopw [4] (fun i wr => ∃ (k fuel : Nat) (T : List UInt8), i = .int .i64 k ∧ k ≤ s.size ∧ Lib.IsBuilderF 95 5 w.heap.size w.heap.size (Lib.byteCells T) wr ∧ Below w.heap.size w wr ∧ T.length ≤ k ∧ s.size ≤ k + fuel ∧ Hid (T ++ decL fuel (s.data.toList.drop k) = decB s.data.toList)) (fun i _ => s.size - (intOf i).toNat)
 case atStart =>
  refine ⟨0, s.size, [], rfl, Nat.zero_le _, Lib.IsBuilderF.of (Lib.fresh_isBuilder _ _ w), (Below.refl _ w).alloc (Nat.le_refl _) _, by simp, by omega, ?_⟩
  show [] ++ decL s.size (s.data.toList.drop 0) = decL s.data.toList.length s.data.toList
  rw [zaK]; rfl
 case round =>
  obtain ⟨k, fuel, T, rfl, hk, hI, hbw, hTl, hfu, HD⟩ := hrel
  have hsz := hbw.size
  by_cases hlt : k < s.size
  ·obtain ⟨f, rfl⟩ : ∃ f, fuel = f + 1 := ⟨fuel - 1, by omega⟩
   cases hth : zgA (s.data.toList.drop k) with
   | some v =>
    have hroom := zuF s k v hth
    have hD2 := HD.out
    rw [zwY s f k v hlt hth] at hD2
    have HD2 := Lib.hid hD2
    have HTH := Lib.hid hth
    clear hD2 hth
    go_wp2_with fail
    refine (zjE s k _ hs hlt).mono ?_
    rw [HTH.out]
    rintro e w' ⟨rfl, nq, rfl⟩
    have hI2 : Lib.IsBuilderF 95 5 w.heap.size w.heap.size (Lib.byteCells T) (wr.drewN nq) := hI
    have hb2 := zcA hbw nq
    have hsz2 : w.heap.size ≤ (wr.drewN nq).heap.size := hsz
    generalize wr.drewN nq = w2 at *
    go_wp2_with fail
    refine (Tryz.Builder_WriteByte_k w.heap.size w.heap.size _ _ _ hI2 (by rw [Lib.byteCells_length]; omega) hsz2).mono ?_
    rintro e w3 ⟨rfl, h3, b3, _⟩
    go_wp2
    go_roundw
    case rel =>
     refine ⟨k + 3, f, T ++ [v], by go_num, by omega, ?_, hb2.trans b3, by simp; omega, by omega, ?_⟩
     ·rw [zhU T v _ rfl]; exact .inr h3
     ·show (T ++ [v]) ++ _ = _
      rw [List.append_assoc]; exact HD2.out
    case measure => simp [intOf]; omega
   | none =>
    have hD2 := HD.out
    rw [zwV s f k hlt hth] at hD2
    have HD2 := Lib.hid hD2
    have HTH := Lib.hid hth
    clear hD2 hth
    go_wp2_with fail
    refine (zjE s k _ hs hlt).mono ?_
    rw [HTH.out]
    rintro e w' ⟨rfl, nq, rfl⟩
    have hI2 : Lib.IsBuilderF 95 5 w.heap.size w.heap.size (Lib.byteCells T) (wr.drewN nq) := hI
    have hb2 := zcA hbw nq
    have hsz2 : w.heap.size ≤ (wr.drewN nq).heap.size := hsz
    generalize wr.drewN nq = w2 at *
    go_wp2_with fail
    refine (Tryz.Builder_WriteByte_k w.heap.size w.heap.size _ _ _ hI2 (by rw [Lib.byteCells_length]; omega) hsz2).mono ?_
    rintro e w3 ⟨rfl, h3, b3, _⟩
    go_wp2
    go_roundw
    case rel =>
     refine ⟨k + 1, f, T ++ [s[k]], by go_num, by omega, ?_, hb2.trans b3, by simp; omega, by omega, ?_⟩
     ·rw [zhU T s[k] _ rfl]; exact .inr h3
     ·show (T ++ [s[k]]) ++ _ = _
      rw [List.append_assoc]; exact HD2.out
    case measure => simp [intOf]; omega
  ·have hfin : T = decB s.data.toList := by
    have := HD.out
    rwa [z0P s fuel k hlt, List.append_nil] at this
   subst hfin
   go_wp2_with fail
   refine (Tryz.Builder_String_any_k w.heap.size w.heap.size _ _ hI (by omega)).mono ?_
   rintro e w1 ⟨rfl, _, b1, _⟩
   go_wp2
   go_ret
   exact ⟨rfl, hbw.trans b1⟩
end
section
open Go.RowKit
def pctL (l : List UInt8) : List UInt8 := l.flatMap pctB
def encP (s r : Int) : List UInt8 := if inB s r = true then pctL (Lib.encodeRune r) else Lib.encodeRune r
def encB (s : Int) (l : List Int) : List UInt8 := l.flatMap (encP s)
theorem zsX (l : List UInt8) : (pctL l).length = 3 * l.length := by
 induction l with
 | nil => rfl
 | cons c l ih => simp only [pctL, List.flatMap_cons, List.length_append] at ih ⊢; rw [ih]; simp [pctB]; omega
theorem z0R (s r : Int) : (encP s r).length ≤ 12 := by
 have := zfH r
 unfold encP
 split
 ·rw [zsX]; omega
 ·omega
theorem zxH (l : List UInt8) (k : Nat) (h : k < l.length) : pctL (l.take (k + 1)) = pctL (l.take k) ++ pctB l[k] := by
 unfold pctL
 rw [List.take_succ_eq_append_getElem h, List.flatMap_append]
 simp
theorem zwA (s r : Int) (l : List Int) : encB s (r :: l) = encP s r ++ encB s l := by simp [encB]
theorem znO {T e : TypeId} {B b : Nat} {bs : List Value} {w w' : World} (h : Lib.IsBuilderF T e B b bs w) (hb : Below w.heap.size w w') : Lib.IsBuilderF T e B b bs w' := by
 have key : ∀ p, Lib.BuilderAtF T e B b p bs w → Lib.BuilderAtF T e B b p bs w' := by
  intro p hh
  obtain ⟨hB, v, hv, hown, hne⟩ := hh
  refine ⟨hB, v, (hb.block b (Array.getElem?_eq_some_iff.1 hv).1).trans hv, ⟨hown.1, ?_⟩, hne⟩
  rcases hown.2 with hn | ⟨g, cap, cur, fz, hv2, hbg, hg, rest⟩
  ·exact .inl hn
  ·exact .inr ⟨g, cap, cur, fz, hv2, hbg, (hb.block g (Array.getElem?_eq_some_iff.1 hg).1).trans hg, rest⟩
 exact h.elim (fun x => .inl (key _ x)) (fun x => .inr (key _ x))
theorem z4N (w : World) (r : Int) (t : TypeId) : RowR (w.alloc (.cells #[.int .i32 r] t)) (.slice (some ⟨w.heap.size, 0, none⟩) 1 1) ([r].map (Value.int .i32)) := by
 refine ⟨_, 1, rfl, fun j u hj => ⟨_, rfl, ?_⟩⟩
 exact zrO w (.int .i32 r) t j u hj
theorem zqE (l : List UInt8) : Lib.strCells ⟨l.toArray⟩ = Lib.byteCells l := rfl
theorem ztX (l : List UInt8) (k : Nat) (h : k < (ByteArray.mk l.toArray).size) : (ByteArray.mk l.toArray)[k] = l[k]'(by simpa [ByteArray.size] using h) := rfl
theorem zuN (st : Int) (s : ByteArray) (w : World) (hst : 0 ≤ st) (hs : s.size ≤ 67108864) :
  Calls Tryz.prog 212 #[.int .u8 st, .string s] w fun e w' => e = .returned (.string ⟨(encB st (scal s)).toArray⟩) ∧ Below w.heap.size w w' := by
 go_enter Tryz.func212, Tryz.ntmps212
 go_wp2
 go_loopw [] (fun wr => ∃ (pos fuel : Nat) (acc : List UInt8), Lib.IsBuilderF 95 5 w.heap.size w.heap.size (Lib.byteCells acc) wr ∧ wr.heap[w.heap.size + 1]? = some (.stringIter s pos) ∧ Below w.heap.size w wr ∧ Hid (acc ++ encB st (zmM s fuel pos) = encB st (scal s)) ∧ s.size ≤ pos + fuel ∧ acc.length ≤ 12 * pos ∧ pos ≤ s.size + 4) (fun wr => s.size - wr.iterPos (w.heap.size + 1))
 case atStart =>
  refine ⟨0, s.size, [], (Lib.IsBuilderF.of (Lib.fresh_isBuilder _ _ w)).alloc _, ?_, ((Below.refl _ w).alloc (Nat.le_refl _) _).alloc (by simp) _, rfl, by omega, by simp, by omega⟩
  have := World.iter_heap (w.alloc (.cells #[.pointer none, .slice none 0 0] 95)) s 0
  simpa using this
 case round =>
  obtain ⟨pos, fuel, acc, hI, hit, hbw, HA, hfu, hal, hpo⟩ := hrel
  have hsz : w.heap.size + 1 < wr.heap.size := (Array.getElem?_eq_some_iff.1 hit).1
  by_cases hp : pos < s.size
  ·have hnx : ∀ ty, (Instr.next (.pointer (some ⟨w.heap.size + 1, 0, none⟩)) true ty).run Tryz.prog wr = _ := fun ty => Lib.run_next_any_at wr (w.heap.size + 1) s pos ty hit hp
   have hwd := zkF s pos hp
   have hwl := zsR s pos
   have hd1 := decode_le s pos
   have hI2 := hI.iterAt hit (pos + (Utf8.decode s pos).2)
   have hit2 := Lib.iterAt_heap wr (w.heap.size + 1) s pos (pos + (Utf8.decode s pos).2) hit
   have hbw2 := Lib.below_iterAt hbw (k := w.heap.size + 1) (by omega) s (pos + (Utf8.decode s pos).2)
   have hsz2 : w.heap.size + 1 < (wr.iterAt (w.heap.size + 1) s (pos + (Utf8.decode s pos).2)).heap.size := by rw [Lib.iterAt_size]; omega
   obtain ⟨f, rfl⟩ : ∃ f, fuel = f + 1 := ⟨fuel - 1, by omega⟩
   have hA2 := HA.out
   rw [zlN s f pos hp, zwA] at hA2
   have HA2 := Lib.hid hA2
   clear hA2
   generalize wr.iterAt (w.heap.size + 1) s (pos + (Utf8.decode s pos).2) = wi at *
   generalize hr : ((Utf8.decode s pos).1 : Int) = r at *
   have hr0 : 0 ≤ r := by omega
   have hr1 : r ≤ 2147483647 := by omega
   have HWP : Hid (wr.iterPos (w.heap.size + 1) = pos) := by
    show wr.iterPos (w.heap.size + 1) = pos
    simp only [World.iterPos, hit]
   clear hr
   have hel := zfH r
   cases hin : inB st r with
   | false =>
    have hep : encP st r = Lib.encodeRune r := by unfold encP; rw [hin]; rfl
    have HEP := Lib.hid hep
    clear hep
    go_wp2_with fail
    refine (z3N st r _ hst).mono ?_
    rintro e w' ⟨rfl, rfl⟩
    rw [hin]
    go_wp2_with fail
    refine (Tryz.Builder_WriteRune_k w.heap.size w.heap.size _ r (by omega) hr1 _ hI2 (by rw [Lib.byteCells_length]; omega) (by omega)).mono ?_
    rintro e w1 ⟨rfl, h1, b1, k1⟩
    have hit3 := k1.iter hit2 (by omega)
    go_wp2
    go_roundw
    case rel =>
     refine ⟨pos + (Utf8.decode s pos).2, f, acc ++ Lib.encodeRune r, ?_, hit3, hbw2.trans b1, ?_, by omega, by simp; omega, by omega⟩
     ·rw [Lib.byteCells_append, Lib.byteCells_encodeRune]; exact .inr h1
     ·show (acc ++ Lib.encodeRune r) ++ _ = _
      rw [List.append_assoc, ← HEP.out]; exact HA2.out
    case measure =>
     rw [HWP.out]
     simp only [World.iterPos, hit3]
     omega
   | true =>
    have hep : encP st r = pctL (Lib.encodeRune r) := by unfold encP; rw [hin]; rfl
    have HEP := Lib.hid hep
    clear hep
    go_wp2_with fail
    refine (z3N st r _ hst).mono ?_
    rintro e w' ⟨rfl, rfl⟩
    rw [hin]
    have hrow := z4N wi r 21
    have hI3 := hI2.alloc (.cells #[.int .i32 r] 21)
    have hit3 : (wi.alloc (.cells #[.int .i32 r] 21)).heap[w.heap.size + 1]? = some (.stringIter s (pos + (Utf8.decode s pos).2)) := by rw [Below.heap_alloc _ _ _ (by omega)]; exact hit2
    have hbw3 := hbw2.alloc (by omega : w.heap.size ≤ wi.heap.size) (.cells #[.int .i32 r] 21)
    go_wp2_with fail
    refine (z1R _ [r] _ hrow (by simp) (by intro x hx; simp at hx; omega)).mono ?_
    rintro e w2 ⟨rfl, hb2⟩
    have hI4 := znO hI3 hb2
    have hit4 := (hb2.block (w.heap.size + 1) (by simp; omega)).trans hit3
    have hbw4 : Below w.heap.size w w2 := hbw3.trans (hb2.mono (by simp; omega))
    clear hI2 hI3 hit2 hit3 hbw2 hbw3 hrow hb2
    rw [show zhJ [r] = Lib.encodeRune r from by simp [zhJ]]
    generalize hE : Lib.encodeRune r = E at *
    have HE := Lib.hid hE
    clear hE
    go_wp2
    go_loopw [26] (fun i wq => ∃ j : Nat, j ≤ E.length ∧ i = .int .i64 j ∧ Lib.IsBuilderF 95 5 w.heap.size w.heap.size (Lib.byteCells (acc ++ pctL (E.take j))) wq ∧ wq.heap[w.heap.size + 1]? = some (.stringIter s (pos + (Utf8.decode s pos).2)) ∧ Below w.heap.size w wq) (fun i _ => E.length - (intOf i).toNat)
    case atStart =>
     refine ⟨0, Nat.zero_le _, rfl, ?_, hit4, hbw4⟩
     simpa [pctL] using hI4
    case round =>
     obtain ⟨j, hj, rfl, hIq, hitq, hbwq⟩ := hrel
     have hszq : w.heap.size + 1 < wr.heap.size := (Array.getElem?_eq_some_iff.1 hitq).1
     by_cases hjlt : j < E.length
     ·have hjs : j < (ByteArray.mk E.toArray).size := by rw [zaH]; exact hjlt
      have hsn := zxH E j hjlt
      have HSN := Lib.hid hsn
      have hpl : (pctL (E.take j)).length ≤ 12 := by rw [zsX, List.length_take]; omega
      clear hsn
      have hba := ztX E j hjs
      have HBA := Lib.hid hba
      clear hba
      go_wp2_with fail
      refine (z1U (ByteArray.mk E.toArray)[j] _).mono ?_
      rintro e w3 ⟨rfl, hb3⟩
      have hI5 := znO hIq hb3
      have hit5 := (hb3.block (w.heap.size + 1) (by omega)).trans hitq
      have hbw5 : Below w.heap.size w w3 := hbwq.trans (hb3.mono (by omega))
      have hsz3 : w.heap.size ≤ w3.heap.size := hbw5.size
      go_wp2_with fail
      refine (Tryz.Builder_WriteString_k w.heap.size w.heap.size _ _ _ hI5 (by rw [Lib.byteCells_length, List.length_append, zaH, show (pctB (ByteArray.mk E.toArray)[j]).length = 3 from rfl]; omega) hsz3).mono ?_
      rintro e w4 ⟨rfl, h4, b4, k4⟩
      have hit6 := k4.iter hit5 (by omega)
      go_wp2
      go_roundw
      case rel =>
       refine ⟨j + 1, by omega, by go_num, ?_, hit6, hbw5.trans b4⟩
       rw [HSN.out, ← List.append_assoc, Lib.byteCells_append, ← HBA.out, ← zqE]
       exact .inr h4
      case measure => simp [intOf]; omega
     ·have hfin : pctL (E.take j) = encP st r := by rw [List.take_of_length_le (by omega), HEP.out]
      rw [hfin] at hIq
      clear hfin
      have hpl := z0R st r
      generalize encP st r = EP at *
      go_wp2
      go_roundw
      case rel =>
       refine ⟨pos + (Utf8.decode s pos).2, f, acc ++ EP, hIq, hitq, hbwq, ?_, by omega, by simp; omega, by omega⟩
       show (acc ++ EP) ++ _ = _
       rw [List.append_assoc]; exact HA2.out
      case measure =>
       simp only [World.iterPos, hitq]
       have := HWP.out
       simp only [World.iterPos] at this
       omega
  ·have hnx : ∀ ty, (Instr.next (.pointer (some ⟨w.heap.size + 1, 0, none⟩)) true ty).run Tryz.prog wr = _ := fun ty => Lib.run_next_end_at wr (w.heap.size + 1) s pos ty hit hp
   have hfin : acc = encB st (scal s) := by
    have := HA.out
    rw [zpP s fuel pos hp] at this
    simpa [encB] using this
   subst hfin
   go_wp2_with fail
   refine (Tryz.Builder_String_any_k w.heap.size w.heap.size _ _ hI (by omega)).mono ?_
   rintro e w1 ⟨rfl, _, b1, _⟩
   go_wp2
   go_ret
   exact ⟨rfl, hbw.trans b1⟩
end
section
open Go.RowKit
theorem zxD : encB 4 (scal ⟨#[97, 32, 98]⟩) = [97, 37, 50, 48, 98] := by decide +kernel
theorem zyJ : decB [37, 50, 53, 52, 49] = [37, 52, 49] := by decide +kernel
theorem zvY (w : World) :
  Calls Tryz.prog 211 #[] w fun e w' => e = .returned (.bool true) ∧ Below w.heap.size w w' := by
 go_enter Tryz.func211, Tryz.ntmps211
 go_wp2_with fail
 refine (zwB _).mono ?_
 rintro e w1 ⟨rfl, hb⟩
 go_wp2
 go_ret
 exact ⟨rfl, hb⟩
theorem zqJ (w : World) :
  Calls Tryz.prog 210 #[] w fun e w' => e = .returned (.bool true) ∧ Below w.heap.size w w' := by
 go_enter Tryz.func210, Tryz.ntmps210
 go_wp2_with fail
 refine (zvY _).mono ?_
 rintro e w1 ⟨rfl, hb1⟩
 go_wp2_with fail
 refine (zuN 4 _ _ (by decide) (by decide)).mono ?_
 rintro e w2 ⟨rfl, hb2⟩
 rw [zxD]
 have hc2 : Below w.heap.size w w2 := hb1.trans (hb2.mono hb1.size)
 clear hb1 hb2
 go_wp2_with fail
 refine (zuA _ _ (by decide)).mono ?_
 rintro e w3 ⟨rfl, hb3⟩
 have hd : decB (ByteArray.mk #[37, 50, 53, 52, 49]).data.toList = [37, 52, 49] := zyJ
 rw [hd]
 have hc3 : Below w.heap.size w w3 := hc2.trans (hb3.mono hc2.size)
 clear hc2 hb3 hd
 go_wp2
 go_ret
 exact ⟨by first | rfl | exact zaX (by decide), hc3⟩
end
section
open Go.RowKit
def digC (b : Int) (c : UInt8) : Bool := decide (0 ≤ valZ (c.toNat : Int) ∧ valZ (c.toNat : Int) < b)
def zbQ (b : Int) (l : List UInt8) : Bool := l.all (digC b)
def capZ (x : Int) : Int := if 1099511627776 < x then 1099511627776 else x
def zrZ (b : Int) (n : Int) (c : UInt8) : Int := capZ (n * b + valZ (c.toNat : Int))
def numZ (b : Int) (l : List UInt8) : Int := l.foldl (zrZ b) 0
/-- the digits, and the base that stands ahead of them -/
def zfA (l : List UInt8) : List UInt8 × Int :=
 match l with
 | a :: c :: r => if a.toNat = 48 then (if c.toNat = 120 ∨ c.toNat = 88 then (r, 16) else (c :: r, 8)) else (a :: c :: r, 10)
 | _ => (l, 10)
def zbN (l : List UInt8) : Int × Bool :=
 if l.isEmpty then (0, false) else if zbQ (zfA l).2 (zfA l).1 then (numZ (zfA l).2 (zfA l).1, true) else (0, false)
theorem zvD (b : Int) (s : ByteArray) (k : Nat) (h : k < s.size) : zbQ b (s.data.toList.take (k + 1)) = (zbQ b (s.data.toList.take k) && digC b s[k]) := by
 rw [zdT s k h]; simp [zbQ]
theorem zyS (b : Int) (s : ByteArray) (k : Nat) (h : k < s.size) : numZ b (s.data.toList.take (k + 1)) = zrZ b (numZ b (s.data.toList.take k)) s[k] := by
 rw [zdT s k h]; simp [numZ]
theorem zpH {b : Int} {c : UInt8} {v : Int} (hv : valZ (c.toNat : Int) = v) (h0 : 0 ≤ v) (h1 : v < b) : digC b c = true := decide_eq_true (by rw [hv]; exact ⟨h0, h1⟩)
theorem zfC {b : Int} {c : UInt8} {v : Int} (hv : valZ (c.toNat : Int) = v) (h : v < 0 ∨ b ≤ v) : digC b c = false := decide_eq_false (by rw [hv]; omega)
theorem zdN (b : Int) (s : ByteArray) (k : Nat) (h : k < s.size) (hc : digC b s[k] = false) : zbQ b s.data.toList = false := by
 unfold zbQ
 rw [List.all_eq_false]
 refine ⟨s[k], ?_, by rw [hc]; simp⟩
 show s.data[k] ∈ _
 simp
theorem ziZ (b : Int) (s : ByteArray) (k : Nat) (h : k < s.size) (hp : zbQ b (s.data.toList.take k) = true) (hc : digC b s[k] = true) : zbQ b (s.data.toList.take (k + 1)) = true := by
 rw [zvD b s k h, hp, hc]; rfl
theorem zhN (r : Int) (h : 128 ≤ r) : valZ r = -1 := by
 unfold valZ; (repeat' split) <;> omega
theorem ztA (r : Int) : valZ r < 16 := by
 unfold valZ; (repeat' split) <;> omega
theorem z3Z (x : Int) : capZ x ≤ 1099511627776 := by unfold capZ; split <;> omega
theorem z5F {x : Int} (h : 1099511627776 < x) : capZ x = 1099511627776 := if_pos h
theorem z4U {x : Int} (h : ¬ 1099511627776 < x) : capZ x = x := if_neg h
theorem z2J (b n : Int) (c : UInt8) (v : Int) (hv : valZ (c.toNat : Int) = v) : zrZ b n c = capZ (n * b + v) := by rw [zrZ, hv]
theorem zlZ (l : List UInt8) : (zfA l).2 = 8 ∨ (zfA l).2 = 10 ∨ (zfA l).2 = 16 := by
 unfold zfA
 repeat' split
 all_goals simp
theorem znG (s : ByteArray) (h : 2 ≤ s.size) : ∃ r, s.data.toList = s[0] :: s[1] :: r ∧ s.data.toList.drop 2 = r := by
 refine ⟨s.data.toList.drop 2, ?_, rfl⟩
 have e0 : s.data.toList = s.data.toList.drop 0 := rfl
 conv => lhs; rw [e0, List.drop_eq_getElem_cons (by simp; omega), List.drop_eq_getElem_cons (by simp; omega)]
 rfl
theorem zrD (s : ByteArray) (h : s.size < 2) : zfA s.data.toList = (s.data.toList, 10) := by
 have hl := zaK s
 match hd : s.data.toList, hl with
 | [], _ => rfl
 | [a], _ => rfl
 | a :: c :: r, hl => simp at hl; omega
theorem zzU (s : ByteArray) (h : 2 ≤ s.size) (h0 : s[0].toNat ≠ 48) : zfA s.data.toList = (s.data.toList, 10) := by
 obtain ⟨r, hr, _⟩ := znG s h
 rw [hr]; simp [zfA, h0]
theorem zwF (s : ByteArray) (h : 2 ≤ s.size) (h0 : s[0].toNat = 48) (h1 : s[1].toNat = 120 ∨ s[1].toNat = 88) : zfA s.data.toList = (s.data.toList.drop 2, 16) := by
 obtain ⟨r, hr, h2⟩ := znG s h
 rw [h2, hr]; simp only [zfA, h0, h1, if_true]
theorem zzX (s : ByteArray) (h : 2 ≤ s.size) (h0 : s[0].toNat = 48) (h1 : ¬ (s[1].toNat = 120 ∨ s[1].toNat = 88)) : zfA s.data.toList = (s.data.toList.drop 1, 8) := by
 obtain ⟨r, hr, _⟩ := znG s h
 rw [hr]; simp only [zfA, h0, h1, if_true, if_false]; rfl
theorem zlM (s : ByteArray) (a : Nat) : s.extract a s.size = ⟨(s.data.toList.drop a).toArray⟩ :=
 zfF s a s.size _ (List.take_of_length_le (by simp))
def zxA (w : World) (x : List UInt8 × Int) (e : Ending) (w' : World) : Prop := e = .returned (.tuple #[.string ⟨x.1.toArray⟩, .int .i64 x.2]) ∧ w = w'
theorem zgK {w : World} {x : List UInt8 × Int} {y : ByteArray} {b : Int} {l : List UInt8} (h : x = (l, b)) (hy : y = ⟨l.toArray⟩) : zxA w x (.returned (.tuple #[.string y, .int .i64 b])) w := by
 subst h hy; exact ⟨rfl, rfl⟩
theorem zjQ (s : ByteArray) (w : World) (hs : s.size ≤ 1073741824) :
  Calls Tryz.prog 112 #[.string s] w (zxA w (zfA s.data.toList)) := by
 by_cases h2 : s.size < 2
 ·have HR := Lib.hid (zrD s h2)
  go_enter Tryz.func112, Tryz.ntmps112
  go_wp2
  go_ret2
  exact zgK HR.out (by simp)
 ·have h2' : 2 ≤ s.size := by omega
  have l0 : 0 < s.size := by omega
  have l1 : 1 < s.size := by omega
  obtain ⟨a, ha⟩ : ∃ a, s[0].toNat = a := ⟨_, rfl⟩
  obtain ⟨c, hc⟩ : ∃ a, s[1].toNat = a := ⟨_, rfl⟩
  by_cases h48 : a = 48
  ·subst h48
   by_cases hx : c = 120 ∨ c = 88
   ·have HR := Lib.hid (zwF s h2' ha (by rw [hc]; exact hx))
    rcases hx with rfl | rfl
    all_goals
     go_enter Tryz.func112, Tryz.ntmps112
     go_wp2
     go_ret2
     exact zgK HR.out (zlM s 2)
   ·have HR := Lib.hid (zzX s h2' ha (by rw [hc]; exact hx))
    have b1 : ((c : Int) == 120) = false := beq_eq_false_iff_ne.2 (by omega)
    have b2 : ((c : Int) == 88) = false := beq_eq_false_iff_ne.2 (by omega)
    clear hx
    go_enter Tryz.func112, Tryz.ntmps112
    go_wp2
    go_ret2
    exact zgK HR.out (zlM s 1)
  ·have HR := Lib.hid (zzU s h2' (by rw [ha]; exact h48))
   have b1 : ((a : Int) != 48) = true := by rw [bne_iff_ne]; omega
   go_enter Tryz.func112, Tryz.ntmps112
   go_wp2
   go_ret2
   exact zgK HR.out (by simp)
def zyI (w : World) (x : Int × Bool) (e : Ending) (w' : World) : Prop := e = .returned (.tuple #[.int .u64 x.1, .bool x.2]) ∧ Below w.heap.size w w'
theorem zfW {w w' : World} {x : Int × Bool} {n : Int} {b : Bool} (h : x = (n, b)) (hb : Below w.heap.size w w') : zyI w x (.returned (.tuple #[.int .u64 n, .bool b])) w' := by
 subst h; exact ⟨rfl, hb⟩
end
section
open Go.RowKit
theorem zzO (l : List UInt8) (r : List UInt8) (b : Int) (h : zfA l = (r, b)) (hd : zbQ b r = false) : zbN l = (0, false) := by
 unfold zbN
 rw [h, hd]
 split <;> rfl
theorem zvI (l : List UInt8) (r : List UInt8) (b : Int) (h : zfA l = (r, b)) (hn : l ≠ []) (hd : zbQ b r = true) : zbN l = (numZ b r, true) := by
 unfold zbN
 rw [h, hd]
 cases l with
 | nil => exact absurd rfl hn
 | cons a t => rfl
theorem zqC (s : ByteArray) (h : s.size = 0) : s.data.toList = [] := List.length_eq_zero_iff.1 (by rw [zaK]; exact h)
theorem zeY (s : ByteArray) (h : s.size ≠ 0) : s.data.toList ≠ [] := fun e => h (by rw [← zaK, e]; rfl)
theorem z0H (s : ByteArray) : ByteArray.mk s.data.toList.toArray = s := by simp
theorem zaJ (l : List UInt8) : (ByteArray.mk l.toArray).data.toList = l := by simp
theorem zcX (s : ByteArray) (h : s.size = 0) : s = ⟨#[]⟩ := by
 apply ByteArray.ext
 apply Array.ext'
 exact zqC s h
theorem zdC (s : ByteArray) (h : s.size ≠ 0) : s.toList.isEmpty = false := by
 rw [ByteArray.toList_eq]
 cases hd : s.data.toList with
 | nil => exact absurd hd (zeY s h)
 | cons a l => rfl
theorem zvJ (s : ByteArray) (d : ByteArray) (b : Int) (w : World) (hs : s.size ≤ 1073741824) (hn : s.size ≠ 0) (hb : b = 8 ∨ b = 10 ∨ b = 16) (hr : zfA s.data.toList = (d.data.toList, b)) :
  Calls Tryz.prog 81 #[.string s] w (zyI w (zbN s.data.toList)) := by
 have HR := Lib.hid hr
 have HNO := Lib.hid (zzO s.data.toList _ b hr)
 have HYES := Lib.hid (zvI s.data.toList _ b hr (zeY s hn))
 have hse := zdC s hn
 clear hr hn
 have hb1 : 8 ≤ b := by omega
 have hb2 : b ≤ 16 := by omega
 clear hb
 go_enter Tryz.func81, Tryz.ntmps81
 go_wp2_with fail
 refine (zjQ s _ hs).mono ?_
 rw [HR.out]
 rintro e w' ⟨rfl, rfl⟩
 simp only [z0H]
 go_wp2
 go_loopw [6] (fun n wr => ∃ (k : Nat) (A : Int), n = .int .u64 A ∧ 0 ≤ A ∧ A ≤ 1099511627776 ∧ k ≤ d.size ∧ wr.heap[w.heap.size]? = some (.stringIter d k) ∧ Below w.heap.size w wr ∧ w.heap.size + 1 ≤ wr.heap.size ∧ Hid (A = numZ b (d.data.toList.take k)) ∧ Hid (zbQ b (d.data.toList.take k) = true)) (fun _ wr => d.size - wr.iterPos w.heap.size)
 case atStart => exact ⟨0, 0, rfl, by omega, by omega, Nat.zero_le _, World.iter_heap w d 0, (Below.refl _ w).alloc (Nat.le_refl _) _, by simp [World.iter], rfl, rfl⟩
 case round =>
  obtain ⟨k, A, rfl, hA0, hA1, hk, hit, hbw, hsz, HA, HDG⟩ := hrel
  by_cases hp : k < d.size
  ·obtain ⟨c, hc⟩ : ∃ c, (d[k]'hp).toNat = c := ⟨_, rfl⟩
   have hnx : ∀ ty, (Instr.next (.pointer (some ⟨w.heap.size, 0, none⟩)) true ty).run Tryz.prog wr = _ := fun ty => Lib.run_next_any_at wr w.heap.size d k ty hit hp
   by_cases hc128 : c < 128
   ·have hdec := decode_ascii d k hp (by omega)
    rw [hc] at hdec
    rw [hdec] at hnx
    have hit2 := Lib.iterAt_heap wr w.heap.size d k (k + 1) hit
    have hbw2 := Lib.below_iterAt hbw (k := w.heap.size) (Nat.le_refl _) d (k + 1)
    have hsz2 : w.heap.size + 1 ≤ (wr.iterAt w.heap.size d (k + 1)).heap.size := by rw [Lib.iterAt_size]; exact hsz
    simp only at hnx
    generalize wr.iterAt w.heap.size d (k + 1) = wi at *
    obtain ⟨v, hv⟩ : ∃ v, valZ (c : Int) = v := ⟨_, rfl⟩
    have hv16 : v < 16 := by rw [← hv]; exact ztA _
    have HV : Hid (valZ (d[k].toNat : Int) = v) := by show valZ (d[k].toNat : Int) = v; rw [hc]; exact hv
    have HIT := Lib.hid hit
    have HC := Lib.hid hc
    clear hit hc hdec
    by_cases h0 : v < 0
    ·have HF := Lib.hid (HNO.out (zdN b d k hp (zfC HV.out (.inl h0))))
     go_wp2_with (go_at_call 109; refine (zcC _ _).mono ?_; rintro e w' ⟨rfl, rfl⟩)
     go_ret2
     exact zfW HF.out hbw2
    ·by_cases h1 : b ≤ v
     ·have HF := Lib.hid (HNO.out (zdN b d k hp (zfC HV.out (.inr h1))))
      go_wp2_with (go_at_call 109; refine (zcC _ _).mono ?_; rintro e w' ⟨rfl, rfl⟩)
      go_ret2
      exact zfW HF.out hbw2
     ·have HF := Lib.hid (ziZ b d k hp HDG.out (zpH HV.out (by omega) (by omega)))
      have hsn := zyS b d k hp
      rw [← HA.out, z2J _ _ _ v HV.out] at hsn
      have HSN := Lib.hid hsn
      clear hsn
      have hP0 : 0 ≤ A * b := Int.mul_nonneg hA0 (by omega)
      have hP1 : A * b ≤ 1099511627776 * 16 := Int.mul_le_mul hA1 hb2 (by omega) (by omega)
      by_cases ht : 1099511627776 < A * b + v
      ·have HC2 := Lib.hid (HSN.out.trans (z5F ht))
       go_wp2_with (go_at_call 109; refine (zcC _ _).mono ?_; rintro e w' ⟨rfl, rfl⟩)
       go_roundw
       case rel => exact ⟨k + 1, 1099511627776, rfl, by omega, by omega, by omega, hit2, hbw2, hsz2, HC2.out.symm, HF⟩
       case measure =>
        simp only [World.iterPos, hit2, HIT.out]
        omega
      ·have HC2 := Lib.hid (HSN.out.trans (z4U ht))
       go_wp2_with (go_at_call 109; refine (zcC _ _).mono ?_; rintro e w' ⟨rfl, rfl⟩)
       go_roundw
       case rel => exact ⟨k + 1, _, rfl, by omega, by omega, by omega, hit2, hbw2, hsz2, HC2.out.symm, HF⟩
       case measure =>
        simp only [World.iterPos, hit2, HIT.out]
        omega
   ·have hh := decode_high d k hp (by omega)
    obtain ⟨r, hr⟩ : ∃ r, (Utf8.decode d k).1 = r := ⟨_, rfl⟩
    obtain ⟨wd, hwd⟩ : ∃ r, (Utf8.decode d k).2 = r := ⟨_, rfl⟩
    have hrl := decode_le d k
    rw [hr, hwd] at hnx
    rw [hr, hwd] at hh
    rw [hr] at hrl
    have hbw2 := Lib.below_iterAt hbw (k := w.heap.size) (Nat.le_refl _) d (k + wd)
    generalize wr.iterAt w.heap.size d (k + wd) = wi at *
    have hv : valZ (r : Int) = -1 := zhN _ (by omega)
    have HF := Lib.hid (HNO.out (zdN b d k hp (zfC (zhN _ (by omega)) (.inl (by omega)))))
    clear hc hr hwd
    go_wp2_with (go_at_call 109; refine (zcC _ _).mono ?_; rintro e w' ⟨rfl, rfl⟩)
    go_ret2
    exact zfW HF.out hbw2
  ·have hnx : ∀ ty, (Instr.next (.pointer (some ⟨w.heap.size, 0, none⟩)) true ty).run Tryz.prog wr = _ := fun ty => Lib.run_next_end_at wr w.heap.size d k ty hit hp
   have hdt := HDG.out
   rw [zdP d k hp] at hdt
   have hat := HA.out
   rw [zdP d k hp] at hat
   have HF := Lib.hid (HYES.out hdt)
   have HAT := Lib.hid hat
   clear hdt hat
   go_wp2
   go_ret2
   exact zfW (by rw [HF.out, HAT.out]) hbw
theorem zaL (s : ByteArray) (w : World) (hs : s.size ≤ 1073741824) :
  Calls Tryz.prog 81 #[.string s] w (zyI w (zbN s.data.toList)) := by
 by_cases hn : s.size = 0
 ·obtain rfl := zcX s hn
  clear hn hs
  have HF : Hid (zbN (ByteArray.mk #[]).data.toList = (0, false)) := rfl
  go_enter Tryz.func81, Tryz.ntmps81
  go_wp2
  go_ret2
  exact zfW HF.out (Below.refl _ _)
 ·obtain ⟨⟨r, b⟩, hr⟩ : ∃ x, zfA s.data.toList = x := ⟨_, rfl⟩
  have hb := zlZ s.data.toList
  rw [hr] at hb
  exact zvJ s ⟨r.toArray⟩ b w hs hn hb (by rw [zaJ]; exact hr)
end
section
open Go.RowKit
def decN (l : List UInt8) : Int := l.foldl (fun n c => n * 10 + valZ (c.toNat : Int)) 0
def decZ (l : List UInt8) (m : Int) : Int × Bool :=
 if (l.isEmpty || (decide (1 < l.length) && decide ((l.getD 0 0).toNat = 48)) || !zbQ 10 l) = true then (0, false) else if m < decN l then (0, false) else (decN l, true)
theorem zxM (s : ByteArray) (k : Nat) (h : k < s.size) : decN (s.data.toList.take (k + 1)) = decN (s.data.toList.take k) * 10 + valZ (s[k].toNat : Int) := by
 rw [zdT s k h]; simp [decN]
theorem zpC (l : List UInt8) : ∀ a : Int, 0 ≤ a → zbQ 10 l = true → a ≤ l.foldl (fun n c => n * 10 + valZ (c.toNat : Int)) a := by
 induction l with
 | nil => intro a _ _; exact Int.le_refl _
 | cons c l ih =>
  intro a ha hd
  have h1 : digC 10 c = true ∧ zbQ 10 l = true := by simpa [zbQ] using hd
  have h2 := of_decide_eq_true h1.1
  have := ih (a * 10 + valZ (c.toNat : Int)) (by omega) h1.2
  exact Int.le_trans (by omega) this
theorem zkN (l : List UInt8) (hd : zbQ 10 l = true) : 0 ≤ decN l := zpC l 0 (Int.le_refl _) hd
theorem zvQ (b : Int) (l : List UInt8) (k : Nat) : zbQ b l = (zbQ b (l.take k) && zbQ b (l.drop k)) := by
 unfold zbQ
 rw [← List.all_append, List.take_append_drop]
theorem ziO (l : List UInt8) (k : Nat) (hd : zbQ 10 l = true) : decN (l.take k) ≤ decN l := by
 have h := zvQ 10 l k
 rw [hd] at h
 have h2 : zbQ 10 (l.take k) = true ∧ zbQ 10 (l.drop k) = true := by simpa using h.symm
 have e : decN l = (l.drop k).foldl (fun n c => n * 10 + valZ (c.toNat : Int)) (decN (l.take k)) := by
  unfold decN
  rw [← List.foldl_append, List.take_append_drop]
 rw [e]
 exact zpC _ _ (zkN _ h2.1) h2.2
theorem znK (l : List UInt8) (m : Int) (h : l = [] ∨ (1 < l.length ∧ (l.getD 0 0).toNat = 48)) : decZ l m = (0, false) := by
 unfold decZ
 rw [if_pos]
 rcases h with rfl | ⟨h1, h2⟩
 ·rfl
 ·rw [decide_eq_true h1, decide_eq_true h2]; simp
theorem zsU (l : List UInt8) (m : Int) (h : zbQ 10 l = false) : decZ l m = (0, false) := by
 unfold decZ
 rw [if_pos (by rw [h]; simp)]
theorem z1M (l : List UInt8) (m : Int) (k : Nat) (h : m < decN (l.take k)) : decZ l m = (0, false) := by
 by_cases hd : zbQ 10 l = true
 ·unfold decZ
  split
  ·rfl
  ·rw [if_pos]
   have := ziO l k hd
   omega
 ·exact zsU l m (by simpa using hd)
theorem z3B (l : List UInt8) (m : Int) (h0 : l ≠ []) (h1 : ¬ (1 < l.length ∧ (l.getD 0 0).toNat = 48)) (hd : zbQ 10 l = true) (hm : decN l ≤ m) : decZ l m = (decN l, true) := by
 unfold decZ
 rw [if_neg, if_neg (by omega)]
 rw [hd]
 cases l with
 | nil => exact absurd rfl h0
 | cons a r =>
  by_cases e1 : 1 < (a :: r).length
  ·rw [decide_eq_true e1, decide_eq_false (fun e => h1 ⟨e1, e⟩)]; simp
  ·rw [decide_eq_false e1]; simp
theorem zoV (s : ByteArray) (h : 0 < s.size) : (s.data.toList.getD 0 0).toNat = s[0].toNat := by
 rw [List.getD, ziY s 0 h]; rfl
theorem zvW (r : Int) : zdA r = decide (0 ≤ valZ r ∧ valZ r < 10) := by
 unfold zdA valZ
 by_cases h : 48 ≤ r ∧ r ≤ 57
 ·rw [if_pos h, decide_eq_true h, decide_eq_true (by omega)]
 ·rw [if_neg h, decide_eq_false h]
  refine (decide_eq_false ?_).symm
  repeat' split
  all_goals omega
theorem zgS (c : UInt8) : digC 10 c = zdA (c.toNat : Int) := (zvW _).symm
theorem zoT {r : Int} (h : zdA r = true) : 48 ≤ r ∧ r ≤ 57 := of_decide_eq_true h
theorem zlF {r : Int} (h1 : 48 ≤ r) (h2 : r ≤ 57) : valZ r = r - 48 := if_pos ⟨h1, h2⟩
theorem zfP (r : Int) (h : 128 ≤ r) : zdA r = false := decide_eq_false (by omega)
def zzJ (w : World) (x : Int × Bool) (e : Ending) (w' : World) : Prop := e = .returned (.tuple #[.int .i64 x.1, .bool x.2]) ∧ Below w.heap.size w w'
theorem zdY {w w' : World} {x : Int × Bool} {n : Int} {b : Bool} (h : x = (n, b)) (hb : Below w.heap.size w w') : zzJ w x (.returned (.tuple #[.int .i64 n, .bool b])) w' := by
 subst h; exact ⟨rfl, hb⟩
theorem zpS (s : ByteArray) (m : Int) (w : World) (hs : s.size ≤ 1073741824) (hm : m ≤ 9223372036854775807) (hm0 : -9223372036854775808 ≤ m) (hn : 1 ≤ s.size) (hz : ¬ (1 < s.size ∧ s[0].toNat = 48)) :
  Calls Tryz.prog 164 #[.string s, .int .i64 m] w (zzJ w (decZ s.data.toList m)) := by
 have HNO := Lib.hid (zsU s.data.toList m)
 have HBIG := Lib.hid (z1M s.data.toList m)
 have HYES := Lib.hid (z3B s.data.toList m (zeY s (by omega)) (by rw [zaK, zoV s (by omega)]; exact hz))
 have hse := zdC s (by omega)
 have l0 : 0 < s.size := by omega
 obtain ⟨a, ha⟩ : ∃ a, s[0].toNat = a := ⟨_, rfl⟩
 rw [ha] at hz
 rcases (show s.size ≤ 1 ∨ (1 < s.size ∧ ((a : Int) == 48) = false) from by
   by_cases h1 : 1 < s.size
   ·exact .inr ⟨h1, beq_eq_false_iff_ne.2 (fun e => hz ⟨h1, by omega⟩)⟩
   ·exact .inl (by omega)) with h1 | ⟨h1, hb1⟩
 all_goals
  clear hz
  go_enter Tryz.func164, Tryz.ntmps164
  go_wp2
  go_loopw [6] (fun n wr => ∃ (k : Nat) (A : Int), n = .int .i64 A ∧ 0 ≤ A ∧ (A = 0 ∨ A ≤ m) ∧ k ≤ s.size ∧ wr.heap[w.heap.size]? = some (.stringIter s k) ∧ Below w.heap.size w wr ∧ w.heap.size + 1 ≤ wr.heap.size ∧ Hid (A = decN (s.data.toList.take k)) ∧ Hid (zbQ 10 (s.data.toList.take k) = true) ∧ Hid (1 ≤ k → A ≤ m)) (fun _ wr => s.size - wr.iterPos w.heap.size)
  case atStart => exact ⟨0, 0, rfl, by omega, .inl rfl, Nat.zero_le _, World.iter_heap w s 0, (Below.refl _ w).alloc (Nat.le_refl _) _, by simp [World.iter], rfl, rfl, fun h => absurd h (by omega)⟩
  case round =>
   obtain ⟨k, A, rfl, hA0, hA1, hk, hit, hbw, hsz, HA, HDG, HK⟩ := hrel
   have hA2 : A ≤ 9223372036854775807 := by omega
   clear hA1
   by_cases hp : k < s.size
   ·obtain ⟨c, hc⟩ : ∃ c, (s[k]'hp).toNat = c := ⟨_, rfl⟩
    have hnx : ∀ ty, (Instr.next (.pointer (some ⟨w.heap.size, 0, none⟩)) true ty).run Tryz.prog wr = _ := fun ty => Lib.run_next_any_at wr w.heap.size s k ty hit hp
    by_cases hc128 : c < 128
    ·have hdec := decode_ascii s k hp (by omega)
     rw [hc] at hdec
     rw [hdec] at hnx
     have hit2 := Lib.iterAt_heap wr w.heap.size s k (k + 1) hit
     have hbw2 := Lib.below_iterAt hbw (k := w.heap.size) (Nat.le_refl _) s (k + 1)
     have hsz2 : w.heap.size + 1 ≤ (wr.iterAt w.heap.size s (k + 1)).heap.size := by rw [Lib.iterAt_size]; exact hsz
     simp only at hnx
     generalize wr.iterAt w.heap.size s (k + 1) = wi at *
     have HIT := Lib.hid hit
     have HC := Lib.hid hc
     clear hit hc hdec
     cases hdg : zdA (c : Int) with
     | false =>
      have HF := Lib.hid (HNO.out (zdN 10 s k hp (by rw [zgS, HC.out]; exact hdg)))
      go_wp2_with (go_at_call 111; refine (zdI _ _).mono ?_; rintro e w' ⟨rfl, rfl⟩)
      go_ret2
      exact zdY HF.out hbw2
     | true =>
      obtain ⟨hc1, hc2⟩ := zoT hdg
      have hv : valZ (c : Int) = (c : Int) - 48 := zlF hc1 hc2
      have HF := Lib.hid (ziZ 10 s k hp HDG.out (by rw [zgS, HC.out]; exact hdg))
      have hsn := zxM s k hp
      rw [← HA.out, HC.out, hv] at hsn
      have HSN := Lib.hid hsn
      clear hsn
      obtain ⟨v, hvv⟩ : ∃ v : Int, (c : Int) - 48 = v := ⟨_, rfl⟩
      have hv0 : 0 ≤ v := by omega
      have hv9 : v ≤ 9 := by omega
      rw [hvv] at hv
      have HVV := Lib.hid hvv
      clear hvv
      by_cases hg : m < A * 10 + v
      ·have HB := Lib.hid (HBIG.out (k + 1) (by rw [HSN.out, HVV.out]; exact hg))
       by_cases hg1 : m < v
       ·go_wp2_with (first | (go_at_call 111; refine (zdI _ _).mono ?_; rintro e w' ⟨rfl, rfl⟩) | (go_at_call 109; refine (zcC _ _).mono ?_; rintro e w' ⟨rfl, rfl⟩))
        go_ret2
        exact zdY HB.out hbw2
       ·have hg2 : (m - v) / 10 < A := by omega
        go_wp2_with (first | (go_at_call 111; refine (zdI _ _).mono ?_; rintro e w' ⟨rfl, rfl⟩) | (go_at_call 109; refine (zcC _ _).mono ?_; rintro e w' ⟨rfl, rfl⟩))
        go_ret2
        exact zdY HB.out hbw2
      ·have hg1 : ¬ m < v := by omega
       have hg2 : ¬ (m - v) / 10 < A := by omega
       go_wp2_with (first | (go_at_call 111; refine (zdI _ _).mono ?_; rintro e w' ⟨rfl, rfl⟩) | (go_at_call 109; refine (zcC _ _).mono ?_; rintro e w' ⟨rfl, rfl⟩))
       go_roundw
       case rel => exact ⟨k + 1, A * 10 + v, rfl, by omega, by omega, by omega, hit2, hbw2, hsz2, (by show _ = _; rw [HSN.out, HVV.out]), HF, fun _ => by omega⟩
       case measure =>
        simp only [World.iterPos, hit2, HIT.out]
        omega
    ·have hh := decode_high s k hp (by omega)
     obtain ⟨r, hr⟩ : ∃ r, (Utf8.decode s k).1 = r := ⟨_, rfl⟩
     obtain ⟨wd, hwd⟩ : ∃ r, (Utf8.decode s k).2 = r := ⟨_, rfl⟩
     have hrl := decode_le s k
     rw [hr, hwd] at hnx
     rw [hr, hwd] at hh
     rw [hr] at hrl
     have hbw2 := Lib.below_iterAt hbw (k := w.heap.size) (Nat.le_refl _) s (k + wd)
     generalize wr.iterAt w.heap.size s (k + wd) = wi at *
     have hv : zdA (r : Int) = false := zfP _ (by omega)
     have HF := Lib.hid (HNO.out (zdN 10 s k hp (by rw [zgS]; exact zfP _ (by omega))))
     clear hc hr hwd
     go_wp2_with (go_at_call 111; refine (zdI _ _).mono ?_; rintro e w' ⟨rfl, rfl⟩)
     go_ret2
     exact zdY HF.out hbw2
   ·have hnx : ∀ ty, (Instr.next (.pointer (some ⟨w.heap.size, 0, none⟩)) true ty).run Tryz.prog wr = _ := fun ty => Lib.run_next_end_at wr w.heap.size s k ty hit hp
    have hdt := HDG.out
    rw [zdP s k hp] at hdt
    have hat := HA.out
    rw [zdP s k hp] at hat
    have HF := Lib.hid (HYES.out hdt (by rw [← hat]; exact HK.out (by omega)))
    have HAT := Lib.hid hat
    clear hdt hat
    go_wp2
    go_ret2
    exact zdY (by rw [HF.out, HAT.out]) hbw
theorem zcB (s : ByteArray) (m : Int) (w : World) (hs : s.size ≤ 1073741824) (hm : m ≤ 9223372036854775807) (hm0 : -9223372036854775808 ≤ m) :
  Calls Tryz.prog 164 #[.string s, .int .i64 m] w (zzJ w (decZ s.data.toList m)) := by
 by_cases hn : s.size = 0
 ·obtain rfl := zcX s hn
  have HF := Lib.hid (znK (ByteArray.mk #[]).data.toList m (.inl rfl))
  clear hn hs
  go_enter Tryz.func164, Tryz.ntmps164
  go_wp2
  go_ret2
  exact zdY HF.out (Below.refl _ _)
 ·by_cases hz : 1 < s.size ∧ s[0].toNat = 48
  ·obtain ⟨h1, h0⟩ := hz
   have HF := Lib.hid (znK s.data.toList m (.inr ⟨by rw [zaK]; exact h1, by rw [zoV s (by omega)]; exact h0⟩))
   have hse := zdC s hn
   have l0 : 0 < s.size := by omega
   go_enter Tryz.func164, Tryz.ntmps164
   go_wp2
   go_ret2
   exact zdY HF.out (Below.refl _ _)
  ·exact zpS s m w hs hm hm0 (by omega) hz
end
section
open Go.RowKit
def zeB (l : List UInt8) : Bool := !l.isEmpty && zbQ 10 l
theorem zxY {l : List UInt8} (h : zbQ 10 l = false) : zeB l = false := by unfold zeB; rw [h]; simp
theorem zvA {s : ByteArray} (hn : s.size ≠ 0) (h : zbQ 10 s.data.toList = true) : zeB s.data.toList = true := by
 unfold zeB; rw [h]
 cases hd : s.data.toList with
 | nil => exact absurd hd (zeY s hn)
 | cons a l => rfl
def zdK (w : World) (b : Bool) (e : Ending) (w' : World) : Prop := e = .returned (.bool b) ∧ Below w.heap.size w w'
theorem zaY {w w' : World} {x b : Bool} (h : x = b) (hb : Below w.heap.size w w') : zdK w x (.returned (.bool b)) w' := by
 subst h; exact ⟨rfl, hb⟩
theorem zfE (s : ByteArray) (w : World) (hs : s.size ≤ 1073741824) :
  Calls Tryz.prog 80 #[.string s] w (zdK w (zeB s.data.toList)) := by
 by_cases hn : s.size = 0
 ·obtain rfl := zcX s hn
  have HF : Hid (zeB (ByteArray.mk #[]).data.toList = false) := rfl
  clear hn hs
  go_enter Tryz.func80, Tryz.ntmps80
  go_wp2
  go_loopw [] (fun wr => wr.heap[w.heap.size]? = some (.stringIter ⟨#[]⟩ 0) ∧ Below w.heap.size w wr) (fun _ => 0)
  case atStart => exact ⟨World.iter_heap w ⟨#[]⟩ 0, (Below.refl _ w).alloc (Nat.le_refl _) _⟩
  case round =>
   obtain ⟨hit, hbw⟩ := hrel
   have hnx : ∀ ty, (Instr.next (.pointer (some ⟨w.heap.size, 0, none⟩)) true ty).run Tryz.prog wr = _ := fun ty => Lib.run_next_end_at wr w.heap.size ⟨#[]⟩ 0 ty hit (by decide)
   go_wp2
   go_ret
   exact zaY HF.out hbw
 ·have HNO := Lib.hid (zxY (l := s.data.toList))
  have HYES := Lib.hid (zvA hn)
  have hse := zdC s hn
  clear hn
  go_enter Tryz.func80, Tryz.ntmps80
  go_wp2
  go_loopw [] (fun wr => ∃ (k : Nat), k ≤ s.size ∧ wr.heap[w.heap.size]? = some (.stringIter s k) ∧ Below w.heap.size w wr ∧ w.heap.size + 1 ≤ wr.heap.size ∧ Hid (zbQ 10 (s.data.toList.take k) = true)) (fun wr => s.size - wr.iterPos w.heap.size)
  case atStart => exact ⟨0, Nat.zero_le _, World.iter_heap w s 0, (Below.refl _ w).alloc (Nat.le_refl _) _, by simp [World.iter], rfl⟩
  case round =>
   obtain ⟨k, hk, hit, hbw, hsz, HDG⟩ := hrel
   by_cases hp : k < s.size
   ·obtain ⟨c, hc⟩ : ∃ c, (s[k]'hp).toNat = c := ⟨_, rfl⟩
    have hnx : ∀ ty, (Instr.next (.pointer (some ⟨w.heap.size, 0, none⟩)) true ty).run Tryz.prog wr = _ := fun ty => Lib.run_next_any_at wr w.heap.size s k ty hit hp
    by_cases hc128 : c < 128
    ·have hdec := decode_ascii s k hp (by omega)
     rw [hc] at hdec
     rw [hdec] at hnx
     have hit2 := Lib.iterAt_heap wr w.heap.size s k (k + 1) hit
     have hbw2 := Lib.below_iterAt hbw (k := w.heap.size) (Nat.le_refl _) s (k + 1)
     have hsz2 : w.heap.size + 1 ≤ (wr.iterAt w.heap.size s (k + 1)).heap.size := by rw [Lib.iterAt_size]; exact hsz
     simp only at hnx
     generalize wr.iterAt w.heap.size s (k + 1) = wi at *
     have HIT := Lib.hid hit
     have HC := Lib.hid hc
     clear hit hc hdec
     cases hdg : zdA (c : Int) with
     | false =>
      have HF := Lib.hid (HNO.out (zdN 10 s k hp (by rw [zgS, HC.out]; exact hdg)))
      go_wp2_with (go_at_call 111; refine (zdI _ _).mono ?_; rintro e w' ⟨rfl, rfl⟩)
      go_ret
      exact zaY HF.out hbw2
     | true =>
      have HF := Lib.hid (ziZ 10 s k hp HDG.out (by rw [zgS, HC.out]; exact hdg))
      go_wp2_with (go_at_call 111; refine (zdI _ _).mono ?_; rintro e w' ⟨rfl, rfl⟩)
      go_roundw
      case rel => exact ⟨k + 1, by omega, hit2, hbw2, hsz2, HF⟩
      case measure =>
       simp only [World.iterPos, hit2, HIT.out]
       omega
    ·have hh := decode_high s k hp (by omega)
     obtain ⟨r, hr⟩ : ∃ r, (Utf8.decode s k).1 = r := ⟨_, rfl⟩
     obtain ⟨wd, hwd⟩ : ∃ r, (Utf8.decode s k).2 = r := ⟨_, rfl⟩
     have hrl := decode_le s k
     rw [hr, hwd] at hnx
     rw [hr, hwd] at hh
     rw [hr] at hrl
     have hbw2 := Lib.below_iterAt hbw (k := w.heap.size) (Nat.le_refl _) s (k + wd)
     generalize wr.iterAt w.heap.size s (k + wd) = wi at *
     have hv : zdA (r : Int) = false := zfP _ (by omega)
     have HF := Lib.hid (HNO.out (zdN 10 s k hp (by rw [zgS]; exact zfP _ (by omega))))
     clear hc hr hwd
     go_wp2_with (go_at_call 111; refine (zdI _ _).mono ?_; rintro e w' ⟨rfl, rfl⟩)
     go_ret
     exact zaY HF.out hbw2
   ·have hnx : ∀ ty, (Instr.next (.pointer (some ⟨w.heap.size, 0, none⟩)) true ty).run Tryz.prog wr = _ := fun ty => Lib.run_next_end_at wr w.heap.size s k ty hit hp
    have hdt := HDG.out
    rw [zdP s k hp] at hdt
    have HF := Lib.hid (HYES.out hdt)
    clear hdt
    go_wp2
    go_ret
    exact zaY HF.out hbw
end
section
open Go.RowKit
def zhE (ps : List (List UInt8)) : List UInt8 :=
 if 1 < ps.length ∧ ps.getD (ps.length - 1) [] = [] then ps.getD (ps.length - 2) [] else ps.getD (ps.length - 1) []
def zaF (l : List UInt8) : List (List UInt8) := splitB (hasB [46]) l
def zoQ (x : List UInt8) : Bool := zeB x || (zbN x).2
def ziP (l : List UInt8) : Bool := zoQ (zhE (zaF l))
theorem z1Q (p : UInt8 → Bool) (l : List UInt8) : ∀ st : List (List UInt8) × List UInt8, (∀ x ∈ (l.foldl (zaT p) st).1, x ∈ st.1 ∨ x.length ≤ st.2.length + l.length) ∧ (l.foldl (zaT p) st).2.length ≤ st.2.length + l.length := by
 induction l with
 | nil => intro st; exact ⟨fun x hx => .inl hx, by simp⟩
 | cons c l ih =>
  intro st
  simp only [List.foldl_cons, List.length_cons]
  have h := ih (zaT p st c)
  by_cases hp : p c = true
  ·have e : zaT p st c = (st.1 ++ [st.2], []) := by simp [zaT, hp]
   rw [e] at h ⊢
   refine ⟨fun x hx => ?_, by have := h.2; simp at this; omega⟩
   rcases h.1 x hx with h1 | h1
   ·simp at h1
    rcases h1 with h1 | h1
    ·exact .inl h1
    ·subst h1; exact .inr (by omega)
   ·simp at h1; exact .inr (by omega)
  ·have e : zaT p st c = (st.1, st.2 ++ [c]) := by simp [zaT, hp]
   rw [e] at h ⊢
   refine ⟨fun x hx => ?_, by have := h.2; simp at this; omega⟩
   rcases h.1 x hx with h1 | h1
   ·exact .inl h1
   ·simp at h1; exact .inr (by omega)
theorem z2D (p : UInt8 → Bool) (l x : List UInt8) (h : x ∈ splitB p l) : x.length ≤ l.length := by
 have k := z1Q p l ([], [])
 unfold splitB at h
 rcases List.mem_append.1 h with h | h
 ·rcases k.1 x h with h | h
  ·simp at h
  ·simpa using h
 ·simp at h
  subst h
  exact Nat.le_trans k.2 (by simp)
theorem zbT (p : UInt8 → Bool) (l : List UInt8) (j : Nat) : ((splitB p l).getD j []).length ≤ l.length := by
 by_cases h : j < (splitB p l).length
 ·refine z2D p l _ ?_
  rw [List.getD, List.getElem?_eq_getElem h]
  exact List.getElem_mem h
 ·rw [List.getD, List.getElem?_eq_none (by omega)]
  simp
/-- what number.Ends reads of the parts -/
theorem zoX (n : Nat) (x : List UInt8) (ps : List (List UInt8)) (h : ps.length = n + 1) (hx : ps.getD n [] = x) (hc : n = 0 ∨ x ≠ []) : zhE ps = x := by
 unfold zhE
 rw [h, Nat.add_sub_cancel, hx, if_neg]
 rintro ⟨h1, h2⟩
 rcases hc with h3 | h3
 ·omega
 ·exact h3 h2
theorem zrL (n : Nat) (y : List UInt8) (ps : List (List UInt8)) (h : ps.length = n + 2) (hx : ps.getD (n + 1) [] = []) (hy : ps.getD n [] = y) : zhE ps = y := by
 unfold zhE
 rw [h, show n + 2 - 1 = n + 1 from rfl, hx, if_pos ⟨by omega, rfl⟩, show n + 2 - 2 = n from rfl, hy]
theorem zcY {x : List UInt8} (h : x ≠ []) : x.isEmpty = false := by cases x with | nil => exact absurd rfl h | cons a l => rfl
/-- the last part's ways: its digits alone, or a number -/
theorem zgU {x : List UInt8} (h : zeB x = true) : zoQ x = true := by unfold zoQ; rw [h]; rfl
theorem zgT {x : List UInt8} {b : Bool} (h : zeB x = false) (hb : (zbN x).2 = b) : zoQ x = b := by unfold zoQ; rw [h, hb]; rfl
end
section
open Go.RowKit
theorem z2R (s : ByteArray) (w : World) (hs : s.size ≤ 1073741824) (x : List UInt8) (hl : (zaF s.data.toList).length = 1) (hx : (zaF s.data.toList).getD 0 [] = x) :
  Calls Tryz.prog 55 #[.string s] w (zdK w (ziP s.data.toList)) := by
 have hxl : x.length ≤ s.size := by rw [← hx, ← zaK]; exact zbT _ _ _
 have HE0 := Lib.hid (show ziP s.data.toList = zoQ x from by unfold ziP; rw [zoX 0 x _ hl hx (.inl rfl)])
 have HL := Lib.hid hl
 have HX := Lib.hid hx
 clear hl hx
 go_enter Tryz.func55, Tryz.ntmps55
 go_wp2_with fail
 refine (zcE s _ _ hs).mono ?_
 rintro e w1 ⟨v, rfl, hp, hb1⟩
 have hp' : zbY w.heap.size w1 v (zaF s.data.toList) := hp
 obtain ⟨g, cap, rfl, hg, hcell⟩ := hp'.form (by rw [HL.out]; omega)
 rw [HL.out]
 rw [HL.out] at hcell
 have hcx := hcell 0 (by omega)
 rw [HX.out] at hcx
 clear hcell hp hp'
 by_cases haz : zeB x = true
 -- digits alone
 ·have HE := Lib.hid (HE0.out.trans (zgU haz))
  have HAZ := Lib.hid haz
  clear haz
  go_wp2_with fail
  refine (zfE ⟨x.toArray⟩ _ (by rw [zaH]; omega)).mono ?_
  rw [zaJ, HAZ.out]
  rintro e w2 ⟨rfl, hb2⟩
  have hc2 : Below w.heap.size w w2 := hb1.trans (hb2.mono hb1.size)
  clear hb1 hb2
  go_wp2
  go_ret
  exact zaY HE.out hc2
 ·have haf : zeB x = false := by simpa using haz
  have HE := Lib.hid (HE0.out.trans (zgT haf rfl))
  have HAZ := Lib.hid haf
  clear haz haf
  go_wp2_with fail
  refine (zfE ⟨x.toArray⟩ _ (by rw [zaH]; omega)).mono ?_
  rw [zaJ, HAZ.out]
  rintro e w2 ⟨rfl, hb2⟩
  have hc2 : Below w.heap.size w w2 := hb1.trans (hb2.mono hb1.size)
  have hcx2 := (hb2.cell (p := ⟨g, 0, none⟩) hg).trans hcx
  clear hb1 hb2 hcx
  go_wp2_with fail
  refine (zaL ⟨x.toArray⟩ _ (by rw [zaH]; omega)).mono ?_
  rw [zaJ]
  rintro e w3 ⟨rfl, hb3⟩
  have hc3 : Below w.heap.size w w3 := hc2.trans (hb3.mono hc2.size)
  clear hc2 hb3 hcx2
  go_wp2
  go_ret
  exact zaY HE.out hc3
theorem ztM (s : ByteArray) (w : World) (hs : s.size ≤ 1073741824) (n : Nat) (x : List UInt8) (hl : (zaF s.data.toList).length = n + 2) (hx : (zaF s.data.toList).getD (n + 1) [] = x) (hne : x ≠ []) :
  Calls Tryz.prog 55 #[.string s] w (zdK w (ziP s.data.toList)) := by
 have hxl : x.length ≤ s.size := by rw [← hx, ← zaK]; exact zbT _ _ _
 have HE0 := Lib.hid (show ziP s.data.toList = zoQ x from by unfold ziP; rw [zoX (n + 1) x _ hl hx (.inr hne)])
 have hxe : x.isEmpty = false := zcY hne
 have HL := Lib.hid hl
 have HX := Lib.hid hx
 clear hl hx hne
 have hnb : n ≤ 1073741824 := by
  have h1 := zcL (hasB [46]) s.data.toList
  rw [zaK] at h1
  have h2 := HL.out
  unfold zaF at h2
  omega
 go_enter Tryz.func55, Tryz.ntmps55
 go_wp2_with fail
 refine (zcE s _ _ hs).mono ?_
 rintro e w1 ⟨v, rfl, hp, hb1⟩
 have hp' : zbY w.heap.size w1 v (zaF s.data.toList) := hp
 obtain ⟨g, cap, rfl, hg, hcell⟩ := hp'.form (by rw [HL.out]; omega)
 rw [HL.out]
 rw [HL.out] at hcell
 have hcx := hcell (n + 1) (by omega)
 rw [HX.out] at hcx
 clear hcell hp hp'
 by_cases haz : zeB x = true
 -- digits alone
 ·have HE := Lib.hid (HE0.out.trans (zgU haz))
  have HAZ := Lib.hid haz
  clear haz
  go_wp2_with fail
  refine (zfE ⟨x.toArray⟩ _ (by rw [zaH]; omega)).mono ?_
  rw [zaJ, HAZ.out]
  rintro e w2 ⟨rfl, hb2⟩
  have hc2 : Below w.heap.size w w2 := hb1.trans (hb2.mono hb1.size)
  clear hb1 hb2
  go_wp2
  go_ret
  exact zaY HE.out hc2
 ·have haf : zeB x = false := by simpa using haz
  have HE := Lib.hid (HE0.out.trans (zgT haf rfl))
  have HAZ := Lib.hid haf
  clear haz haf
  go_wp2_with fail
  refine (zfE ⟨x.toArray⟩ _ (by rw [zaH]; omega)).mono ?_
  rw [zaJ, HAZ.out]
  rintro e w2 ⟨rfl, hb2⟩
  have hc2 : Below w.heap.size w w2 := hb1.trans (hb2.mono hb1.size)
  have hcx2 := (hb2.cell (p := ⟨g, (n + 1), none⟩) hg).trans hcx
  clear hb1 hb2 hcx
  go_wp2_with fail
  refine (zaL ⟨x.toArray⟩ _ (by rw [zaH]; omega)).mono ?_
  rw [zaJ]
  rintro e w3 ⟨rfl, hb3⟩
  have hc3 : Below w.heap.size w w3 := hc2.trans (hb3.mono hc2.size)
  clear hc2 hb3 hcx2
  go_wp2
  go_ret
  exact zaY HE.out hc3
theorem znS (s : ByteArray) (w : World) (hs : s.size ≤ 1073741824) (n : Nat) (x : List UInt8) (hl : (zaF s.data.toList).length = n + 2) (hx : (zaF s.data.toList).getD n [] = x) (hy : (zaF s.data.toList).getD (n + 1) [] = []) :
  Calls Tryz.prog 55 #[.string s] w (zdK w (ziP s.data.toList)) := by
 have hxl : x.length ≤ s.size := by rw [← hx, ← zaK]; exact zbT _ _ _
 have HE0 := Lib.hid (show ziP s.data.toList = zoQ x from by unfold ziP; rw [zrL n x _ hl hy hx])
 have HL := Lib.hid hl
 have HX := Lib.hid hx
 have HY := Lib.hid hy
 clear hl hx hy
 have hnb : n ≤ 1073741824 := by
  have h1 := zcL (hasB [46]) s.data.toList
  rw [zaK] at h1
  have h2 := HL.out
  unfold zaF at h2
  omega
 go_enter Tryz.func55, Tryz.ntmps55
 go_wp2_with fail
 refine (zcE s _ _ hs).mono ?_
 rintro e w1 ⟨v, rfl, hp, hb1⟩
 have hp' : zbY w.heap.size w1 v (zaF s.data.toList) := hp
 obtain ⟨g, cap, rfl, hg, hcell⟩ := hp'.form (by rw [HL.out]; omega)
 rw [HL.out]
 rw [HL.out] at hcell
 have hcx := hcell n (by omega)
 rw [HX.out] at hcx
 have hcy := hcell (n + 1) (by omega)
 rw [HY.out] at hcy
 clear hcell hp hp'
 by_cases haz : zeB x = true
 -- digits alone
 ·have HE := Lib.hid (HE0.out.trans (zgU haz))
  have HAZ := Lib.hid haz
  clear haz
  go_wp2_with fail
  refine (zfE ⟨x.toArray⟩ _ (by rw [zaH]; omega)).mono ?_
  rw [zaJ, HAZ.out]
  rintro e w2 ⟨rfl, hb2⟩
  have hc2 : Below w.heap.size w w2 := hb1.trans (hb2.mono hb1.size)
  clear hb1 hb2
  go_wp2
  go_ret
  exact zaY HE.out hc2
 ·have haf : zeB x = false := by simpa using haz
  have HE := Lib.hid (HE0.out.trans (zgT haf rfl))
  have HAZ := Lib.hid haf
  clear haz haf
  go_wp2_with fail
  refine (zfE ⟨x.toArray⟩ _ (by rw [zaH]; omega)).mono ?_
  rw [zaJ, HAZ.out]
  rintro e w2 ⟨rfl, hb2⟩
  have hc2 : Below w.heap.size w w2 := hb1.trans (hb2.mono hb1.size)
  have hcx2 := (hb2.cell (p := ⟨g, n, none⟩) hg).trans hcx
  clear hb1 hb2 hcx
  go_wp2_with fail
  refine (zaL ⟨x.toArray⟩ _ (by rw [zaH]; omega)).mono ?_
  rw [zaJ]
  rintro e w3 ⟨rfl, hb3⟩
  have hc3 : Below w.heap.size w w3 := hc2.trans (hb3.mono hc2.size)
  clear hc2 hb3 hcx2
  go_wp2
  go_ret
  exact zaY HE.out hc3
theorem z1T (s : ByteArray) (w : World) (hs : s.size ≤ 1073741824) :
  Calls Tryz.prog 55 #[.string s] w (zdK w (ziP s.data.toList)) := by
 have h0 : 0 < (zaF s.data.toList).length := zhP _ _
 by_cases h1 : (zaF s.data.toList).length = 1
 ·exact z2R s w hs _ h1 rfl
 ·obtain ⟨n, hn⟩ : ∃ n, (zaF s.data.toList).length = n + 2 := ⟨(zaF s.data.toList).length - 2, by omega⟩
  by_cases he : (zaF s.data.toList).getD (n + 1) [] = []
  ·exact znS s w hs n _ hn rfl he
  ·exact ztM s w hs n _ hn rfl he
end
section
open Go.RowKit
end
section
open Go.RowKit
theorem p3_a : zbN [48, 120, 55, 102] = (127, true) := by decide +kernel
theorem p3_b : zbN [48, 49, 55] = (15, true) := by decide +kernel
theorem p3_c : zbN [48, 56] = (0, false) := by decide +kernel
theorem p3_d : ziP [97, 46, 48, 120] = true := by decide +kernel
theorem zuY (w : World) :
  Calls Tryz.prog 209 #[] w fun e w' => e = .returned (.bool true) ∧ Below w.heap.size w w' := by
 go_enter Tryz.func209, Tryz.ntmps209
 go_wp2_with fail
 refine (zqJ _).mono ?_
 rintro e w1 ⟨rfl, hb⟩
 go_wp2
 go_ret
 exact ⟨rfl, hb⟩
theorem zrR (w : World) :
  Calls Tryz.prog 208 #[] w fun e w' => e = .returned (.bool true) ∧ Below w.heap.size w w' := by
 go_enter Tryz.func208, Tryz.ntmps208
 go_wp2_with fail
 refine (zaL _ _ (by decide)).mono ?_
 rw [show zbN (ByteArray.mk #[48, 120, 55, 102]).data.toList = (127, true) from p3_a]
 rintro e w1 ⟨rfl, hb1⟩
 go_wp2_with fail
 refine (zaL _ _ (by decide)).mono ?_
 rw [show zbN (ByteArray.mk #[48, 49, 55]).data.toList = (15, true) from p3_b]
 rintro e w2 ⟨rfl, hb2⟩
 have hc2 : Below w.heap.size w w2 := hb1.trans (hb2.mono hb1.size)
 clear hb1 hb2
 go_wp2_with fail
 refine (zaL _ _ (by decide)).mono ?_
 rw [show zbN (ByteArray.mk #[48, 56]).data.toList = (0, false) from p3_c]
 rintro e w3 ⟨rfl, hb3⟩
 have hc3 : Below w.heap.size w w3 := hc2.trans (hb3.mono hc2.size)
 clear hc2 hb3
 go_wp2_with fail
 refine (zuY _).mono ?_
 rintro e w4 ⟨rfl, hb4⟩
 have hc4 : Below w.heap.size w w4 := hc3.trans (hb4.mono hc3.size)
 clear hc3 hb4
 go_wp2_with fail
 refine (z1T _ _ (by decide)).mono ?_
 rw [show ziP (ByteArray.mk #[97, 46, 48, 120]).data.toList = true from p3_d]
 rintro e w5 ⟨rfl, hb5⟩
 have hc5 : Below w.heap.size w w5 := hc4.trans (hb5.mono hc4.size)
 clear hc4 hb5
 go_wp2
 go_ret
 exact ⟨rfl, hc5⟩
theorem ztU (w : World) :
  Calls Tryz.prog 207 #[] w fun e w' => e = .returned (.bool true) ∧ Below w.heap.size w w' := by
 go_enter Tryz.func207, Tryz.ntmps207
 go_wp2_with fail
 refine (zrR _).mono ?_
 rintro e w1 ⟨rfl, hb⟩
 go_wp2
 go_ret
 exact ⟨rfl, hb⟩
end
section
open Go.RowKit
theorem ziC (p : UInt8 → Bool) (a b : List UInt8) : spl p (a ++ b) = b.foldl (zaT p) (spl p a) := by
 unfold spl; rw [List.foldl_append]
theorem z3C (p : UInt8 → Bool) (l : List UInt8) : ∀ (xs : List (List UInt8)) (t : List UInt8), (∀ c ∈ l, p c = false) → l.foldl (zaT p) (xs, t) = (xs, t ++ l) := by
 induction l with
 | nil => intro xs t _; simp
 | cons c l ih =>
  intro xs t h
  have hc := h c (by simp)
  simp only [List.foldl_cons, zaT, hc]
  rw [show (if false = true then (xs ++ [t], []) else (xs, t ++ [c])) = (xs, t ++ [c]) from rfl, ih _ _ (fun d hd => h d (by simp [hd]))]
  simp
theorem has46 (c : UInt8) : hasB [46] c = decide (c = 46) := by
 simp only [hasB, List.any_cons, List.any_nil, Bool.or_false]
 by_cases h : c = 46
 ·subst h; rfl
 ·rw [decide_eq_false h]; exact beq_eq_false_iff_ne.2 (fun e => h e.symm)
/-- the last part -/
def zqT (l : List UInt8) : List UInt8 := (spl (hasB [46]) l).2
theorem zkA (l : List UInt8) : zaF l = (spl (hasB [46]) l).1 ++ [zqT l] := rfl
theorem zwH (ps : List (List UInt8)) (t : List UInt8) : (ps ++ [t]).getD ps.length [] = t := by simp [List.getD]
theorem zvM (l : List UInt8) (c : UInt8) (h : c ≠ 46) : zqT (l ++ [c]) = zqT l ++ [c] := by
 unfold zqT
 rw [ziC]
 simp [zaT, has46, h]
theorem z0T (l : List UInt8) (hn : l ≠ []) (h : l.getLast hn ≠ 46) : zqT l ≠ [] := by
 conv => lhs; rw [← List.dropLast_concat_getLast hn]
 rw [zvM _ _ h]
 simp
theorem zvZ (l : List UInt8) : spl (hasB [46]) (l ++ [46]) = ((spl (hasB [46]) l).1 ++ [zqT l], []) := by
 rw [ziC]
 simp [zaT, has46, zqT]
theorem ztD (x y : ByteArray) : (x ++ y).data.toList = x.data.toList ++ y.data.toList := by simp
theorem znE (x y : ByteArray) : (x ++ y).size = x.size + y.size := by simp
end
end

end Go.Proofs.YtphapecoimlngaaGreatDoor
