/-
  Layer 2: what a set has (In), and a byte by % (Byte): the program's and the reference's.
-/
import Derived.Test.YtaojjkknmaldiaaDoorScalM
import Derived.IntWalk
namespace Go.Proofs.YtaojjkknmaldiaaDoor
open Go.RowKit


def hexN (n : Nat) : UInt8 := ([48, 49, 50, 51, 52, 53, 54, 55, 56, 57, 65, 66, 67, 68, 69, 70] : List UInt8).getD n 0
def pctB (c : UInt8) : List UInt8 := [37, hexN (c.toNat / 16), hexN (c.toNat % 16)]

theorem hex_at (n : Nat) (h : n < (ByteArray.mk #[48, 49, 50, 51, 52, 53, 54, 55, 56, 57, 65, 66, 67, 68, 69, 70]).size) : ((ByteArray.mk #[48, 49, 50, 51, 52, 53, 54, 55, 56, 57, 65, 66, 67, 68, 69, 70])[n]'h).toNat = (hexN n).toNat := by
  have key : ∀ n : Fin 16, ((ByteArray.mk #[48, 49, 50, 51, 52, 53, 54, 55, 56, 57, 65, 66, 67, 68, 69, 70])[n.val]'n.isLt).toNat = (hexN n.val).toNat := by decide
  exact key ⟨n, h⟩

set_option maxRecDepth 100000 in
set_option maxHeartbeats 1000000 in
theorem byte_any (c : UInt8) (w : World) :
    Calls Tryd.prog 51 #[.int .u8 (c.toNat : Int)] w fun e w' => e = .returned (.string ⟨(pctB c).toArray⟩) ∧ Below w.heap.size w w' := by
  obtain ⟨n, hn⟩ : ∃ n, c.toNat = n := ⟨_, rfl⟩
  have hc : n < 256 := by rw [← hn]; exact c.toNat_lt
  have hR : pctB c = [37, hexN (n / 16), hexN (n % 16)] := by unfold pctB; rw [hn]
  rw [hn, hR]
  clear hn hR c
  have h1 : (0 : Int) ≤ (n : Int) / 16 := by omega
  have h2 : (n : Int) / 16 < 16 := by omega
  have h3 : (0 : Int) ≤ (n : Int) % 16 := by omega
  have h4 : (n : Int) % 16 < 16 := by omega
  have k1 : n / 16 < (ByteArray.mk #[48, 49, 50, 51, 52, 53, 54, 55, 56, 57, 65, 66, 67, 68, 69, 70]).size := by show n / 16 < 16; omega
  have k2 : n % 16 < (ByteArray.mk #[48, 49, 50, 51, 52, 53, 54, 55, 56, 57, 65, 66, 67, 68, 69, 70]).size := by show n % 16 < 16; omega
  have hcv := conv_lit (P := Tryd.prog) w.drew 56 9 5 [37, (((ByteArray.mk #[48, 49, 50, 51, 52, 53, 54, 55, 56, 57, 65, 66, 67, 68, 69, 70])[n / 16]'k1).toNat : Int), (((ByteArray.mk #[48, 49, 50, 51, 52, 53, 54, 55, 56, 57, 65, 66, 67, 68, 69, 70])[n % 16]'k2).toNat : Int)]
    (by
      intro x hx
      simp only [List.mem_cons, List.not_mem_nil, or_false] at hx
      rcases hx with rfl | rfl | rfl
      · decide
      · have := ((ByteArray.mk #[48, 49, 50, 51, 52, 53, 54, 55, 56, 57, 65, 66, 67, 68, 69, 70])[n / 16]'k1).toNat_lt; omega
      · have := ((ByteArray.mk #[48, 49, 50, 51, 52, 53, 54, 55, 56, 57, 65, 66, 67, 68, 69, 70])[n % 16]'k2).toNat_lt; omega)
    Tryd.underlying56 Tryd.underlying5 Tryd.underlying9
  have hcv2 : (convert 56 9 (.slice (some ⟨w.heap.size, 0, none⟩) 3 3)).run Tryd.prog ((w.alloc (.cells #[.int .u8 37, .int .u8 (((ByteArray.mk #[48, 49, 50, 51, 52, 53, 54, 55, 56, 57, 65, 66, 67, 68, 69, 70])[n / 16]'k1).toNat : Int), .int .u8 (((ByteArray.mk #[48, 49, 50, 51, 52, 53, 54, 55, 56, 57, 65, 66, 67, 68, 69, 70])[n % 16]'k2).toNat : Int)] 5)).drew) = _ := hcv
  clear hcv
  have hR : bytesZ [37, (((ByteArray.mk #[48, 49, 50, 51, 52, 53, 54, 55, 56, 57, 65, 66, 67, 68, 69, 70])[n / 16]'k1).toNat : Int), (((ByteArray.mk #[48, 49, 50, 51, 52, 53, 54, 55, 56, 57, 65, 66, 67, 68, 69, 70])[n % 16]'k2).toNat : Int)] = [37, hexN (n / 16), hexN (n % 16)] := by
    simp only [bytesZ, List.map_cons, List.map_nil, hex_at _ k1, hex_at _ k2, u8_back]
    rfl
  rw [hR] at hcv2
  clear hR
  generalize [37, hexN (n / 16), hexN (n % 16)] = R at hcv2 ⊢
  go_enter Tryd.func51, Tryd.ntmps51
  go_wp2
  go_region
  all_goals (go_wp2; go_ret; exact ⟨rfl, ((Below.refl _ _).alloc (Nat.le_refl _) _).drew⟩)

theorem hex_cut (n : Nat) (h : n < 16) : (ByteArray.mk #[48, 49, 50, 51, 52, 53, 54, 55, 56, 57, 65, 66, 67, 68, 69, 70]).extract n (n + 1) = ⟨[hexN n].toArray⟩ := by
  have key : ∀ n : Fin 16, ((ByteArray.mk #[48, 49, 50, 51, 52, 53, 54, 55, 56, 57, 65, 66, 67, 68, 69, 70]).extract n.val (n.val + 1)).data.toList = [hexN n.val] := by decide
  apply ByteArray.ext
  apply Array.ext'
  exact key ⟨n, h⟩

def setL : Nat → List Int
  | 1 => [32, 34, 60, 62, 96]
  | 2 => [32, 34, 35, 60, 62]
  | 3 => [32, 34, 35, 60, 62, 39]
  | 4 => [32, 34, 35, 60, 62, 63, 94, 96, 123, 125]
  | 5 => [32, 34, 35, 60, 62, 63, 94, 96, 123, 125, 47, 58, 59, 61, 64, 91, 92, 93, 124]
  | _ => []
def inB (s r : Int) : Bool := decide (0 ≤ s ∧ s ≤ 5) && (decide (r ≤ 31 ∨ 126 < r) || (setL s.toNat).contains r)

theorem inB_out {s r : Int} (h : s < 0 ∨ 5 < s) : inB s r = false := by
  unfold inB
  rw [decide_eq_false (by omega)]; rfl
theorem inB_ctl {s r : Int} (h0 : 0 ≤ s) (h1 : s ≤ 5) (h : r ≤ 31 ∨ 126 < r) : inB s r = true := by
  unfold inB
  rw [decide_eq_true ⟨h0, h1⟩, decide_eq_true h]; rfl
theorem inB_mid {s r : Int} (h0 : 0 ≤ s) (h1 : s ≤ 5) (h2 : 31 < r) (h3 : r ≤ 126) : inB s r = (setL s.toNat).contains r := by
  unfold inB
  rw [decide_eq_true ⟨h0, h1⟩, decide_eq_false (by omega)]; simp

theorem signs_0 (n : Nat) (h : n < 127) : decide (0 ≤ Lib.indexByte ([] : List UInt8) n.toUInt8) = (setL 0).contains (n : Int) := by
  have key : ∀ n : Fin 127, decide (0 ≤ Lib.indexByte ([] : List UInt8) n.val.toUInt8) = (setL 0).contains (n.val : Int) := by decide +kernel
  exact key ⟨n, h⟩

set_option maxRecDepth 100000 in
set_option maxHeartbeats 1000000 in
theorem in_mid0 (r : Int) (w : World) (h2 : 31 < r) (h3 : r ≤ 126) :
    Calls Tryd.prog 47 #[.int .u8 0, .int .i32 r] w fun e w' => e = .returned (.bool (inB 0 r)) ∧ w = w' := by
  obtain ⟨n, rfl⟩ := Int.eq_ofNat_of_zero_le (show 0 ≤ r by omega)
  have HB := Lib.hid ((inB_mid (s := 0) (by decide) (by decide) h2 h3).trans (signs_0 n (by omega)).symm)
  go_enter Tryd.func47, Tryd.ntmps47
  go_wp2_with (first | (go_at_call 60; refine (Tryd.strings_ContainsRune_ascii _ _ _ (by omega) (by omega)).mono ?_; rintro e w' ⟨rfl, rfl⟩) | go_in)
  go_ret
  exact ⟨ret_bool (by rw [HB.out]; have d1 : decide ((n : Int) ≤ 31) = false := decide_eq_false (by omega); have d2 : decide (126 < (n : Int)) = false := decide_eq_false (by omega); simp only [d1, d2, Bool.false_or]), rfl⟩

theorem signs_1 (n : Nat) (h : n < 127) : decide (0 ≤ Lib.indexByte ([32, 34, 60, 62, 96] : List UInt8) n.toUInt8) = (setL 1).contains (n : Int) := by
  have key : ∀ n : Fin 127, decide (0 ≤ Lib.indexByte ([32, 34, 60, 62, 96] : List UInt8) n.val.toUInt8) = (setL 1).contains (n.val : Int) := by decide +kernel
  exact key ⟨n, h⟩

set_option maxRecDepth 100000 in
set_option maxHeartbeats 1000000 in
theorem in_mid1 (r : Int) (w : World) (h2 : 31 < r) (h3 : r ≤ 126) :
    Calls Tryd.prog 47 #[.int .u8 1, .int .i32 r] w fun e w' => e = .returned (.bool (inB 1 r)) ∧ w = w' := by
  obtain ⟨n, rfl⟩ := Int.eq_ofNat_of_zero_le (show 0 ≤ r by omega)
  have HB := Lib.hid ((inB_mid (s := 1) (by decide) (by decide) h2 h3).trans (signs_1 n (by omega)).symm)
  go_enter Tryd.func47, Tryd.ntmps47
  go_wp2_with (first | (go_at_call 60; refine (Tryd.strings_ContainsRune_ascii _ _ _ (by omega) (by omega)).mono ?_; rintro e w' ⟨rfl, rfl⟩) | go_in)
  go_ret
  exact ⟨ret_bool (by rw [HB.out]; have d1 : decide ((n : Int) ≤ 31) = false := decide_eq_false (by omega); have d2 : decide (126 < (n : Int)) = false := decide_eq_false (by omega); simp only [d1, d2, Bool.false_or]), rfl⟩

theorem signs_2 (n : Nat) (h : n < 127) : decide (0 ≤ Lib.indexByte ([32, 34, 35, 60, 62] : List UInt8) n.toUInt8) = (setL 2).contains (n : Int) := by
  have key : ∀ n : Fin 127, decide (0 ≤ Lib.indexByte ([32, 34, 35, 60, 62] : List UInt8) n.val.toUInt8) = (setL 2).contains (n.val : Int) := by decide +kernel
  exact key ⟨n, h⟩

set_option maxRecDepth 100000 in
set_option maxHeartbeats 1000000 in
theorem in_mid2 (r : Int) (w : World) (h2 : 31 < r) (h3 : r ≤ 126) :
    Calls Tryd.prog 47 #[.int .u8 2, .int .i32 r] w fun e w' => e = .returned (.bool (inB 2 r)) ∧ w = w' := by
  obtain ⟨n, rfl⟩ := Int.eq_ofNat_of_zero_le (show 0 ≤ r by omega)
  have HB := Lib.hid ((inB_mid (s := 2) (by decide) (by decide) h2 h3).trans (signs_2 n (by omega)).symm)
  go_enter Tryd.func47, Tryd.ntmps47
  go_wp2_with (first | (go_at_call 60; refine (Tryd.strings_ContainsRune_ascii _ _ _ (by omega) (by omega)).mono ?_; rintro e w' ⟨rfl, rfl⟩) | go_in)
  go_ret
  exact ⟨ret_bool (by rw [HB.out]; have d1 : decide ((n : Int) ≤ 31) = false := decide_eq_false (by omega); have d2 : decide (126 < (n : Int)) = false := decide_eq_false (by omega); simp only [d1, d2, Bool.false_or]), rfl⟩

theorem signs_3 (n : Nat) (h : n < 127) : decide (0 ≤ Lib.indexByte ([32, 34, 35, 60, 62, 39] : List UInt8) n.toUInt8) = (setL 3).contains (n : Int) := by
  have key : ∀ n : Fin 127, decide (0 ≤ Lib.indexByte ([32, 34, 35, 60, 62, 39] : List UInt8) n.val.toUInt8) = (setL 3).contains (n.val : Int) := by decide +kernel
  exact key ⟨n, h⟩

set_option maxRecDepth 100000 in
set_option maxHeartbeats 1000000 in
theorem in_mid3 (r : Int) (w : World) (h2 : 31 < r) (h3 : r ≤ 126) :
    Calls Tryd.prog 47 #[.int .u8 3, .int .i32 r] w fun e w' => e = .returned (.bool (inB 3 r)) ∧ w = w' := by
  obtain ⟨n, rfl⟩ := Int.eq_ofNat_of_zero_le (show 0 ≤ r by omega)
  have HB := Lib.hid ((inB_mid (s := 3) (by decide) (by decide) h2 h3).trans (signs_3 n (by omega)).symm)
  go_enter Tryd.func47, Tryd.ntmps47
  go_wp2_with (first | (go_at_call 60; refine (Tryd.strings_ContainsRune_ascii _ _ _ (by omega) (by omega)).mono ?_; rintro e w' ⟨rfl, rfl⟩) | go_in)
  go_ret
  exact ⟨ret_bool (by rw [HB.out]; have d1 : decide ((n : Int) ≤ 31) = false := decide_eq_false (by omega); have d2 : decide (126 < (n : Int)) = false := decide_eq_false (by omega); simp only [d1, d2, Bool.false_or]), rfl⟩

theorem signs_4 (n : Nat) (h : n < 127) : decide (0 ≤ Lib.indexByte ([32, 34, 35, 60, 62, 63, 94, 96, 123, 125] : List UInt8) n.toUInt8) = (setL 4).contains (n : Int) := by
  have key : ∀ n : Fin 127, decide (0 ≤ Lib.indexByte ([32, 34, 35, 60, 62, 63, 94, 96, 123, 125] : List UInt8) n.val.toUInt8) = (setL 4).contains (n.val : Int) := by decide +kernel
  exact key ⟨n, h⟩

set_option maxRecDepth 100000 in
set_option maxHeartbeats 1000000 in
theorem in_mid4 (r : Int) (w : World) (h2 : 31 < r) (h3 : r ≤ 126) :
    Calls Tryd.prog 47 #[.int .u8 4, .int .i32 r] w fun e w' => e = .returned (.bool (inB 4 r)) ∧ w = w' := by
  obtain ⟨n, rfl⟩ := Int.eq_ofNat_of_zero_le (show 0 ≤ r by omega)
  have HB := Lib.hid ((inB_mid (s := 4) (by decide) (by decide) h2 h3).trans (signs_4 n (by omega)).symm)
  go_enter Tryd.func47, Tryd.ntmps47
  go_wp2_with (first | (go_at_call 60; refine (Tryd.strings_ContainsRune_ascii _ _ _ (by omega) (by omega)).mono ?_; rintro e w' ⟨rfl, rfl⟩) | go_in)
  go_ret
  exact ⟨ret_bool (by rw [HB.out]; have d1 : decide ((n : Int) ≤ 31) = false := decide_eq_false (by omega); have d2 : decide (126 < (n : Int)) = false := decide_eq_false (by omega); simp only [d1, d2, Bool.false_or]), rfl⟩

theorem signs_5 (n : Nat) (h : n < 127) : decide (0 ≤ Lib.indexByte ([32, 34, 35, 60, 62, 63, 94, 96, 123, 125, 47, 58, 59, 61, 64, 91, 92, 93, 124] : List UInt8) n.toUInt8) = (setL 5).contains (n : Int) := by
  have key : ∀ n : Fin 127, decide (0 ≤ Lib.indexByte ([32, 34, 35, 60, 62, 63, 94, 96, 123, 125, 47, 58, 59, 61, 64, 91, 92, 93, 124] : List UInt8) n.val.toUInt8) = (setL 5).contains (n.val : Int) := by decide +kernel
  exact key ⟨n, h⟩

set_option maxRecDepth 100000 in
set_option maxHeartbeats 1000000 in
theorem in_mid5 (r : Int) (w : World) (h2 : 31 < r) (h3 : r ≤ 126) :
    Calls Tryd.prog 47 #[.int .u8 5, .int .i32 r] w fun e w' => e = .returned (.bool (inB 5 r)) ∧ w = w' := by
  obtain ⟨n, rfl⟩ := Int.eq_ofNat_of_zero_le (show 0 ≤ r by omega)
  have HB := Lib.hid ((inB_mid (s := 5) (by decide) (by decide) h2 h3).trans (signs_5 n (by omega)).symm)
  go_enter Tryd.func47, Tryd.ntmps47
  go_wp2_with (first | (go_at_call 60; refine (Tryd.strings_ContainsRune_ascii _ _ _ (by omega) (by omega)).mono ?_; rintro e w' ⟨rfl, rfl⟩) | go_in)
  go_ret
  exact ⟨ret_bool (by rw [HB.out]; have d1 : decide ((n : Int) ≤ 31) = false := decide_eq_false (by omega); have d2 : decide (126 < (n : Int)) = false := decide_eq_false (by omega); simp only [d1, d2, Bool.false_or]), rfl⟩

set_option maxRecDepth 100000 in
set_option maxHeartbeats 1000000 in
theorem in_ctl (s r : Int) (w : World) (h0 : 0 ≤ s) (h1 : s ≤ 5) (h : r ≤ 31 ∨ 126 < r) :
    Calls Tryd.prog 47 #[.int .u8 s, .int .i32 r] w fun e w' => e = .returned (.bool (inB s r)) ∧ w = w' := by
  have HB := Lib.hid (inB_ctl h0 h1 h)
  rcases h with h | h
  · go_enter Tryd.func47, Tryd.ntmps47
    go_wp2
    go_ret
    exact ⟨ret_bool HB.out.symm, rfl⟩
  · go_enter Tryd.func47, Tryd.ntmps47
    go_wp2
    go_ret
    exact ⟨ret_bool HB.out.symm, rfl⟩

set_option maxRecDepth 100000 in
set_option maxHeartbeats 1000000 in
theorem in_out (s r : Int) (w : World) (h : 5 < s) :
    Calls Tryd.prog 47 #[.int .u8 s, .int .i32 r] w fun e w' => e = .returned (.bool (inB s r)) ∧ w = w' := by
  have HB := Lib.hid (inB_out (s := s) (r := r) (.inr h))
  go_enter Tryd.func47, Tryd.ntmps47
  go_wp2
  go_ret
  exact ⟨ret_bool HB.out.symm, rfl⟩

theorem in_any (s r : Int) (w : World) (h0 : 0 ≤ s) :
    Calls Tryd.prog 47 #[.int .u8 s, .int .i32 r] w fun e w' => e = .returned (.bool (inB s r)) ∧ w = w' := by
  by_cases h5 : 5 < s
  · exact in_out s r w h5
  · by_cases hc : r ≤ 31 ∨ 126 < r
    · exact in_ctl s r w h0 (by omega) hc
    · rcases (show s = 0 ∨ s = 1 ∨ s = 2 ∨ s = 3 ∨ s = 4 ∨ s = 5 from by omega) with rfl | rfl | rfl | rfl | rfl | rfl
      · exact in_mid0 r w (by omega) (by omega)
      · exact in_mid1 r w (by omega) (by omega)
      · exact in_mid2 r w (by omega) (by omega)
      · exact in_mid3 r w (by omega) (by omega)
      · exact in_mid4 r w (by omega) (by omega)
      · exact in_mid5 r w (by omega) (by omega)
end Go.Proofs.YtaojjkknmaldiaaDoor
