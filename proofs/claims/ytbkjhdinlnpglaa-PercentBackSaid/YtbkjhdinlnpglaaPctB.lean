/-
  Layer 2: the reference's In.
-/
import Derived.Test.YtbkjhdinlnpglaaPctA
namespace Go.Proofs.Ytbkjhdinlnpglaa
open Go.RowKit

theorem has_int (s : ByteArray) (n : Int) (w : World) (hs : s.size ≤ 1073741824) (h0 : 0 ≤ n) (h1 : n < 256) :
    Calls Try.prog 53 #[.string s, .int .u8 n] w fun e w' => e = .returned (.bool (hasB s.data.toList n.toNat.toUInt8)) ∧ w = w' := by
  have h := has_any s n.toNat.toUInt8 w hs
  rw [u8_of n h0 h1, Int.toNat_of_nonneg h0] at h
  exact h

set_option maxRecDepth 100000 in
set_option maxHeartbeats 4000000 in
theorem refIn_yes0 (r : Int) (w : World) (h : (setL 0).contains r = true) :
    Calls Try.prog 40 #[.int .i64 0, .int .i32 r] w fun e w' => e = .returned (.bool true) ∧ w = w' := by
  cases h

set_option maxRecDepth 100000 in
set_option maxHeartbeats 4000000 in
theorem refIn_no0 (r : Int) (w : World) (h2 : 31 < r) (h3 : r ≤ 126) (_h : (setL 0).contains r = false) :
    Calls Try.prog 40 #[.int .i64 0, .int .i32 r] w fun e w' => e = .returned (.bool false) ∧ w = w' := by

  go_enter Try.func40, Try.ntmps40
  go_wp2
  all_goals
    go_ret
    exact ⟨rfl, rfl⟩

set_option maxRecDepth 100000 in
set_option maxHeartbeats 4000000 in
theorem refIn_yes1 (r : Int) (w : World) (h : (setL 1).contains r = true) :
    Calls Try.prog 40 #[.int .i64 1, .int .i32 r] w fun e w' => e = .returned (.bool true) ∧ w = w' := by
  have hm : r = 32 ∨ r = 34 ∨ r = 60 ∨ r = 62 ∨ r = 96 := by simpa [setL] using h
  clear h
  rcases hm with rfl | rfl | rfl | rfl | rfl
  all_goals
    go_enter Try.func40, Try.ntmps40
    go_wp2_with (first | (go_at_call 53; refine (has_int _ _ _ (by decide) (by omega) (by omega)).mono ?_; rintro e w' ⟨rfl, rfl⟩))
    go_ret
    exact ⟨by first | rfl | exact ret_bool (by decide), rfl⟩

set_option maxRecDepth 100000 in
set_option maxHeartbeats 4000000 in
theorem refIn_no1 (r : Int) (w : World) (h2 : 31 < r) (h3 : r ≤ 126) (h : (setL 1).contains r = false) :
    Calls Try.prog 40 #[.int .i64 1, .int .i32 r] w fun e w' => e = .returned (.bool false) ∧ w = w' := by
  have hm : ¬ (r = 32 ∨ r = 34 ∨ r = 60 ∨ r = 62 ∨ r = 96) := by
    intro hh
    have : (setL 1).contains r = true := by simpa [setL] using hh
    rw [this] at h
    cases h
  clear h
  have n32 : (r == 32) = false := beq_eq_false_iff_ne.2 (by omega)
  have n34 : (r == 34) = false := beq_eq_false_iff_ne.2 (by omega)
  have n60 : (r == 60) = false := beq_eq_false_iff_ne.2 (by omega)
  have n62 : (r == 62) = false := beq_eq_false_iff_ne.2 (by omega)
  have n96 : (r == 96) = false := beq_eq_false_iff_ne.2 (by omega)
  clear hm
  go_enter Try.func40, Try.ntmps40
  go_wp2_with (first | (go_at_call 53; refine (has_int _ _ _ (by decide) (by omega) (by omega)).mono ?_; rintro e w' ⟨rfl, rfl⟩))
  go_ret
  exact ⟨by first | rfl | exact ret_bool (by simp), rfl⟩

set_option maxRecDepth 100000 in
set_option maxHeartbeats 4000000 in
theorem refIn_yes2 (r : Int) (w : World) (h : (setL 2).contains r = true) :
    Calls Try.prog 40 #[.int .i64 2, .int .i32 r] w fun e w' => e = .returned (.bool true) ∧ w = w' := by
  have hm : r = 32 ∨ r = 34 ∨ r = 35 ∨ r = 60 ∨ r = 62 := by simpa [setL] using h
  clear h
  rcases hm with rfl | rfl | rfl | rfl | rfl
  all_goals
    go_enter Try.func40, Try.ntmps40
    go_wp2_with (first | (go_at_call 53; refine (has_int _ _ _ (by decide) (by omega) (by omega)).mono ?_; rintro e w' ⟨rfl, rfl⟩))
    go_ret
    exact ⟨by first | rfl | exact ret_bool (by decide), rfl⟩

set_option maxRecDepth 100000 in
set_option maxHeartbeats 4000000 in
theorem refIn_no2 (r : Int) (w : World) (h2 : 31 < r) (h3 : r ≤ 126) (h : (setL 2).contains r = false) :
    Calls Try.prog 40 #[.int .i64 2, .int .i32 r] w fun e w' => e = .returned (.bool false) ∧ w = w' := by
  have hm : ¬ (r = 32 ∨ r = 34 ∨ r = 35 ∨ r = 60 ∨ r = 62) := by
    intro hh
    have : (setL 2).contains r = true := by simpa [setL] using hh
    rw [this] at h
    cases h
  clear h
  have n32 : (r == 32) = false := beq_eq_false_iff_ne.2 (by omega)
  have n34 : (r == 34) = false := beq_eq_false_iff_ne.2 (by omega)
  have n35 : (r == 35) = false := beq_eq_false_iff_ne.2 (by omega)
  have n60 : (r == 60) = false := beq_eq_false_iff_ne.2 (by omega)
  have n62 : (r == 62) = false := beq_eq_false_iff_ne.2 (by omega)
  clear hm
  go_enter Try.func40, Try.ntmps40
  go_wp2_with (first | (go_at_call 53; refine (has_int _ _ _ (by decide) (by omega) (by omega)).mono ?_; rintro e w' ⟨rfl, rfl⟩))
  go_ret
  exact ⟨by first | rfl | exact ret_bool (by simp), rfl⟩

set_option maxRecDepth 100000 in
set_option maxHeartbeats 4000000 in
theorem refIn_yes3 (r : Int) (w : World) (h : (setL 3).contains r = true) :
    Calls Try.prog 40 #[.int .i64 3, .int .i32 r] w fun e w' => e = .returned (.bool true) ∧ w = w' := by
  have hm : r = 32 ∨ r = 34 ∨ r = 35 ∨ r = 60 ∨ r = 62 ∨ r = 39 := by simpa [setL] using h
  clear h
  rcases hm with rfl | rfl | rfl | rfl | rfl | rfl
  all_goals
    go_enter Try.func40, Try.ntmps40
    go_wp2_with (first | (go_at_call 53; refine (has_int _ _ _ (by decide) (by omega) (by omega)).mono ?_; rintro e w' ⟨rfl, rfl⟩))
    go_ret
    exact ⟨by first | rfl | exact ret_bool (by decide), rfl⟩

set_option maxRecDepth 100000 in
set_option maxHeartbeats 4000000 in
theorem refIn_no3 (r : Int) (w : World) (h2 : 31 < r) (h3 : r ≤ 126) (h : (setL 3).contains r = false) :
    Calls Try.prog 40 #[.int .i64 3, .int .i32 r] w fun e w' => e = .returned (.bool false) ∧ w = w' := by
  have hm : ¬ (r = 32 ∨ r = 34 ∨ r = 35 ∨ r = 60 ∨ r = 62 ∨ r = 39) := by
    intro hh
    have : (setL 3).contains r = true := by simpa [setL] using hh
    rw [this] at h
    cases h
  clear h
  have n32 : (r == 32) = false := beq_eq_false_iff_ne.2 (by omega)
  have n34 : (r == 34) = false := beq_eq_false_iff_ne.2 (by omega)
  have n35 : (r == 35) = false := beq_eq_false_iff_ne.2 (by omega)
  have n39 : (r == 39) = false := beq_eq_false_iff_ne.2 (by omega)
  have n60 : (r == 60) = false := beq_eq_false_iff_ne.2 (by omega)
  have n62 : (r == 62) = false := beq_eq_false_iff_ne.2 (by omega)
  clear hm
  go_enter Try.func40, Try.ntmps40
  go_wp2_with (first | (go_at_call 53; refine (has_int _ _ _ (by decide) (by omega) (by omega)).mono ?_; rintro e w' ⟨rfl, rfl⟩))
  go_ret
  exact ⟨by first | rfl | exact ret_bool (by simp), rfl⟩

set_option maxRecDepth 100000 in
set_option maxHeartbeats 4000000 in
theorem refIn_yes4 (r : Int) (w : World) (h : (setL 4).contains r = true) :
    Calls Try.prog 40 #[.int .i64 4, .int .i32 r] w fun e w' => e = .returned (.bool true) ∧ w = w' := by
  have hm : r = 32 ∨ r = 34 ∨ r = 35 ∨ r = 60 ∨ r = 62 ∨ r = 63 ∨ r = 94 ∨ r = 96 ∨ r = 123 ∨ r = 125 := by simpa [setL] using h
  clear h
  rcases hm with rfl | rfl | rfl | rfl | rfl | rfl | rfl | rfl | rfl | rfl
  all_goals
    go_enter Try.func40, Try.ntmps40
    go_wp2_with (first | (go_at_call 53; refine (has_int _ _ _ (by decide) (by omega) (by omega)).mono ?_; rintro e w' ⟨rfl, rfl⟩))
    go_ret
    exact ⟨by first | rfl | exact ret_bool (by decide), rfl⟩

set_option maxRecDepth 100000 in
set_option maxHeartbeats 4000000 in
theorem refIn_no4 (r : Int) (w : World) (h2 : 31 < r) (h3 : r ≤ 126) (h : (setL 4).contains r = false) :
    Calls Try.prog 40 #[.int .i64 4, .int .i32 r] w fun e w' => e = .returned (.bool false) ∧ w = w' := by
  have hm : ¬ (r = 32 ∨ r = 34 ∨ r = 35 ∨ r = 60 ∨ r = 62 ∨ r = 63 ∨ r = 94 ∨ r = 96 ∨ r = 123 ∨ r = 125) := by
    intro hh
    have : (setL 4).contains r = true := by simpa [setL] using hh
    rw [this] at h
    cases h
  clear h
  have n32 : (r == 32) = false := beq_eq_false_iff_ne.2 (by omega)
  have n34 : (r == 34) = false := beq_eq_false_iff_ne.2 (by omega)
  have n35 : (r == 35) = false := beq_eq_false_iff_ne.2 (by omega)
  have n60 : (r == 60) = false := beq_eq_false_iff_ne.2 (by omega)
  have n62 : (r == 62) = false := beq_eq_false_iff_ne.2 (by omega)
  have n63 : (r == 63) = false := beq_eq_false_iff_ne.2 (by omega)
  have n94 : (r == 94) = false := beq_eq_false_iff_ne.2 (by omega)
  have n96 : (r == 96) = false := beq_eq_false_iff_ne.2 (by omega)
  have n123 : (r == 123) = false := beq_eq_false_iff_ne.2 (by omega)
  have n125 : (r == 125) = false := beq_eq_false_iff_ne.2 (by omega)
  clear hm
  go_enter Try.func40, Try.ntmps40
  go_wp2_with (first | (go_at_call 53; refine (has_int _ _ _ (by decide) (by omega) (by omega)).mono ?_; rintro e w' ⟨rfl, rfl⟩))
  go_ret
  exact ⟨by first | rfl | exact ret_bool (by simp), rfl⟩

set_option maxRecDepth 100000 in
set_option maxHeartbeats 4000000 in
theorem refIn_yes5 (r : Int) (w : World) (h : (setL 5).contains r = true) :
    Calls Try.prog 40 #[.int .i64 5, .int .i32 r] w fun e w' => e = .returned (.bool true) ∧ w = w' := by
  have hm : r = 32 ∨ r = 34 ∨ r = 35 ∨ r = 60 ∨ r = 62 ∨ r = 63 ∨ r = 94 ∨ r = 96 ∨ r = 123 ∨ r = 125 ∨ r = 47 ∨ r = 58 ∨ r = 59 ∨ r = 61 ∨ r = 64 ∨ r = 91 ∨ r = 92 ∨ r = 93 ∨ r = 124 := by simpa [setL] using h
  clear h
  rcases hm with rfl | rfl | rfl | rfl | rfl | rfl | rfl | rfl | rfl | rfl | rfl | rfl | rfl | rfl | rfl | rfl | rfl | rfl | rfl
  all_goals
    go_enter Try.func40, Try.ntmps40
    go_wp2_with (first | (go_at_call 53; refine (has_int _ _ _ (by decide) (by omega) (by omega)).mono ?_; rintro e w' ⟨rfl, rfl⟩))
    go_ret
    exact ⟨by first | rfl | exact ret_bool (by decide), rfl⟩

set_option maxRecDepth 100000 in
set_option maxHeartbeats 4000000 in
theorem refIn_no5 (r : Int) (w : World) (h2 : 31 < r) (h3 : r ≤ 126) (h : (setL 5).contains r = false) :
    Calls Try.prog 40 #[.int .i64 5, .int .i32 r] w fun e w' => e = .returned (.bool false) ∧ w = w' := by
  have hm : ¬ (r = 32 ∨ r = 34 ∨ r = 35 ∨ r = 60 ∨ r = 62 ∨ r = 63 ∨ r = 94 ∨ r = 96 ∨ r = 123 ∨ r = 125 ∨ r = 47 ∨ r = 58 ∨ r = 59 ∨ r = 61 ∨ r = 64 ∨ r = 91 ∨ r = 92 ∨ r = 93 ∨ r = 124) := by
    intro hh
    have : (setL 5).contains r = true := by simpa [setL] using hh
    rw [this] at h
    cases h
  clear h
  have n32 : (r == 32) = false := beq_eq_false_iff_ne.2 (by omega)
  have n34 : (r == 34) = false := beq_eq_false_iff_ne.2 (by omega)
  have n35 : (r == 35) = false := beq_eq_false_iff_ne.2 (by omega)
  have n47 : (r == 47) = false := beq_eq_false_iff_ne.2 (by omega)
  have n58 : (r == 58) = false := beq_eq_false_iff_ne.2 (by omega)
  have n59 : (r == 59) = false := beq_eq_false_iff_ne.2 (by omega)
  have n60 : (r == 60) = false := beq_eq_false_iff_ne.2 (by omega)
  have n61 : (r == 61) = false := beq_eq_false_iff_ne.2 (by omega)
  have n62 : (r == 62) = false := beq_eq_false_iff_ne.2 (by omega)
  have n63 : (r == 63) = false := beq_eq_false_iff_ne.2 (by omega)
  have n64 : (r == 64) = false := beq_eq_false_iff_ne.2 (by omega)
  have n91 : (r == 91) = false := beq_eq_false_iff_ne.2 (by omega)
  have n92 : (r == 92) = false := beq_eq_false_iff_ne.2 (by omega)
  have n93 : (r == 93) = false := beq_eq_false_iff_ne.2 (by omega)
  have n94 : (r == 94) = false := beq_eq_false_iff_ne.2 (by omega)
  have n96 : (r == 96) = false := beq_eq_false_iff_ne.2 (by omega)
  have n123 : (r == 123) = false := beq_eq_false_iff_ne.2 (by omega)
  have n124 : (r == 124) = false := beq_eq_false_iff_ne.2 (by omega)
  have n125 : (r == 125) = false := beq_eq_false_iff_ne.2 (by omega)
  have hhas : hasB (ByteArray.mk #[47, 58, 59, 61, 64, 91, 93, 124]).data.toList r.toNat.toUInt8 = false := by
    have key : ∀ n : Fin 127, (n.val = 47 ∨ n.val = 58 ∨ n.val = 59 ∨ n.val = 61 ∨ n.val = 64 ∨ n.val = 91 ∨ n.val = 93 ∨ n.val = 124) ∨ hasB [47, 58, 59, 61, 64, 91, 93, 124] n.val.toUInt8 = false := by decide +kernel
    rcases key ⟨r.toNat, by omega⟩ with hk | hk
    · simp only at hk; omega
    · exact hk
  clear hm
  go_enter Try.func40, Try.ntmps40
  go_wp2_with (first | (go_at_call 53; refine (has_int _ _ _ (by decide) (by omega) (by omega)).mono ?_; rintro e w' ⟨rfl, rfl⟩))
  go_ret
  exact ⟨by first | rfl | exact ret_bool (by simp [hhas]), rfl⟩

set_option maxRecDepth 100000 in
set_option maxHeartbeats 1000000 in
theorem refIn_ctl (s r : Int) (w : World) (h0 : 0 ≤ s) (h1 : s ≤ 5) (h : r ≤ 31 ∨ 126 < r) :
    Calls Try.prog 40 #[.int .i64 s, .int .i32 r] w fun e w' => e = .returned (.bool (inB s r)) ∧ w = w' := by
  have HB := Lib.hid (inB_ctl h0 h1 h)
  rcases h with h | h
  · go_enter Try.func40, Try.ntmps40
    go_wp2
    go_ret
    exact ⟨ret_bool HB.out.symm, rfl⟩
  · go_enter Try.func40, Try.ntmps40
    go_wp2
    go_ret
    exact ⟨ret_bool HB.out.symm, rfl⟩

set_option maxRecDepth 100000 in
set_option maxHeartbeats 1000000 in
theorem refIn_out (s r : Int) (w : World) (h : 5 < s) :
    Calls Try.prog 40 #[.int .i64 s, .int .i32 r] w fun e w' => e = .returned (.bool (inB s r)) ∧ w = w' := by
  have HB := Lib.hid (inB_out (s := s) (r := r) (.inr h))
  go_enter Try.func40, Try.ntmps40
  go_wp2
  go_ret
  exact ⟨ret_bool HB.out.symm, rfl⟩

theorem refIn_any (s r : Int) (w : World) (h0 : 0 ≤ s) :
    Calls Try.prog 40 #[.int .i64 s, .int .i32 r] w fun e w' => e = .returned (.bool (inB s r)) ∧ w = w' := by
  by_cases h5 : 5 < s
  · exact refIn_out s r w h5
  · by_cases hc : r ≤ 31 ∨ 126 < r
    · exact refIn_ctl s r w h0 (by omega) hc
    · rcases (show s = 0 ∨ s = 1 ∨ s = 2 ∨ s = 3 ∨ s = 4 ∨ s = 5 from by omega) with rfl | rfl | rfl | rfl | rfl | rfl
      · rw [inB_mid (s := 0) (by decide) (by decide) (by omega) (by omega), show (0 : Int).toNat = 0 from rfl]
        cases hm : (setL 0).contains r with
        | true => exact refIn_yes0 r w hm
        | false => exact refIn_no0 r w (by omega) (by omega) hm
      · rw [inB_mid (s := 1) (by decide) (by decide) (by omega) (by omega), show (1 : Int).toNat = 1 from rfl]
        cases hm : (setL 1).contains r with
        | true => exact refIn_yes1 r w hm
        | false => exact refIn_no1 r w (by omega) (by omega) hm
      · rw [inB_mid (s := 2) (by decide) (by decide) (by omega) (by omega), show (2 : Int).toNat = 2 from rfl]
        cases hm : (setL 2).contains r with
        | true => exact refIn_yes2 r w hm
        | false => exact refIn_no2 r w (by omega) (by omega) hm
      · rw [inB_mid (s := 3) (by decide) (by decide) (by omega) (by omega), show (3 : Int).toNat = 3 from rfl]
        cases hm : (setL 3).contains r with
        | true => exact refIn_yes3 r w hm
        | false => exact refIn_no3 r w (by omega) (by omega) hm
      · rw [inB_mid (s := 4) (by decide) (by decide) (by omega) (by omega), show (4 : Int).toNat = 4 from rfl]
        cases hm : (setL 4).contains r with
        | true => exact refIn_yes4 r w hm
        | false => exact refIn_no4 r w (by omega) (by omega) hm
      · rw [inB_mid (s := 5) (by decide) (by decide) (by omega) (by omega), show (5 : Int).toNat = 5 from rfl]
        cases hm : (setL 5).contains r with
        | true => exact refIn_yes5 r w hm
        | false => exact refIn_no5 r w (by omega) (by omega) hm
end Go.Proofs.Ytbkjhdinlnpglaa
