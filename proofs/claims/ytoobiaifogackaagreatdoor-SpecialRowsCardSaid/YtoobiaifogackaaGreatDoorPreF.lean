/-
  Layer 7: the document's Bit, Right, Has, Covers, Of: what they come to.
-/
import Derived.Test.YtoobiaifogackaaGreatDoorPreE
namespace Go.Proofs.YtoobiaifogackaaGreatDoor
open Go.RowKit


theorem div_two (X j : Nat) : X / 2 ^ j / 2 = X / 2 ^ (j + 1) := by rw [Nat.div_div_eq_div_mul, Nat.pow_succ]
theorem cast_half (x : Nat) : (x : Int) / 2 = ((x / 2 : Nat) : Int) := by omega
theorem cast_rest (x : Nat) : (x : Int) % 2 = ((x % 2 : Nat) : Int) := by omega
set_option maxRecDepth 100000 in
set_option maxHeartbeats 1000000 in
theorem refBit_hi (hi lo i : Nat) (w : World) (h1 : hi < 18446744073709551616) (h2 : lo < 18446744073709551616) (hi2 : i < 64) :
    Calls Tryz.prog 83 #[.int .u64 hi, .int .u64 lo, .int .i64 i] w fun e w' => e = .returned (.int .i64 (bitW (wideN hi lo) i : Nat)) ∧ w = w' := by
  have HB := Lib.hid (bit_hi (hi := hi) (show lo < 2 ^ 64 from h2) i hi2)
  go_enter Tryz.func83, Tryz.ntmps83
  go_wp2
  go_loop [7, 8] (fun x k => ∃ j X : Nat, j ≤ 63 - i ∧ k = .int .i64 ((63 - i - j : Nat) : Int) ∧ x = .int .u64 X ∧ X < 18446744073709551616 ∧ Hid (X = hi / 2 ^ j)) (fun _ k => (intOf k).toNat)
  case atStart => exact ⟨0, hi, Nat.zero_le _, by simp; omega, rfl, h1, by show hi = _; simp⟩
  case round =>
    obtain ⟨j, X, hj, rfl, rfl, hX, HX⟩ := hrel
    by_cases hlt : 0 < 63 - i - j
    · go_wp2
      go_round
      case rel => exact ⟨j + 1, X / 2, by omega, by simp; omega, by simp, by omega, by show X / 2 = _; rw [HX.out, div_two]⟩
      case measure => simp [intOf]; omega
    · have e : 63 - i - j = 0 := by omega
      have HE : Hid ((X : Int) % 2 = (bitW (wideN hi lo) i : Nat)) := by
        show _ = _
        rw [← HB.out, ← show j = 63 - i from by omega, ← HX.out]; omega
      go_wp2
      go_ret
      exact ⟨retV (show Value.int .i64 _ = _ by rw [HE.out]), rfl⟩
set_option maxRecDepth 100000 in
set_option maxHeartbeats 1000000 in
theorem refBit_lo (hi lo i : Nat) (w : World) (h2 : lo < 18446744073709551616) (hi2 : 64 ≤ i) (hi3 : i < 128) :
    Calls Tryz.prog 83 #[.int .u64 hi, .int .u64 lo, .int .i64 i] w fun e w' => e = .returned (.int .i64 (bitW (wideN hi lo) i : Nat)) ∧ w = w' := by
  have HB := Lib.hid (bit_lo (hi := hi) (lo := lo) i hi2 hi3)
  go_enter Tryz.func83, Tryz.ntmps83
  go_wp2
  go_loop [7, 8] (fun x k => ∃ j X : Nat, j ≤ 127 - i ∧ k = .int .i64 ((127 - i - j : Nat) : Int) ∧ x = .int .u64 X ∧ X < 18446744073709551616 ∧ Hid (X = lo / 2 ^ j)) (fun _ k => (intOf k).toNat)
  case atStart => exact ⟨0, lo, Nat.zero_le _, by simp; omega, rfl, h2, by show lo = _; simp⟩
  case round =>
    obtain ⟨j, X, hj, rfl, rfl, hX, HX⟩ := hrel
    by_cases hlt : 0 < 127 - i - j
    · go_wp2
      go_round
      case rel => exact ⟨j + 1, X / 2, by omega, by simp; omega, by simp, by omega, by show X / 2 = _; rw [HX.out, div_two]⟩
      case measure => simp [intOf]; omega
    · have e : 127 - i - j = 0 := by omega
      have HE : Hid ((X : Int) % 2 = (bitW (wideN hi lo) i : Nat)) := by
        show _ = _
        rw [← HB.out, ← show j = 127 - i from by omega, ← HX.out]; omega
      go_wp2
      go_ret
      exact ⟨retV (show Value.int .i64 _ = _ by rw [HE.out]), rfl⟩
theorem refBit_any (hi lo i : Nat) (w : World) (h1 : hi < 18446744073709551616) (h2 : lo < 18446744073709551616) (h : i < 128) :
    Calls Tryz.prog 83 #[.int .u64 hi, .int .u64 lo, .int .i64 i] w fun e w' => e = .returned (.int .i64 (bitW (wideN hi lo) i : Nat)) ∧ w = w' := by
  by_cases h3 : i < 64
  · exact refBit_hi hi lo i w h1 h2 h3
  · exact refBit_lo hi lo i w h2 (by omega) h

theorem rt_bits {W n : Nat} (hn : n ≤ 128) : rt W n ↔ ∀ i, n ≤ i → i < 128 → bitW W i = 0 := (right_bits W n hn).symm
set_option maxRecDepth 100000 in
set_option maxHeartbeats 1000000 in
theorem refRight_in (hi lo n : Nat) (w : World) (h1 : hi < 18446744073709551616) (h2 : lo < 18446744073709551616) (hn : n ≤ 128) :
    Calls Tryz.prog 62 #[.agg #[.int .u64 hi, .int .u64 lo, .int .i64 n]] w fun e w' => e = .returned (.bool (pRightB (wideN hi lo) n)) ∧ Below w.heap.size w w' := by
  go_enter Tryz.func62, Tryz.ntmps62
  go_wp2
  go_loop [3] (fun x => ∃ i : Nat, n ≤ i ∧ i ≤ 128 ∧ x = .int .i64 i ∧ Hid (∀ j, n ≤ j → j < i → bitW (wideN hi lo) j = 0)) (fun x => 128 - (intOf x).toNat)
  case atStart => exact ⟨n, Nat.le_refl _, hn, rfl, fun j a b => by omega⟩
  case round =>
    obtain ⟨i, hi1, hi2, rfl, H⟩ := hrel
    by_cases hlt : i < 128
    · have hb2 := bitW_two (wideN hi lo) i
      by_cases hz : bitW (wideN hi lo) i = 0
      · have HN : Hid (∀ W, Calls Tryz.prog 83 #[.int .u64 hi, .int .u64 lo, .int .i64 i] W fun e w' => e = .returned (.int .i64 0) ∧ W = w') := fun W => by
          have := refBit_any hi lo i W h1 h2 hlt; rw [hz] at this; exact this
        have HZ := Lib.hid hz
        clear hz hb2
        go_wp2_with fail
        refine (HN.out _).mono ?_
        rintro e w' ⟨rfl, rfl⟩
        go_wp2
        go_round
        case rel =>
          refine ⟨i + 1, by omega, by omega, by go_num, fun j a b => ?_⟩
          by_cases e : j = i
          · rw [e]; exact HZ.out
          · exact H.out j a (by omega)
        case measure => simp [intOf]; omega
      · have hz1 : bitW (wideN hi lo) i = 1 := by omega
        have HN : Hid (∀ W, Calls Tryz.prog 83 #[.int .u64 hi, .int .u64 lo, .int .i64 i] W fun e w' => e = .returned (.int .i64 1) ∧ W = w') := fun W => by
          have := refBit_any hi lo i W h1 h2 hlt; rw [hz1] at this; exact this
        have HF : Hid (pRightB (wideN hi lo) n = false) := by
          show _ = _
          rw [Bool.eq_false_iff, ne_eq, pRightB_nat, rt_bits hn]
          exact fun g => hz (g.2 i hi1 hlt)
        clear hz hb2 hz1
        go_wp2_with fail
        refine (HN.out _).mono ?_
        rintro e w' ⟨rfl, rfl⟩
        go_wp2
        go_ret
        exact ⟨ret_bool HF.out.symm, (Below.refl _ _).alloc (Nat.le_refl _) _⟩
    · have HF : Hid (pRightB (wideN hi lo) n = true) := by
        show _ = _
        rw [pRightB_nat, rt_bits hn]
        exact ⟨hn, fun j a b => H.out j a (by omega)⟩
      have e : i = 128 := by omega
      subst e
      go_wp2
      go_ret
      exact ⟨ret_bool HF.out.symm, (Below.refl _ _).alloc (Nat.le_refl _) _⟩
set_option maxRecDepth 100000 in
set_option maxHeartbeats 1000000 in
theorem refRight_out (hi lo : Nat) (n : Int) (w : World) (h : n < 0 ∨ 128 < n) :
    Calls Tryz.prog 62 #[.agg #[.int .u64 hi, .int .u64 lo, .int .i64 n]] w fun e w' => e = .returned (.bool false) ∧ Below w.heap.size w w' := by
  by_cases h0 : n < 0
  · clear h
    go_enter Tryz.func62, Tryz.ntmps62
    go_wp2
    go_ret
    exact ⟨rfl, (Below.refl _ _).alloc (Nat.le_refl _) _⟩
  · have h1 : 128 < n := by omega
    clear h
    go_enter Tryz.func62, Tryz.ntmps62
    go_wp2
    go_ret
    exact ⟨rfl, (Below.refl _ _).alloc (Nat.le_refl _) _⟩
theorem refRight7_any (hi lo : Nat) (n : Int) (w : World) (h1 : hi < 18446744073709551616) (h2 : lo < 18446744073709551616) :
    Calls Tryz.prog 62 #[.agg #[.int .u64 hi, .int .u64 lo, .int .i64 n]] w fun e w' => e = .returned (.bool (pRightB (wideN hi lo) n)) ∧ Below w.heap.size w w' := by
  by_cases h : n < 0 ∨ 128 < n
  · rw [pRightB_out h]; exact refRight_out hi lo n w h
  · obtain ⟨k, rfl⟩ := Int.eq_ofNat_of_zero_le (show 0 ≤ n by omega)
    exact refRight_in hi lo k w h1 h2 (by omega)
end Go.Proofs.YtoobiaifogackaaGreatDoor
