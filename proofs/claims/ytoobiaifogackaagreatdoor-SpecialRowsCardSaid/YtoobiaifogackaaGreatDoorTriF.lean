/-
  Layer 8: longer: one bit more.
-/
import Derived.Test.YtoobiaifogackaaGreatDoorTriE
import Derived.Test.YtoobiaifogackaaGreatDoorPreO
import Derived.RegionTactic
namespace Go.Proofs.YtoobiaifogackaaGreatDoor
open Go.RowKit


set_option maxRecDepth 100000 in
set_option maxHeartbeats 2000000 in
theorem longer_h0 (hi lo n : Nat) (w : World) (h1 : hi < 18446744073709551616)  (hn : n < 64)  :
    Calls Tryz.prog 131 #[.agg #[.int .u64 (hi : Nat), .int .u64 (lo : Nat), .int .i64 (n : Nat)], .int .i64 0] w fun e w' => e = .returned (.agg #[.int .u64 ((hi : Nat)), .int .u64 (lo : Nat), .int .i64 ((n : Int) + 1)]) ∧ Below w.heap.size w w' := by
  have hor := or_zero hi h1
  go_enter Tryz.func131, Tryz.ntmps131
  go_wp2
  go_region
  go_wp2
  refine bodyPost_ret (v := .agg #[.int .u64 ((hi : Nat)), .int .u64 (lo : Nat), .int .i64 ((n : Int) + 1)]) (by simp [results, Tryz.results131, go_sem]) rfl ⟨rfl, ?_⟩
  exact (((Below.refl _ _).alloc (Nat.le_refl _) _).alloc (by simp) _).drew

set_option maxRecDepth 100000 in
set_option maxHeartbeats 2000000 in
theorem longer_h1 (hi lo n : Nat) (w : World) (h1 : hi < 18446744073709551616) (h2 : lo < 18446744073709551616) (hn : n < 64) (hr : rt (wideN hi lo) n) :
    Calls Tryz.prog 131 #[.agg #[.int .u64 (hi : Nat), .int .u64 (lo : Nat), .int .i64 (n : Nat)], .int .i64 1] w fun e w' => e = .returned (.agg #[.int .u64 ((hi : Int) + 2 ^ (63 - n)), .int .u64 (lo : Nat), .int .i64 ((n : Int) + 1)]) ∧ Below w.heap.size w w' := by
  have hbd := room_hi h1 hn (rt_hi h2 hn hr)
  have hor := or_join (63 - n) hbd (by rw [show (63 - n) + 1 = 64 - n from by omega]; exact rt_hi h2 hn hr)
  have hwr : IntKind.u64.wrap ((2 : Int) ^ (63 - n)) = (2 : Int) ^ (63 - n) := by
    rw [show ((2 : Int) ^ (63 - n)) = ((2 ^ (63 - n) : Nat) : Int) from by simp]
    exact wrap_nat _ (Nat.lt_of_le_of_lt (Nat.le_add_left _ _) hbd)
  go_enter Tryz.func131, Tryz.ntmps131
  go_wp2
  go_region
  go_wp2
  refine bodyPost_ret (v := .agg #[.int .u64 ((hi : Int) + 2 ^ (63 - n)), .int .u64 (lo : Nat), .int .i64 ((n : Int) + 1)]) (by simp [results, Tryz.results131, go_sem]) rfl ⟨rfl, ?_⟩
  exact (((Below.refl _ _).alloc (Nat.le_refl _) _).alloc (by simp) _).drew

set_option maxRecDepth 100000 in
set_option maxHeartbeats 2000000 in
theorem longer_l0 (hi lo n : Nat) (w : World)  (h2 : lo < 18446744073709551616) (hn : 64 ≤ n) (hn2 : n < 128)  :
    Calls Tryz.prog 131 #[.agg #[.int .u64 (hi : Nat), .int .u64 (lo : Nat), .int .i64 (n : Nat)], .int .i64 0] w fun e w' => e = .returned (.agg #[.int .u64 (hi : Nat), .int .u64 ((lo : Nat)), .int .i64 ((n : Int) + 1)]) ∧ Below w.heap.size w w' := by
  have hor := or_zero lo h2
  go_enter Tryz.func131, Tryz.ntmps131
  go_wp2
  go_region
  go_wp2
  refine bodyPost_ret (v := .agg #[.int .u64 (hi : Nat), .int .u64 ((lo : Nat)), .int .i64 ((n : Int) + 1)]) (by simp [results, Tryz.results131, go_sem]) rfl ⟨rfl, ?_⟩
  exact (((Below.refl _ _).alloc (Nat.le_refl _) _).alloc (by simp) _).drew

set_option maxRecDepth 100000 in
set_option maxHeartbeats 2000000 in
theorem longer_l1 (hi lo n : Nat) (w : World)  (h2 : lo < 18446744073709551616) (hn : 64 ≤ n) (hn2 : n < 128) (hr : rt (wideN hi lo) n) :
    Calls Tryz.prog 131 #[.agg #[.int .u64 (hi : Nat), .int .u64 (lo : Nat), .int .i64 (n : Nat)], .int .i64 1] w fun e w' => e = .returned (.agg #[.int .u64 (hi : Nat), .int .u64 ((lo : Int) + 2 ^ (127 - n)), .int .i64 ((n : Int) + 1)]) ∧ Below w.heap.size w w' := by
  have hbd := room_lo h2 hn hn2 (rt_lo hn (by omega) hr)
  have hor := or_join (127 - n) hbd (by rw [show (127 - n) + 1 = 128 - n from by omega]; exact rt_lo hn (by omega) hr)
  have hwr : IntKind.u64.wrap ((2 : Int) ^ (127 - n)) = (2 : Int) ^ (127 - n) := by
    rw [show ((2 : Int) ^ (127 - n)) = ((2 ^ (127 - n) : Nat) : Int) from by simp]
    exact wrap_nat _ (Nat.lt_of_le_of_lt (Nat.le_add_left _ _) hbd)
  go_enter Tryz.func131, Tryz.ntmps131
  go_wp2
  go_region
  go_wp2
  refine bodyPost_ret (v := .agg #[.int .u64 (hi : Nat), .int .u64 ((lo : Int) + 2 ^ (127 - n)), .int .i64 ((n : Int) + 1)]) (by simp [results, Tryz.results131, go_sem]) rfl ⟨rfl, ?_⟩
  exact (((Below.refl _ _).alloc (Nat.le_refl _) _).alloc (by simp) _).drew

set_option maxRecDepth 100000 in
/-- one bit more of a number -/
theorem longer_of (P i : Nat) (w : World) (hP : P < 2 ^ 128) (hi : i < 128) :
    Calls Tryz.prog 131 #[pfW (ofW P i) (i : Nat), .int .i64 (bitW P i : Nat)] w fun e w' => e = .returned (pfW (ofW P (i + 1)) ((i + 1 : Nat) : Int)) ∧ Below w.heap.size w w' := by
  have b1 := hiN_lt (ofW_lt (n := i) hP)
  have b2 := loN_lt (ofW P i)
  have hs := wide_split (ofW P i)
  have hr : rt (wideN (hiN (ofW P i)) (loN (ofW P i))) i := by rw [hs]; exact rt_of P i
  have hsu := ofW_succ P i hi
  have key : ∀ x y : Nat, y < 18446744073709551616 → wideN x y = ofW P (i + 1) → pfW (ofW P (i + 1)) ((i + 1 : Nat) : Int) = .agg #[.int .u64 (x : Nat), .int .u64 (y : Nat), .int .i64 ((i : Int) + 1)] := fun x y hy e => by
    rw [← e, pfW_wide hy]; rfl
  show Calls Tryz.prog 131 #[.agg #[.int .u64 (hiN (ofW P i) : Nat), .int .u64 (loN (ofW P i) : Nat), .int .i64 (i : Nat)], .int .i64 (bitW P i : Nat)] w _
  rcases bitW_two P i with hb | hb
  · rw [hb] at hsu ⊢
    rw [key (hiN (ofW P i)) (loN (ofW P i)) b2 (by rw [hs, hsu]; simp)]
    by_cases h : i < 64
    · exact longer_h0 _ _ i w b1 h
    · exact longer_l0 _ _ i w b2 (by omega) hi
  · rw [hb] at hsu ⊢
    rw [Nat.one_mul] at hsu
    by_cases h : i < 64
    · have e1 : (2 : Nat) ^ (127 - i) = 2 ^ (63 - i) * 2 ^ 64 := by rw [← Nat.pow_add]; congr 1; omega
      rw [key (hiN (ofW P i) + 2 ^ (63 - i)) (loN (ofW P i)) b2 (by rw [hsu, e1, wide_add, hs])]
      have := longer_h1 _ _ i w b1 b2 h hr
      rw [show ((hiN (ofW P i) + 2 ^ (63 - i) : Nat) : Int) = (hiN (ofW P i) : Int) + 2 ^ (63 - i) from by simp]
      exact this
    · have hl := room_lo b2 (by omega) hi (rt_lo (by omega) (by omega) hr)
      rw [key (hiN (ofW P i)) (loN (ofW P i) + 2 ^ (127 - i)) hl (by rw [hsu, wide_low, hs])]
      have := longer_l1 _ _ i w b2 (by omega) hi hr
      rw [show ((loN (ofW P i) + 2 ^ (127 - i) : Nat) : Int) = (loN (ofW P i) : Int) + 2 ^ (127 - i) from by simp]
      exact this
end Go.Proofs.YtoobiaifogackaaGreatDoor
