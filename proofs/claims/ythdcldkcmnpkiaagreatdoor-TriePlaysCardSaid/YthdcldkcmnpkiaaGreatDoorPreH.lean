/-
  Layer 7: the document's Covers, Of: what they come to.
-/
import Derived.Test.YthdcldkcmnpkiaaGreatDoorPreG
import Derived.Test.YthdcldkcmnpkiaaGreatDoorTriD
namespace Go.Proofs.YthdcldkcmnpkiaaGreatDoor
open Go.RowKit


theorem bit_of (A : Nat) {n i : Nat} (hn : n ≤ 128) (hi : i < 128) : bitW (ofW A n) i = if i < n then bitW A i else 0 := by
  split
  · rename_i h
    have e1 := qt_short (n := i + 1) (by omega) hn (qt_of A n)
    have e2 := qt_short (n := i) (by omega) hn (qt_of A n)
    rw [qt_succ _ _ hi, qt_succ _ _ hi] at e1
    omega
  · rename_i h
    exact (rt_bits hn).1 (rt_of A n) i (by omega) hi
def hiAcc (M i : Nat) : Nat := qt M (min i 64)
def loAcc (M i : Nat) : Nat := qt M i % 2 ^ (i - 64)
theorem hiAcc_lo {M i : Nat} (h : i < 64) : hiAcc M (i + 1) = 2 * hiAcc M i + bitW M i := by
  unfold hiAcc; rw [Nat.min_eq_left (by omega), Nat.min_eq_left (by omega), qt_succ _ _ (by omega)]
theorem hiAcc_hi {M i : Nat} (h : 64 ≤ i) : hiAcc M (i + 1) = hiAcc M i := by
  unfold hiAcc; rw [Nat.min_eq_right (by omega), Nat.min_eq_right (by omega)]
theorem loAcc_lo {M i : Nat} (h : i < 64) : loAcc M (i + 1) = loAcc M i := by
  unfold loAcc; rw [show i + 1 - 64 = 0 from by omega, show i - 64 = 0 from by omega]; simp; omega
theorem loAcc_hi {M i : Nat} (h : 64 ≤ i) (h2 : i < 128) : loAcc M (i + 1) = 2 * loAcc M i + bitW M i := by
  unfold loAcc
  rw [show i + 1 - 64 = (i - 64) + 1 from by omega, Nat.pow_succ, qt_succ _ _ h2]
  have hb := bitW_two M i
  have hp : 0 < 2 ^ (i - 64) := Nat.pow_pos (by decide)
  generalize qt M i = q
  generalize 2 ^ (i - 64) = d at *
  have e : q = d * (q / d) + q % d := (Nat.div_add_mod q d).symm
  have hl : q % d < d := Nat.mod_lt _ hp
  generalize q % d = r at *
  generalize q / d = c at *
  rw [e]
  rw [show 2 * (d * c + r) + bitW M i = (2 * r + bitW M i) + (d * 2) * c from by rw [Nat.mul_add, Nat.mul_comm d 2, Nat.mul_assoc]; omega, Nat.add_mul_mod_self_left, Nat.mod_eq_of_lt (by omega)]
theorem qt_bound {M i : Nat} (h : M < 2 ^ 128) (hi : i ≤ 128) : qt M i < 2 ^ i := by
  unfold qt
  rw [Nat.div_lt_iff_lt_mul (Nat.pow_pos (by decide)), ← Nat.pow_add, show i + (128 - i) = 128 from by omega]; exact h
theorem hiAcc_bound {M i : Nat} (h : M < 2 ^ 128) (hi : i < 64) : 2 * hiAcc M i + 1 < 18446744073709551616 := by
  have := qt_bound h (i := min i 64) (by omega)
  have h2 : 2 ^ (min i 64) ≤ 2 ^ 63 := Nat.pow_le_pow_right (by decide) (by omega)
  unfold hiAcc; omega
theorem loAcc_bound {M i : Nat} (h : 64 ≤ i) (hi : i < 128) : 2 * loAcc M i + 1 < 18446744073709551616 := by
  have : qt M i % 2 ^ (i - 64) < 2 ^ (i - 64) := Nat.mod_lt _ (Nat.pow_pos (by decide))
  have h2 : 2 ^ (i - 64) ≤ 2 ^ 63 := Nat.pow_le_pow_right (by decide) (by omega)
  unfold loAcc; omega
theorem acc_end (M : Nat) : hiAcc M 128 = hiN M ∧ loAcc M 128 = loN M := by
  constructor
  · show M / 2 ^ (128 - min 128 64) = _; rfl
  · show M / 2 ^ (128 - 128) % 2 ^ (128 - 64) = _; rw [show 128 - 128 = 0 from rfl, Nat.pow_zero, Nat.div_one]; rfl
theorem acc_start (M : Nat) (h : M < 2 ^ 128) : hiAcc M 0 = 0 ∧ loAcc M 0 = 0 := by
  constructor
  · exact qt_lt h
  · show qt M 0 % 2 ^ (0 - 64) = 0; rw [qt_lt h]
theorem ofW_lt {A n : Nat} (h : A < 2 ^ 128) : ofW A n < 2 ^ 128 := Nat.lt_of_le_of_lt (ofW_le A n) h

set_option maxRecDepth 100000 in
set_option maxHeartbeats 1000000 in
theorem refOf_out (v : Array Value) (n : Int) (w : World) (h : n < 0 ∨ 128 < n) :
    Calls Tryz.prog 12 #[.agg v, .int .i64 n] w fun e w' => e = .returned (.tuple #[pfW 0 0, .bool false]) ∧ Below w.heap.size w w' := by
  by_cases h0 : n < 0
  · clear h
    go_enter Tryz.func12, Tryz.ntmps12
    go_wp2
    refine bodyPost_ret (v := .tuple #[.agg #[.int .u64 0, .int .u64 0, .int .i64 0], .bool false]) (by simp [results, Tryz.results12, go_sem]) rfl ⟨rfl, ?_⟩
    exact ((Below.refl _ _).alloc (Nat.le_refl _) _).alloc (by simp) _
  · have h1 : 128 < n := by omega
    clear h
    go_enter Tryz.func12, Tryz.ntmps12
    go_wp2
    refine bodyPost_ret (v := .tuple #[.agg #[.int .u64 0, .int .u64 0, .int .i64 0], .bool false]) (by simp [results, Tryz.results12, go_sem]) rfl ⟨rfl, ?_⟩
    exact ((Below.refl _ _).alloc (Nat.le_refl _) _).alloc (by simp) _

theorem keep_of (w : World) (a b c x y z : Value) (t t' : TypeId) : ∀ W, Below (w.heap.size + 2) ((w.alloc (.cells #[a, b, c] t)).alloc (.cells #[x, y, z] t')) W →
    (W.cell? ⟨w.heap.size, 0, none⟩ = some a ∧ W.cell? ⟨w.heap.size, 1, none⟩ = some b ∧ W.cell? ⟨w.heap.size, 2, none⟩ = some c) ∧ W.cell? ⟨w.heap.size + 1, 0, none⟩ = some x ∧ W.cell? ⟨w.heap.size + 1, 1, none⟩ = some y ∧ W.cell? ⟨w.heap.size + 1, 2, none⟩ = some z :=
  keep_box33 w a b c x y z t t'
theorem fz_of {w W : World} {a b : Obj} (h : Below (w.heap.size + 2) ((w.alloc a).alloc b) W) : ∀ o, W.frozen? ⟨w.heap.size + 1, o, none⟩ = ((w.alloc a).alloc b).frozen? ⟨w.heap.size + 1, o, none⟩ := fun o => h.frozen (p := ⟨w.heap.size + 1, o, none⟩) (by show w.heap.size + 1 < _; omega)
theorem row3 {W : World} {b : Nat} {x y z : Value} {t : TypeId} (h : W.heap[b]? = some (.cells #[x, y, z] t)) :
    (W.cell? ⟨b, 0, none⟩ = some x ∧ W.cell? ⟨b, 1, none⟩ = some y ∧ W.cell? ⟨b, 2, none⟩ = some z) ∧ W.frozen? ⟨b, 0, none⟩ = false ∧ W.frozen? ⟨b, 1, none⟩ = false ∧ W.frozen? ⟨b, 2, none⟩ = false :=
  ⟨⟨cell_row h 0, cell_row h 1, cell_row h 2⟩, frozen_row h 0, frozen_row h 1, frozen_row h 2⟩
set_option maxRecDepth 100000 in
set_option maxHeartbeats 2000000 in
theorem refOf_in (s : Bool) (ah al n : Nat) (w : World) (h1 : ah < 18446744073709551616) (h2 : al < 18446744073709551616) (hn : n ≤ 128) :
    Calls Tryz.prog 12 #[.agg #[.bool s, .int .u64 ah, .int .u64 al], .int .i64 n] w fun e w' => e = .returned (.tuple #[pfW (ofW (wideN ah al) n) n, .bool true]) ∧ Below w.heap.size w w' := by
  have hM : ofW (wideN ah al) n < 2 ^ 128 := ofW_lt (wide_lt h1 h2)
  have hbit : ∀ i, i < 128 → bitW (ofW (wideN ah al) n) i = if i < n then bitW (wideN ah al) i else 0 := fun i hi => bit_of _ hn hi
  obtain ⟨M, hMe⟩ : ∃ M, ofW (wideN ah al) n = M := ⟨_, rfl⟩
  rw [hMe] at hM hbit ⊢
  have HM := Lib.hid hM
  have HBIT := Lib.hid hbit
  have HB : Hid (∀ (i : Nat) W, i < 128 → Calls Tryz.prog 14 #[.int .u64 ah, .int .u64 al, .int .i64 i] W fun e w' => e = .returned (.int .i64 (bitW (wideN ah al) i : Nat)) ∧ W = w') := fun i W hi => refBit_any ah al i W h1 h2 hi
  have HK := Lib.hid (keep_of w (.bool s) (.int .u64 ah) (.int .u64 al) (.int .u64 0) (.int .u64 0) (.int .i64 0) 35 31)
  have HE := Lib.hid (acc_end M)
  have HS := Lib.hid (acc_start M hM)
  have HV : Hid (pfW M n = .agg #[.int .u64 (hiN M : Nat), .int .u64 (loN M : Nat), .int .i64 n]) := rfl
  rw [HV.out]
  clear hM hbit hMe HV
  go_enter Tryz.func12, Tryz.ntmps12
  go_wp2
  go_loopw [7] (fun x wr => ∃ i : Nat, i ≤ 128 ∧ x = .int .i64 i ∧ Below (w.heap.size + 2) ((w.alloc (.cells #[.bool s, .int .u64 ah, .int .u64 al] 35)).alloc (.cells #[.int .u64 0, .int .u64 0, .int .i64 0] 31)) wr ∧ Hid (wr.heap[w.heap.size + 2]? = some (.cells #[.int .u64 (hiAcc M i : Nat), .int .u64 (loAcc M i : Nat), .int .i64 n] 31))) (fun x _ => 128 - (intOf x).toNat)
  case atStart =>
    refine ⟨0, by omega, rfl, (Below.refl _ _).alloc (by simp) _, ?_⟩
    rw [HS.out.1, HS.out.2]
    show _ = _
    rw [show w.heap.size + 2 = ((w.alloc (.cells #[.bool s, .int .u64 ah, .int .u64 al] 35)).alloc (.cells #[.int .u64 0, .int .u64 0, .int .i64 0] 31)).heap.size by simp]
    exact Go.Deep.blk_alloc_new _ _
  case round =>
    obtain ⟨i, hi2, rfl, hk, HR⟩ := hrel
    obtain ⟨⟨c0, c1, c2⟩, e0, e1, e2⟩ := HK.out wr hk
    obtain ⟨⟨r0, r1, r2⟩, f0, f1, f2⟩ := row3 HR.out
    by_cases hlt : i < 128
    · have hbv := HBIT.out i hlt
      have hb2 := bitW_two M i
      by_cases hin : i < n
      · rw [if_pos hin] at hbv
        have HN : Hid (∀ W, Calls Tryz.prog 14 #[.int .u64 ah, .int .u64 al, .int .i64 i] W fun e w' => e = .returned (.int .i64 (bitW M i : Nat)) ∧ W = w') := fun W => by
          have := HB.out i W hlt; rw [← hbv] at this; exact this
        clear hbv
        by_cases h64 : i < 64
        · have q1 := hiAcc_bound HM.out h64
          have Q2 := Lib.hid (hiAcc_lo (M := M) h64)
          have Q3 := Lib.hid (loAcc_lo (M := M) h64)
          generalize hiAcc M i = H at *
          generalize bitW M i = B at *
          go_wp2_with fail
          refine (HN.out _).mono ?_
          rintro e w' ⟨rfl, rfl⟩
          go_wp2
          go_roundw
          case rel => exact ⟨i + 1, by omega, by go_num, hk.setCell (by show w.heap.size + 2 ≤ _; exact Nat.le_refl _) _, by
            show _ = _
            rw [set_row HR.out, Q2.out, Q3.out]
            simp⟩
          case measure => simp [intOf]; omega
        · have h65 : 64 ≤ i := by omega
          clear h64
          have q1 := loAcc_bound (M := M) h65 hlt
          have Q2 := Lib.hid (hiAcc_hi (M := M) h65)
          have Q3 := Lib.hid (loAcc_hi (M := M) h65 hlt)
          generalize loAcc M i = H at *
          generalize bitW M i = B at *
          go_wp2_with fail
          refine (HN.out _).mono ?_
          rintro e w' ⟨rfl, rfl⟩
          go_wp2
          go_roundw
          case rel => exact ⟨i + 1, by omega, by go_num, hk.setCell (by show w.heap.size + 2 ≤ _; exact Nat.le_refl _) _, by
            show _ = _
            rw [set_row HR.out, Q2.out, Q3.out]
            simp⟩
          case measure => simp [intOf]; omega
      · rw [if_neg hin] at hbv
        by_cases h64 : i < 64
        · have q1 := hiAcc_bound HM.out h64
          have Q2 := Lib.hid (hiAcc_lo (M := M) h64)
          have Q3 := Lib.hid (loAcc_lo (M := M) h64)
          have QZ := Lib.hid hbv
          clear hbv hb2
          generalize hiAcc M i = H at *
          go_wp2
          go_roundw
          case rel => exact ⟨i + 1, by omega, by go_num, hk.setCell (by show w.heap.size + 2 ≤ _; exact Nat.le_refl _) _, by
            show _ = _
            rw [set_row HR.out, Q2.out, Q3.out, QZ.out]
            simp⟩
          case measure => simp [intOf]; omega
        · have h65 : 64 ≤ i := by omega
          clear h64
          have q1 := loAcc_bound (M := M) h65 hlt
          have Q2 := Lib.hid (hiAcc_hi (M := M) h65)
          have Q3 := Lib.hid (loAcc_hi (M := M) h65 hlt)
          have QZ := Lib.hid hbv
          clear hbv hb2
          generalize loAcc M i = H at *
          go_wp2
          go_roundw
          case rel => exact ⟨i + 1, by omega, by go_num, hk.setCell (by show w.heap.size + 2 ≤ _; exact Nat.le_refl _) _, by
            show _ = _
            rw [set_row HR.out, Q2.out, Q3.out, QZ.out]
            simp⟩
          case measure => simp [intOf]; omega
    · have e : i = 128 := by omega
      subst e
      rw [HE.out.1] at r0
      rw [HE.out.2] at r1
      have g0 : wr.frozen? ⟨w.heap.size + 1, 0, none⟩ = false := by rw [fz_of hk]; simp [go_sem]
      have g1 : wr.frozen? ⟨w.heap.size + 1, 1, none⟩ = false := by rw [fz_of hk]; simp [go_sem]
      have g2 : wr.frozen? ⟨w.heap.size + 1, 2, none⟩ = false := by rw [fz_of hk]; simp [go_sem]
      go_wp2
      refine bodyPost_ret (v := .tuple #[.agg #[.int .u64 (hiN M : Nat), .int .u64 (loN M : Nat), .int .i64 n], .bool true]) (by simp [results, Tryz.results12, go_sem, e0, e1, e2]) rfl ⟨rfl, ?_⟩
      exact ((((alloc_keeps2 hk).setCell (Nat.le_succ _) _).setCell (Nat.le_succ _) _).setCell (Nat.le_succ _) _)
set_option maxRecDepth 100000 in
set_option maxHeartbeats 1000000 in
theorem refCov_a (hi lo hi2 lo2 : Nat) (n m : Int) (w : World) (h1 : hi < 18446744073709551616) (h2 : lo < 18446744073709551616) (_ : hi2 < 18446744073709551616) (_ : lo2 < 18446744073709551616) (r1 : pRightB (wideN hi lo) n = false) :
    Calls Tryz.prog 20 #[.agg #[.int .u64 hi, .int .u64 lo, .int .i64 n], .agg #[.int .u64 hi2, .int .u64 lo2, .int .i64 m]] w fun e w' => e = .returned (.bool false) ∧ Below w.heap.size w w' := by
  have HK := Lib.hid (keep_box2 w (.int .u64 hi) (.int .u64 lo) (.int .i64 n) (.int .u64 hi2) (.int .u64 lo2) (.int .i64 m) 31)
  have HR1 : Hid (∀ W, Calls Tryz.prog 16 #[.agg #[.int .u64 hi, .int .u64 lo, .int .i64 n]] W fun e w' => e = .returned (.bool false) ∧ Below W.heap.size W w') := fun W => by
    have := refRight7_any hi lo n W h1 h2; rwa [r1] at this
  clear r1
  go_enter Tryz.func20, Tryz.ntmps20
  go_wp2_with fail
  refine (HR1.out _).mono ?_
  rintro e x1 ⟨rfl, hb1⟩
  have hk1 : Below (w.heap.size + 2) ((w.alloc (.cells #[.int .u64 hi, .int .u64 lo, .int .i64 n] 31)).alloc (.cells #[.int .u64 hi2, .int .u64 lo2, .int .i64 m] 31)) x1 := hb1.mono (by simp)
  obtain ⟨⟨ca1, cb1, cc1⟩, cd1, ce1, cf1⟩ := HK.out x1 hk1
  clear hb1
  go_wp2
  go_ret
  exact ⟨rfl, alloc_keeps2 hk1⟩
set_option maxRecDepth 100000 in
set_option maxHeartbeats 1000000 in
theorem refCov_b (hi lo hi2 lo2 : Nat) (n m : Int) (w : World) (h1 : hi < 18446744073709551616) (h2 : lo < 18446744073709551616) (h3 : hi2 < 18446744073709551616) (h4 : lo2 < 18446744073709551616) (r1 : pRightB (wideN hi lo) n = true) (r2 : pRightB (wideN hi2 lo2) m = false) :
    Calls Tryz.prog 20 #[.agg #[.int .u64 hi, .int .u64 lo, .int .i64 n], .agg #[.int .u64 hi2, .int .u64 lo2, .int .i64 m]] w fun e w' => e = .returned (.bool false) ∧ Below w.heap.size w w' := by
  have HK := Lib.hid (keep_box2 w (.int .u64 hi) (.int .u64 lo) (.int .i64 n) (.int .u64 hi2) (.int .u64 lo2) (.int .i64 m) 31)
  have HR1 : Hid (∀ W, Calls Tryz.prog 16 #[.agg #[.int .u64 hi, .int .u64 lo, .int .i64 n]] W fun e w' => e = .returned (.bool true) ∧ Below W.heap.size W w') := fun W => by
    have := refRight7_any hi lo n W h1 h2; rwa [r1] at this
  have HR2 : Hid (∀ W, Calls Tryz.prog 16 #[.agg #[.int .u64 hi2, .int .u64 lo2, .int .i64 m]] W fun e w' => e = .returned (.bool false) ∧ Below W.heap.size W w') := fun W => by
    have := refRight7_any hi2 lo2 m W h3 h4; rwa [r2] at this
  clear r1 r2
  go_enter Tryz.func20, Tryz.ntmps20
  go_wp2_with fail
  refine (HR1.out _).mono ?_
  rintro e x1 ⟨rfl, hb1⟩
  have hk1 : Below (w.heap.size + 2) ((w.alloc (.cells #[.int .u64 hi, .int .u64 lo, .int .i64 n] 31)).alloc (.cells #[.int .u64 hi2, .int .u64 lo2, .int .i64 m] 31)) x1 := hb1.mono (by simp)
  obtain ⟨⟨ca1, cb1, cc1⟩, cd1, ce1, cf1⟩ := HK.out x1 hk1
  clear hb1
  go_wp2_with fail
  refine (HR2.out _).mono ?_
  rintro e x2 ⟨rfl, hb2⟩
  have hk2 : Below (w.heap.size + 2) ((w.alloc (.cells #[.int .u64 hi, .int .u64 lo, .int .i64 n] 31)).alloc (.cells #[.int .u64 hi2, .int .u64 lo2, .int .i64 m] 31)) x2 := chain_b (by simp) hk1 hb2
  clear ca1 cb1 cc1 cd1 ce1 cf1
  obtain ⟨⟨ca2, cb2, cc2⟩, cd2, ce2, cf2⟩ := HK.out x2 hk2
  clear hb2
  go_wp2
  go_ret
  exact ⟨rfl, alloc_keeps2 hk2⟩
set_option maxRecDepth 100000 in
set_option maxHeartbeats 1000000 in
theorem refCov_c (hi lo hi2 lo2 : Nat) (n m : Int) (w : World) (h1 : hi < 18446744073709551616) (h2 : lo < 18446744073709551616) (h3 : hi2 < 18446744073709551616) (h4 : lo2 < 18446744073709551616) (r1 : pRightB (wideN hi lo) n = true) (r2 : pRightB (wideN hi2 lo2) m = true) (hm : m < n) :
    Calls Tryz.prog 20 #[.agg #[.int .u64 hi, .int .u64 lo, .int .i64 n], .agg #[.int .u64 hi2, .int .u64 lo2, .int .i64 m]] w fun e w' => e = .returned (.bool false) ∧ Below w.heap.size w w' := by
  have HK := Lib.hid (keep_box2 w (.int .u64 hi) (.int .u64 lo) (.int .i64 n) (.int .u64 hi2) (.int .u64 lo2) (.int .i64 m) 31)
  have HR1 : Hid (∀ W, Calls Tryz.prog 16 #[.agg #[.int .u64 hi, .int .u64 lo, .int .i64 n]] W fun e w' => e = .returned (.bool true) ∧ Below W.heap.size W w') := fun W => by
    have := refRight7_any hi lo n W h1 h2; rwa [r1] at this
  have HR2 : Hid (∀ W, Calls Tryz.prog 16 #[.agg #[.int .u64 hi2, .int .u64 lo2, .int .i64 m]] W fun e w' => e = .returned (.bool true) ∧ Below W.heap.size W w') := fun W => by
    have := refRight7_any hi2 lo2 m W h3 h4; rwa [r2] at this
  clear r1 r2
  go_enter Tryz.func20, Tryz.ntmps20
  go_wp2_with fail
  refine (HR1.out _).mono ?_
  rintro e x1 ⟨rfl, hb1⟩
  have hk1 : Below (w.heap.size + 2) ((w.alloc (.cells #[.int .u64 hi, .int .u64 lo, .int .i64 n] 31)).alloc (.cells #[.int .u64 hi2, .int .u64 lo2, .int .i64 m] 31)) x1 := hb1.mono (by simp)
  obtain ⟨⟨ca1, cb1, cc1⟩, cd1, ce1, cf1⟩ := HK.out x1 hk1
  clear hb1
  go_wp2_with fail
  refine (HR2.out _).mono ?_
  rintro e x2 ⟨rfl, hb2⟩
  have hk2 : Below (w.heap.size + 2) ((w.alloc (.cells #[.int .u64 hi, .int .u64 lo, .int .i64 n] 31)).alloc (.cells #[.int .u64 hi2, .int .u64 lo2, .int .i64 m] 31)) x2 := chain_b (by simp) hk1 hb2
  clear ca1 cb1 cc1 cd1 ce1 cf1
  obtain ⟨⟨ca2, cb2, cc2⟩, cd2, ce2, cf2⟩ := HK.out x2 hk2
  clear hb2
  go_wp2
  go_ret
  exact ⟨rfl, alloc_keeps2 hk2⟩
set_option maxRecDepth 100000 in
set_option maxHeartbeats 1000000 in
theorem refCov_d (hi lo hi2 lo2 : Nat) (n m : Int) (w : World) (h1 : hi < 18446744073709551616) (h2 : lo < 18446744073709551616) (h3 : hi2 < 18446744073709551616) (h4 : lo2 < 18446744073709551616) (r1 : pRightB (wideN hi lo) n = true) (r2 : pRightB (wideN hi2 lo2) m = true) (hm : n ≤ m) :
    Calls Tryz.prog 20 #[.agg #[.int .u64 hi, .int .u64 lo, .int .i64 n], .agg #[.int .u64 hi2, .int .u64 lo2, .int .i64 m]] w fun e w' => e = .returned (.bool (coversB (wideN hi lo) n (wideN hi2 lo2) m)) ∧ Below w.heap.size w w' := by
  have HK := Lib.hid (keep_box2 w (.int .u64 hi) (.int .u64 lo) (.int .i64 n) (.int .u64 hi2) (.int .u64 lo2) (.int .i64 m) 31)
  have HR1 : Hid (∀ W, Calls Tryz.prog 16 #[.agg #[.int .u64 hi, .int .u64 lo, .int .i64 n]] W fun e w' => e = .returned (.bool true) ∧ Below W.heap.size W w') := fun W => by
    have := refRight7_any hi lo n W h1 h2; rwa [r1] at this
  have HR2 : Hid (∀ W, Calls Tryz.prog 16 #[.agg #[.int .u64 hi2, .int .u64 lo2, .int .i64 m]] W fun e w' => e = .returned (.bool true) ∧ Below W.heap.size W w') := fun W => by
    have := refRight7_any hi2 lo2 m W h3 h4; rwa [r2] at this
  have HH : Hid (∀ W, Calls Tryz.prog 18 #[.agg #[.int .u64 hi, .int .u64 lo, .int .i64 n], .agg #[.bool true, .int .u64 hi2, .int .u64 lo2]] W fun e w' => e = .returned (.bool (coversB (wideN hi lo) n (wideN hi2 lo2) m)) ∧ Below W.heap.size W w') := fun W => by
    have := refHas_any hi lo n hi2 lo2 true W h1 h2 h3 h4
    rwa [show coversB (wideN hi lo) n (wideN hi2 lo2) m = pHasB (wideN hi lo) n (wideN hi2 lo2) from by unfold coversB pHasB; rw [r2, decide_eq_true hm, Bool.true_and, Bool.true_and]]
  clear r1 r2
  generalize coversB (wideN hi lo) n (wideN hi2 lo2) m = b at *
  go_enter Tryz.func20, Tryz.ntmps20
  go_wp2_with fail
  refine (HR1.out _).mono ?_
  rintro e x1 ⟨rfl, hb1⟩
  have hk1 : Below (w.heap.size + 2) ((w.alloc (.cells #[.int .u64 hi, .int .u64 lo, .int .i64 n] 31)).alloc (.cells #[.int .u64 hi2, .int .u64 lo2, .int .i64 m] 31)) x1 := hb1.mono (by simp)
  obtain ⟨⟨ca1, cb1, cc1⟩, cd1, ce1, cf1⟩ := HK.out x1 hk1
  clear hb1
  go_wp2_with fail
  refine (HR2.out _).mono ?_
  rintro e x2 ⟨rfl, hb2⟩
  have hk2 : Below (w.heap.size + 2) ((w.alloc (.cells #[.int .u64 hi, .int .u64 lo, .int .i64 n] 31)).alloc (.cells #[.int .u64 hi2, .int .u64 lo2, .int .i64 m] 31)) x2 := chain_b (by simp) hk1 hb2
  clear ca1 cb1 cc1 cd1 ce1 cf1
  obtain ⟨⟨ca2, cb2, cc2⟩, cd2, ce2, cf2⟩ := HK.out x2 hk2
  clear hb2
  go_wp2_with fail
  refine (HH.out _).mono ?_
  rintro e x3 ⟨rfl, hb3⟩
  have hk3 : Below (w.heap.size + 2) ((w.alloc (.cells #[.int .u64 hi, .int .u64 lo, .int .i64 n] 31)).alloc (.cells #[.int .u64 hi2, .int .u64 lo2, .int .i64 m] 31)) x3 := chain_b (by simp) hk2 hb3
  clear ca2 cb2 cc2 cd2 ce2 cf2
  obtain ⟨⟨ca3, cb3, cc3⟩, cd3, ce3, cf3⟩ := HK.out x3 hk3
  clear hb3
  go_wp2
  go_ret
  exact ⟨rfl, alloc_keeps2 hk3⟩
theorem refCovers_any (hi lo hi2 lo2 : Nat) (n m : Int) (w : World) (h1 : hi < 18446744073709551616) (h2 : lo < 18446744073709551616) (h3 : hi2 < 18446744073709551616) (h4 : lo2 < 18446744073709551616) :
    Calls Tryz.prog 20 #[.agg #[.int .u64 hi, .int .u64 lo, .int .i64 n], .agg #[.int .u64 hi2, .int .u64 lo2, .int .i64 m]] w fun e w' => e = .returned (.bool (coversB (wideN hi lo) n (wideN hi2 lo2) m)) ∧ Below w.heap.size w w' := by
  cases r1 : pRightB (wideN hi lo) n with
  | false =>
    rw [show coversB (wideN hi lo) n (wideN hi2 lo2) m = false from by unfold coversB; rw [r1]; rfl]
    exact refCov_a hi lo hi2 lo2 n m w h1 h2 h3 h4 r1
  | true =>
    cases r2 : pRightB (wideN hi2 lo2) m with
    | false =>
      rw [show coversB (wideN hi lo) n (wideN hi2 lo2) m = false from by unfold coversB; rw [r1, r2]; rfl]
      exact refCov_b hi lo hi2 lo2 n m w h1 h2 h3 h4 r1 r2
    | true =>
      by_cases hm : n ≤ m
      · exact refCov_d hi lo hi2 lo2 n m w h1 h2 h3 h4 r1 r2 hm
      · rw [show coversB (wideN hi lo) n (wideN hi2 lo2) m = false from by unfold coversB; rw [r1, r2, decide_eq_false hm]; rfl]
        exact refCov_c hi lo hi2 lo2 n m w h1 h2 h3 h4 r1 r2 (by omega)
end Go.Proofs.YthdcldkcmnpkiaaGreatDoor
