/-
  Layer 7: '==' of prefixes, Right, Covers, Bit: what they come to.
-/
import Derived.Test.YtoobiaifogackaaGreatDoorPreB
namespace Go.Proofs.YtoobiaifogackaaGreatDoor
open Go.RowKit


theorem eqPf_guard (u v : Array Value) : ∀ (p q : Operand) (W : World), (eqGuard .eql 37 p q (.agg u) (.agg v)).run Tryz.prog W = .ok () W := by
  intro p q W; kernel_rfl
theorem eqPf (a b c a' b' c' : Int) : ∀ W : World, (binOp .eql 37 (.agg #[.int .u64 a, .int .u64 b, .int .i64 c]) (.agg #[.int .u64 a', .int .u64 b', .int .i64 c'])).run Tryz.prog W = .ok (.bool (a == a' && (b == b' && c == c'))) W := by
  intro W
  have e1 : (Op.equal 37 (.agg #[.int .u64 a, .int .u64 b, .int .i64 c]) (.agg #[.int .u64 a', .int .u64 b', .int .i64 c'])).run Tryz.prog W = .ok (a == a' && (b == b' && c == c')) W := by
    show (Op.equalIn 10000 37 _ _).run Tryz.prog W = _
    rw [run_equalIn_struct W 9999 37 _ _ (by kernel_rfl) (by kernel_rfl)]
    simp [Program.fieldsOf, Tryz.underlying37, Op.eqFields, go_sem, part, Tryz.sizeOf22, Tryz.isAgg22, Tryz.underlying22, Tryz.sizeOf3, Tryz.isAgg3, Tryz.underlying3]
    by_cases g1 : a = a' <;> by_cases g2 : b = b' <;> by_cases g3 : c = c' <;> simp [g1, g2, g3]
  show ((Op.equal _ _ _ >>= fun b => pure (Value.bool b)) : Sem Value).run _ _ = _
  rw [Sem.run_bind, e1]; rfl

theorem keep_box (w : World) (a b c : Value) (t : TypeId) : ∀ W, Below (w.heap.size + 1) (w.alloc (.cells #[a, b, c] t)) W → W.cell? ⟨w.heap.size, 0, none⟩ = some a ∧ W.cell? ⟨w.heap.size, 1, none⟩ = some b ∧ W.cell? ⟨w.heap.size, 2, none⟩ = some c := fun W h => by
  refine ⟨?_, ?_, ?_⟩
  all_goals
    rw [h.cell (p := ⟨w.heap.size, _, none⟩) (by show w.heap.size < _; omega)]
    simp [go_sem]
theorem alloc_keeps {w W : World} {o : Obj} (h : Below (w.heap.size + 1) (w.alloc o) W) : Below w.heap.size w W :=
  ((Below.refl _ _).alloc (Nat.le_refl _) o).trans (h.mono (Nat.le_succ _))
theorem drew_a {x : World} {n : Nat} : Below n x x.drew := (Below.refl _ _).drew
theorem drew_n {x : World} {n k : Nat} : Below n x (x.drewN k) := ⟨rfl, rfl, rfl, Nat.le_refl _, fun _ _ => rfl⟩
theorem drew_b {x W : World} {n : Nat} (hn : n ≤ x.heap.size) (h : Below x.drew.heap.size x.drew W) : Below n x W := (Below.refl _ _).drew.trans (h.mono hn)
theorem chain_b {x y W : World} {n : Nat} (hn : n ≤ x.heap.size) (h : Below n x y) (h2 : Below y.heap.size y W) : Below n x W := h.trans (h2.mono (Nat.le_trans hn h.size))

set_option maxRecDepth 100000 in
set_option maxHeartbeats 1000000 in
theorem right_in (hi lo n : Nat) (w : World) (h1 : hi < 18446744073709551616) (h2 : lo < 18446744073709551616) (hn : n ≤ 128) :
    Calls Tryz.prog 25 #[.agg #[.int .u64 hi, .int .u64 lo, .int .i64 n]] w fun e w' => e = .returned (.bool (pRightB (wideN hi lo) n)) ∧ Below w.heap.size w w' := by
  obtain ⟨h', g1⟩ : ∃ x, hiN (ofW (wideN hi lo) n) = x := ⟨_, rfl⟩
  obtain ⟨l', g2⟩ : ∃ x, loN (ofW (wideN hi lo) n) = x := ⟨_, rfl⟩
  have HC : Hid (∀ W, Calls Tryz.prog 57 #[.int .u64 hi, .int .u64 lo, .int .i64 n] W fun e w' => e = .returned (.agg #[.int .u64 h', .int .u64 l', .int .i64 n]) ∧ Below W.heap.size W w') := fun W => by
    have := highest_any hi lo n W h1 h2 hn
    unfold pfW at this
    rw [g1, g2] at this
    exact this
  have hb : ((h' : Int) == hi && ((l' : Int) == lo && (n : Int) == n)) = pRightB (wideN hi lo) n := by
    rw [Bool.eq_iff_iff, pRightB_nat]
    simp only [Bool.and_eq_true, beq_iff_eq, and_true]
    constructor
    · rintro ⟨a, b⟩
      refine ⟨hn, ?_⟩
      have : ofW (wideN hi lo) n = wideN hi lo := wide_inj (by rw [g1, hiN_wide h2]; omega) (by rw [g2, loN_wide h2]; omega)
      rw [← this]; exact rt_of _ _
    · rintro ⟨_, b⟩
      have : ofW (wideN hi lo) n = wideN hi lo := right_of ⟨hn, b⟩
      rw [this, hiN_wide h2] at g1
      rw [this, loN_wide h2] at g2
      omega
  have heq := eqPf h' l' n hi lo n
  rw [hb] at heq
  have hg := eqPf_guard
  have HKC := Lib.hid (keep_box w (.int .u64 hi) (.int .u64 lo) (.int .i64 n) 37)
  have t1 : decide ((0 : Int) ≤ n) = true := decide_eq_true (by omega)
  have t2 : decide ((n : Int) ≤ 128) = true := decide_eq_true (by omega)
  clear g1 g2 hb
  generalize pRightB (wideN hi lo) n = b at *
  go_enter Tryz.func25, Tryz.ntmps25
  go_wp2
  go_region_held3 (fun W => W.cell? ⟨w.heap.size, 0, none⟩ = some (.int .u64 hi) ∧ W.cell? ⟨w.heap.size, 1, none⟩ = some (.int .u64 lo) ∧ W.cell? ⟨w.heap.size, 2, none⟩ = some (.int .i64 n))
    (first | exact HKC.out _ drew_a | exact HKC.out _ (drew_b (by simp) hb1))
    (first
      | (go_simp; go_at_call 57; ((with_reducible refine (HC.out _).mono ?_); rintro e x1 ⟨rfl, hb1⟩)))
  go_wp2
  go_ret
  exact ⟨rfl, alloc_keeps (drew_b (by simp) hb1)⟩

set_option maxRecDepth 100000 in
set_option maxHeartbeats 1000000 in
theorem right_out (hi lo : Nat) (n : Int) (w : World) (hn : n < 0 ∨ 128 < n) :
    Calls Tryz.prog 25 #[.agg #[.int .u64 hi, .int .u64 lo, .int .i64 n]] w fun e w' => e = .returned (.bool false) ∧ Below w.heap.size w w' := by
  by_cases h0 : n < 0
  · have t1 : decide ((0 : Int) ≤ n) = false := decide_eq_false (by omega)
    clear hn
    go_enter Tryz.func25, Tryz.ntmps25
    go_wp2
    go_quiet (fail)
    go_wp2
    go_ret
    exact ⟨rfl, alloc_keeps drew_n⟩
  · have t1 : decide ((0 : Int) ≤ n) = true := decide_eq_true (by omega)
    have t2 : decide (n ≤ 128) = false := decide_eq_false (by omega)
    clear hn
    go_enter Tryz.func25, Tryz.ntmps25
    go_wp2
    go_quiet (fail)
    go_wp2
    go_ret
    exact ⟨rfl, alloc_keeps drew_n⟩
theorem pRightB_out {W : Nat} {n : Int} (h : n < 0 ∨ 128 < n) : pRightB W n = false := by unfold pRightB; rw [decide_eq_false_iff_not]; omega
theorem pRightB_in {W : Nat} {n : Int} (h : pRightB W n = true) : 0 ≤ n ∧ n ≤ 128 := by unfold pRightB at h; rw [decide_eq_true_iff] at h; omega
theorem pRight_any (hi lo : Nat) (n : Int) (w : World) (h1 : hi < 18446744073709551616) (h2 : lo < 18446744073709551616) :
    Calls Tryz.prog 25 #[.agg #[.int .u64 hi, .int .u64 lo, .int .i64 n]] w fun e w' => e = .returned (.bool (pRightB (wideN hi lo) n)) ∧ Below w.heap.size w w' := by
  by_cases h : n < 0 ∨ 128 < n
  · rw [pRightB_out h]; exact right_out hi lo n w h
  · obtain ⟨k, rfl⟩ := Int.eq_ofNat_of_zero_le (show 0 ≤ n by omega)
    exact right_in hi lo k w h1 h2 (by omega)

theorem keep_box2 (w : World) (a b c a' b' c' : Value) (t : TypeId) : ∀ W, Below (w.heap.size + 2) ((w.alloc (.cells #[a, b, c] t)).alloc (.cells #[a', b', c'] t)) W →
    (W.cell? ⟨w.heap.size, 0, none⟩ = some a ∧ W.cell? ⟨w.heap.size, 1, none⟩ = some b ∧ W.cell? ⟨w.heap.size, 2, none⟩ = some c) ∧ W.cell? ⟨w.heap.size + 1, 0, none⟩ = some a' ∧ W.cell? ⟨w.heap.size + 1, 1, none⟩ = some b' ∧ W.cell? ⟨w.heap.size + 1, 2, none⟩ = some c' := fun W h => by
  refine ⟨⟨?_, ?_, ?_⟩, ?_, ?_, ?_⟩
  · rw [h.cell (p := ⟨w.heap.size, _, none⟩) (by show w.heap.size < _; omega)]; simp [go_sem]
  · rw [h.cell (p := ⟨w.heap.size, _, none⟩) (by show w.heap.size < _; omega)]; simp [go_sem]
  · rw [h.cell (p := ⟨w.heap.size, _, none⟩) (by show w.heap.size < _; omega)]; simp [go_sem]
  · rw [h.cell (p := ⟨w.heap.size + 1, _, none⟩) (by show w.heap.size + 1 < _; omega)]; simp [go_sem]
  · rw [h.cell (p := ⟨w.heap.size + 1, _, none⟩) (by show w.heap.size + 1 < _; omega)]; simp [go_sem]
  · rw [h.cell (p := ⟨w.heap.size + 1, _, none⟩) (by show w.heap.size + 1 < _; omega)]; simp [go_sem]
theorem alloc_keeps2 {w W : World} {o o' : Obj} (h : Below (w.heap.size + 2) ((w.alloc o).alloc o') W) : Below w.heap.size w W :=
  (((Below.refl _ _).alloc (Nat.le_refl _) o).alloc (by simp) o').trans (h.mono (by omega))
end Go.Proofs.YtoobiaifogackaaGreatDoor
