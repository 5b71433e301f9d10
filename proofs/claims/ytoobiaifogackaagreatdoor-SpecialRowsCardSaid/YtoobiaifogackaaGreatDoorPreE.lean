/-
  Layer 7: Of, Has: what they come to.
-/
import Derived.Test.YtoobiaifogackaaGreatDoorPreD
import Derived.Test.YtoobiaifogackaaGreatDoorMgE
namespace Go.Proofs.YtoobiaifogackaaGreatDoor
open Go.RowKit


/-- an address as a wide number -/
def AZ.wd (a : AZ) : Nat := wideN a.hi.toNat a.lo.toNat
theorem AZ.ok_hl {a : AZ} (h : a.Ok) : ∃ hi lo : Nat, a.hi = hi ∧ a.lo = lo ∧ hi < 18446744073709551616 ∧ lo < 18446744073709551616 ∧ a.wd = wideN hi lo := by
  have : (0 ≤ a.hi ∧ a.hi ≤ 18446744073709551615) ∧ (0 ≤ a.lo ∧ a.lo ≤ 18446744073709551615) := by
    cases a with
    | four n => have := h.1; have := h.2; simp only [AZ.hi, AZ.lo]; omega
    | six x y => exact h
  exact ⟨a.hi.toNat, a.lo.toNat, by omega, by omega, by omega, by omega, rfl⟩
theorem bcell7 {W w1 : World} (hb : Below W.heap.size W w1) : (∀ b o, b < W.heap.size → w1.cell? ⟨b, o, none⟩ = W.cell? ⟨b, o, none⟩) ∧ (∀ b o, b < W.heap.size → w1.frozen? ⟨b, o, none⟩ = W.frozen? ⟨b, o, none⟩) :=
  ⟨fun b o h => hb.cell (p := ⟨b, o, none⟩) h, fun b o h => hb.frozen (p := ⟨b, o, none⟩) h⟩
theorem alloc_then {w W : World} {o : Obj} (h : Below (w.alloc o).heap.size (w.alloc o) W) : Below w.heap.size w W := alloc_keeps (h.mono (by simp))
theorem below_chain7 {x y z : World} (h : Below x.heap.size x y) (k : Below y.heap.size y z) : Below x.heap.size x z := h.trans (k.mono h.size)
theorem AZ.wd_lt {a : AZ} (h : a.Ok) : a.wd < 2 ^ 128 := by
  obtain ⟨hi, lo, _, _, h1, h2, e⟩ := AZ.ok_hl h
  rw [e]; exact wide_lt h1 h2

set_option maxRecDepth 100000 in
set_option maxHeartbeats 1000000 in
theorem pOf_four (n : Int) (k : Nat) (w : World) (h0 : 0 ≤ n) (h1 : n ≤ 4294967295) (hk : k ≤ 128) :
    Calls Tryz.prog 52 #[.iface 92 (.int .u32 n), .int .i64 k] w fun e w' => e = .returned (.tuple #[pfW (ofW (AZ.four n).wd k) k, .bool true]) ∧ Below w.heap.size w w' := by
  obtain ⟨hi, lo, e1, e2, b1, b2, e3⟩ := AZ.ok_hl (a := .four n) ⟨h0, h1⟩
  have HC : Hid (∀ W, Calls Tryz.prog 57 #[.int .u64 0, .int .u64 (281470681743360 + n), .int .i64 k] W fun e w' => e = .returned (pfW (ofW (AZ.four n).wd k) k) ∧ Below W.heap.size W w') := fun W => by
    have := highest_any hi lo k W b1 b2 hk
    rw [← e1, ← e2, ← e3] at this
    exact this
  have hv : ∃ x y : Int, pfW (ofW (AZ.four n).wd k) k = .agg #[.int .u64 x, .int .u64 y, .int .i64 k] := ⟨_, _, rfl⟩
  obtain ⟨x, y, hv⟩ := hv
  rw [hv]
  rw [hv] at HC
  have hma : ∀ w : World, (method 379 92 (.int .u32 n) "Wide").run Tryz.prog w = .ok (45, (.int .u32 n)) w := fun _ => by kernel_rfl
  clear e1 e2 e3 hv
  go_enter Tryz.func52, Tryz.ntmps52
  go_wp2_with fail
  refine (wide_any n _ h0 h1).mono ?_
  rintro e x1 ⟨rfl, rfl⟩
  go_wp2_with fail
  refine (HC.out _).mono ?_
  rintro e x2 ⟨rfl, hb2⟩
  obtain ⟨hc, hf⟩ := bcell7 hb2
  go_wp2
  refine bodyPost_ret (v := .tuple #[.agg #[.int .u64 x, .int .u64 y, .int .i64 k], .bool true]) (by simp [results, Tryz.results52, go_sem, hc]) rfl ⟨rfl, ?_⟩
  exact (((alloc_then hb2).setCell (Nat.le_refl _) _).setCell (Nat.le_refl _) _).setCell (Nat.le_refl _) _

set_option maxRecDepth 100000 in
set_option maxHeartbeats 1000000 in
theorem pOf_six (hi lo k : Nat) (w : World) (b1 : hi < 18446744073709551616) (b2 : lo < 18446744073709551616) (hk : k ≤ 128) :
    Calls Tryz.prog 52 #[.iface 96 (.agg #[.int .u64 hi, .int .u64 lo]), .int .i64 k] w fun e w' => e = .returned (.tuple #[pfW (ofW (wideN hi lo) k) k, .bool true]) ∧ Below w.heap.size w w' := by
  have HC : Hid (∀ W, Calls Tryz.prog 57 #[.int .u64 hi, .int .u64 lo, .int .i64 k] W fun e w' => e = .returned (pfW (ofW (wideN hi lo) k) k) ∧ Below W.heap.size W w') := fun W =>
    highest_any hi lo k W b1 b2 hk
  have hv : ∃ x y : Int, pfW (ofW (wideN hi lo) k) k = .agg #[.int .u64 x, .int .u64 y, .int .i64 k] := ⟨_, _, rfl⟩
  obtain ⟨x, y, hv⟩ := hv
  rw [hv]
  rw [hv] at HC
  have hma : ∀ w : World, (method 379 96 (.agg #[.int .u64 hi, .int .u64 lo]) "Wide").run Tryz.prog w = .ok (81, (.agg #[.int .u64 hi, .int .u64 lo])) w := fun _ => by kernel_rfl
  clear hv
  go_enter Tryz.func52, Tryz.ntmps52
  go_wp2_with fail
  refine (wide6_any _ _ _).mono ?_
  rintro e x1 ⟨rfl, hb1⟩
  obtain ⟨hc1, hf1⟩ := bcell7 hb1
  go_wp2_with fail
  refine (HC.out _).mono ?_
  rintro e x2 ⟨rfl, hb2⟩
  have hb3 := below_chain7 hb1 hb2
  clear hc1 hf1 hb1 hb2
  obtain ⟨hc, hf⟩ := bcell7 hb3
  go_wp2
  refine bodyPost_ret (v := .tuple #[.agg #[.int .u64 x, .int .u64 y, .int .i64 k], .bool true]) (by simp [results, Tryz.results52, go_sem, hc]) rfl ⟨rfl, ?_⟩
  exact (((alloc_then hb3).setCell (Nat.le_refl _) _).setCell (Nat.le_refl _) _).setCell (Nat.le_refl _) _
theorem pOf_any (a : AZ) (k : Nat) (w : World) (h : a.Ok) (hk : k ≤ 128) :
    Calls Tryz.prog 52 #[a.val, .int .i64 k] w fun e w' => e = .returned (.tuple #[pfW (ofW a.wd k) k, .bool true]) ∧ Below w.heap.size w w' := by
  cases a with
  | four n => exact pOf_four n k w h.1 h.2 hk
  | six x y =>
    obtain ⟨hi, lo, e1, e2, b1, b2, e3⟩ := AZ.ok_hl h
    simp only [AZ.hi, AZ.lo] at e1 e2
    subst e1 e2
    rw [e3]
    exact pOf_six hi lo k w b1 b2 hk
set_option maxRecDepth 100000 in
set_option maxHeartbeats 1000000 in
theorem pOf_out (x : Option AZ) (n : Int) (w : World) (h : n < 0 ∨ 128 < n) :
    Calls Tryz.prog 52 #[optV x, .int .i64 n] w fun e w' => e = .returned (.tuple #[pfW 0 0, .bool false]) ∧ Below w.heap.size w w' := by
  obtain ⟨v, hv⟩ : ∃ v, optV x = v := ⟨_, rfl⟩
  rw [hv]
  clear hv
  by_cases h0 : n < 0
  · clear h
    go_enter Tryz.func52, Tryz.ntmps52
    go_wp2
    refine bodyPost_ret (v := .tuple #[.agg #[.int .u64 0, .int .u64 0, .int .i64 0], .bool false]) (by simp [results, Tryz.results52, go_sem]) rfl ⟨rfl, ?_⟩
    exact (Below.refl _ _).alloc (Nat.le_refl _) _
  · have h1 : 128 < n := by omega
    clear h
    go_enter Tryz.func52, Tryz.ntmps52
    go_wp2
    refine bodyPost_ret (v := .tuple #[.agg #[.int .u64 0, .int .u64 0, .int .i64 0], .bool false]) (by simp [results, Tryz.results52, go_sem]) rfl ⟨rfl, ?_⟩
    exact (Below.refl _ _).alloc (Nat.le_refl _) _
set_option maxRecDepth 100000 in
set_option maxHeartbeats 1000000 in
theorem pOf_nil (k : Nat) (w : World) (h : k ≤ 128) :
    Calls Tryz.prog 52 #[.nilIface, .int .i64 k] w fun e w' => e = .returned (.tuple #[pfW 0 0, .bool false]) ∧ Below w.heap.size w w' := by
  go_enter Tryz.func52, Tryz.ntmps52
  go_wp2
  refine bodyPost_ret (v := .tuple #[.agg #[.int .u64 0, .int .u64 0, .int .i64 0], .bool false]) (by simp [results, Tryz.results52, go_sem]) rfl ⟨rfl, ?_⟩
  exact (Below.refl _ _).alloc (Nat.le_refl _) _

set_option maxRecDepth 100000 in
set_option maxHeartbeats 1000000 in
theorem pHas_in (hi lo k : Nat) (a : AZ) (w : World) (_ : hi < 18446744073709551616) (h2 : lo < 18446744073709551616) (ha : a.Ok) (hk : k ≤ 128) :
    Calls Tryz.prog 21 #[.agg #[.int .u64 hi, .int .u64 lo, .int .i64 k], a.val] w fun e w' => e = .returned (.bool (pHasB (wideN hi lo) k a.wd)) ∧ Below w.heap.size w w' := by
  obtain ⟨x, g1⟩ : ∃ x, hiN (ofW a.wd k) = x := ⟨_, rfl⟩
  obtain ⟨y, g2⟩ : ∃ y, loN (ofW a.wd k) = y := ⟨_, rfl⟩
  have HC : Hid (∀ W, Calls Tryz.prog 52 #[a.val, .int .i64 k] W fun e w' => e = .returned (.tuple #[.agg #[.int .u64 (x : Nat), .int .u64 (y : Nat), .int .i64 k], .bool true]) ∧ Below W.heap.size W w') := fun W => by
    have := pOf_any a k W ha hk
    unfold pfW at this
    rw [g1, g2] at this
    exact this
  have hb : ((x : Int) == hi && ((y : Int) == lo && (k : Int) == k)) = pHasB (wideN hi lo) k a.wd := by
    rw [Bool.eq_iff_iff, pHasB_nat]
    simp only [Bool.and_eq_true, beq_iff_eq, and_true]
    constructor
    · rintro ⟨q1, q2⟩
      have : ofW a.wd k = wideN hi lo := wide_inj (by rw [g1, hiN_wide h2]; omega) (by rw [g2, loN_wide h2]; omega)
      rw [← this]
      exact ⟨⟨hk, rt_of _ _⟩, qt_of _ _⟩
    · rintro ⟨⟨_, q1⟩, q2⟩
      have : ofW a.wd k = wideN hi lo := rt_same (rt_of _ _) q1 ((qt_of _ _).trans q2.symm)
      rw [this, hiN_wide h2] at g1
      rw [this, loN_wide h2] at g2
      omega
  have heq := eqPf x y k hi lo k
  rw [hb] at heq
  have hg := eqPf_guard
  obtain ⟨va, hva⟩ : ∃ v, a.val = v := ⟨_, rfl⟩
  rw [hva] at HC ⊢
  clear g1 g2 hb hva
  generalize pHasB (wideN hi lo) k a.wd = b at *
  go_enter Tryz.func21, Tryz.ntmps21
  go_wp2_with fail
  refine (HC.out _).mono ?_
  rintro e x2 ⟨rfl, hb2⟩
  obtain ⟨c0, c1, c2⟩ := keep_box w _ _ _ _ x2 (hb2.mono (by simp))
  have hz : w.heap.size < x2.heap.size := by have := hb2.size; simp at this; omega
  go_wp2
  go_ret
  exact ⟨rfl, (alloc_then hb2).alloc (alloc_then hb2).size _⟩
set_option maxRecDepth 100000 in
set_option maxHeartbeats 1000000 in
theorem pHas_no (hi lo : Nat) (n : Int) (v : Value) (w : World) (HC : Hid (∀ W, Calls Tryz.prog 52 #[v, .int .i64 n] W fun e w' => e = .returned (.tuple #[.agg #[.int .u64 0, .int .u64 0, .int .i64 0], .bool false]) ∧ Below W.heap.size W w')) :
    Calls Tryz.prog 21 #[.agg #[.int .u64 hi, .int .u64 lo, .int .i64 n], v] w fun e w' => e = .returned (.bool false) ∧ Below w.heap.size w w' := by
  go_enter Tryz.func21, Tryz.ntmps21
  go_wp2_with fail
  refine (HC.out _).mono ?_
  rintro e x2 ⟨rfl, hb2⟩
  obtain ⟨c0, c1, c2⟩ := keep_box w _ _ _ _ x2 (hb2.mono (by simp))
  have hz : w.heap.size < x2.heap.size := by have := hb2.size; simp at this; omega
  go_wp2
  go_ret
  exact ⟨rfl, (alloc_then hb2).alloc (alloc_then hb2).size _⟩
theorem pHas_any (hi lo : Nat) (n : Int) (a : AZ) (w : World) (h1 : hi < 18446744073709551616) (h2 : lo < 18446744073709551616) (ha : a.Ok) :
    Calls Tryz.prog 21 #[.agg #[.int .u64 hi, .int .u64 lo, .int .i64 n], a.val] w fun e w' => e = .returned (.bool (pHasB (wideN hi lo) n a.wd)) ∧ Below w.heap.size w w' := by
  by_cases h : n < 0 ∨ 128 < n
  · rw [show pHasB (wideN hi lo) n a.wd = false from by unfold pHasB; rw [pRightB_out h]; rfl]
    exact pHas_no hi lo n a.val w (fun W => pOf_out (some a) n W h)
  · obtain ⟨k, rfl⟩ := Int.eq_ofNat_of_zero_le (show 0 ≤ n by omega)
    exact pHas_in hi lo k a w h1 h2 ha (by omega)
theorem pHas_nil (hi lo : Nat) (n : Int) (w : World) :
    Calls Tryz.prog 21 #[.agg #[.int .u64 hi, .int .u64 lo, .int .i64 n], .nilIface] w fun e w' => e = .returned (.bool false) ∧ Below w.heap.size w w' := by
  refine pHas_no hi lo n .nilIface w (fun W => ?_)
  by_cases h : n < 0 ∨ 128 < n
  · exact pOf_out none n W h
  · obtain ⟨k, rfl⟩ := Int.eq_ofNat_of_zero_le (show 0 ≤ n by omega)
    exact pOf_nil k W (by omega)
end Go.Proofs.YtoobiaifogackaaGreatDoor
