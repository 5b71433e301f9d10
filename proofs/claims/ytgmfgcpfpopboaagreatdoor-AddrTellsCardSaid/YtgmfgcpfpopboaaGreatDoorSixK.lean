/-
  Layer 5: the longest row of noughts.
-/
import Derived.Test.YtgmfgcpfpopboaaGreatDoorSixJ
namespace Go.Proofs.YtgmfgcpfpopboaaGreatDoor
open Go.RowKit


/-- what is known of the first pieces: where the row under way begins; the longest one's ends -/
def lrStep (st : Nat × Nat × Nat) (kx : Nat × Bool) : Nat × Nat × Nat :=
  if kx.2 = false then (kx.1 + 1, st.2) else if 1 < kx.1 + 1 - st.1 ∧ st.2.2 - st.2.1 < kx.1 + 1 - st.1 then (st.1, st.1, kx.1 + 1) else st
def lrAt (bs : List Bool) : Nat → Nat × Nat × Nat
  | 0 => (0, 0, 0)
  | k + 1 => lrStep (lrAt bs k) (k, bs.getD k false)
theorem lr_bounds (bs : List Bool) (k : Nat) : (lrAt bs k).1 ≤ k ∧ (lrAt bs k).2.1 ≤ (lrAt bs k).2.2 ∧ (lrAt bs k).2.2 ≤ k := by
  induction k with
  | zero => exact ⟨Nat.le_refl _, Nat.le_refl _, Nat.le_refl _⟩
  | succ k ih =>
    obtain ⟨h1, h2, h3⟩ := ih
    unfold lrAt lrStep
    split
    · exact ⟨Nat.le_refl _, h2, by show (lrAt bs k).2.2 ≤ k + 1; omega⟩
    · split
      · exact ⟨by show (lrAt bs k).1 ≤ k + 1; omega, by show (lrAt bs k).1 ≤ k + 1; omega, Nat.le_refl _⟩
      · exact ⟨by omega, h2, by omega⟩
def zeroB (p : List Int) : List Bool := p.map fun x => decide (x = 0)
theorem lr_no {bs : List Bool} {k s f t : Nat} (h : lrAt bs k = (s, f, t)) (hb : bs.getD k false = false) : lrAt bs (k + 1) = (k + 1, f, t) := by
  rw [lrAt, h, hb]; rfl
theorem lr_yes {bs : List Bool} {k s f t : Nat} (h : lrAt bs k = (s, f, t)) (hb : bs.getD k false = true) (hc : 1 < k + 1 - s ∧ t - f < k + 1 - s) : lrAt bs (k + 1) = (s, s, k + 1) := by
  rw [lrAt, h, hb]; unfold lrStep; rw [if_neg (by simp), if_pos hc]
theorem lr_same {bs : List Bool} {k s f t : Nat} (h : lrAt bs k = (s, f, t)) (hb : bs.getD k false = true) (hc : ¬ (1 < k + 1 - s ∧ t - f < k + 1 - s)) : lrAt bs (k + 1) = (s, f, t) := by
  rw [lrAt, h, hb]; unfold lrStep; rw [if_neg (by simp), if_neg hc]

theorem index8 (W : World) (a0 a1 a2 a3 a4 a5 a6 a7 : Int) (k : Nat) (hk : k < 8) : (Instr.index 92 (.agg #[.int .u16 a0, .int .u16 a1, .int .u16 a2, .int .u16 a3, .int .u16 a4, .int .u16 a5, .int .u16 a6, .int .u16 a7]) (.int .i64 (k : Int))).run Tryz.prog W = .ok (.int .u16 ([a0, a1, a2, a3, a4, a5, a6, a7].getD k 0)) W := by
  rcases (show k = 0 ∨ k = 1 ∨ k = 2 ∨ k = 3 ∨ k = 4 ∨ k = 5 ∨ k = 6 ∨ k = 7 from by omega) with rfl | rfl | rfl | rfl | rfl | rfl | rfl | rfl
  all_goals simp [Instr.index, run_underlying Tryz.underlying92, asIntOf, go_sem, Tryz.sizeOf86, Tryz.isAgg86]

set_option maxRecDepth 100000 in
set_option maxHeartbeats 4000000 in
theorem longest_any (a0 a1 a2 a3 a4 a5 a6 a7 : Int) (w : World) :
    Calls Tryz.prog 57 #[.agg #[.int .u16 a0, .int .u16 a1, .int .u16 a2, .int .u16 a3, .int .u16 a4, .int .u16 a5, .int .u16 a6, .int .u16 a7]] w fun e w' =>
      e = .returned (.tuple #[.int .i64 ((lrAt (zeroB [a0, a1, a2, a3, a4, a5, a6, a7]) 8).2.1 : Int), .int .i64 ((lrAt (zeroB [a0, a1, a2, a3, a4, a5, a6, a7]) 8).2.2 : Int)]) ∧ Below w.heap.size w w' := by
  obtain ⟨p, hp⟩ : ∃ p, [a0, a1, a2, a3, a4, a5, a6, a7] = p := ⟨_, rfl⟩
  have hpl : p.length = 8 := by rw [← hp]; rfl
  have HIX : Hid (∀ (k : Nat) (_ : k < 8) (W : World), (Instr.index 92 (.agg #[.int .u16 a0, .int .u16 a1, .int .u16 a2, .int .u16 a3, .int .u16 a4, .int .u16 a5, .int .u16 a6, .int .u16 a7]) (.int .i64 (k : Int))).run Tryz.prog W = .ok (.int .u16 (p.getD k 0)) W) := fun k hk W => by
    rw [← hp]; exact index8 W a0 a1 a2 a3 a4 a5 a6 a7 k hk
  rw [hp]
  have HZ : Hid (∀ k, k < 8 → (zeroB p).getD k false = decide (p.getD k 0 = 0)) := fun k hk => by
    simp [zeroB, List.getD, hpl, hk]
  clear hp hpl
  have hb0 : Below w.heap.size w (w.alloc (.cells #[.int .u16 a0, .int .u16 a1, .int .u16 a2, .int .u16 a3, .int .u16 a4, .int .u16 a5, .int .u16 a6, .int .u16 a7] 92)) := (Below.refl _ w).alloc (Nat.le_refl _) _
  go_enter Tryz.func57, Tryz.ntmps57
  go_wp2
  go_loop [2, 3, 4, 9] (fun f t s i => ∃ (k S F T : Nat), k ≤ 8 ∧ i = .int .i64 k ∧ s = .int .i64 S ∧ f = .int .i64 F ∧ t = .int .i64 T ∧ S ≤ k ∧ F ≤ T ∧ T ≤ k ∧ Hid (lrAt (zeroB p) k = (S, F, T))) (fun _ _ _ i => 8 - (intOf i).toNat)
  case atStart => exact ⟨0, 0, 0, 0, by omega, rfl, rfl, rfl, rfl, by omega, by omega, by omega, rfl⟩
  case round =>
    obtain ⟨k, S, F, T, hk, rfl, rfl, rfl, rfl, hS, hF, hT, HL⟩ := hrel
    by_cases hk8 : k < 8
    · have hix := HIX.out k hk8
      have hz := HZ.out k hk8
      generalize p.getD k 0 = x at *
      by_cases hx : x = 0
      · subst hx
        have HB := Lib.hid (show (zeroB p).getD k false = true from by rw [hz]; rfl)
        clear hz
        have hx0 : ((0 : Int) != 0) = false := by decide
        by_cases hc : 1 < k + 1 - S ∧ T - F < k + 1 - S
        · have HL2 := Lib.hid (lr_yes HL.out HB.out hc)
          have hc1 : decide ((1 : Int) < (k : Int) + 1 - (S : Int)) = true := decide_eq_true (by omega)
          have hc2 : decide ((T : Int) - (F : Int) < (k : Int) + 1 - (S : Int)) = true := decide_eq_true (by omega)
          clear hc
          go_wp2
          go_round
          case rel => exact ⟨k + 1, S, S, k + 1, by omega, by go_num, rfl, rfl, by go_num, by omega, by omega, by omega, HL2⟩
          case measure => simp [intOf]; omega
        · have HL2 := Lib.hid (lr_same HL.out HB.out hc)
          by_cases hd : 1 < k + 1 - S
          · have hc1 : decide ((1 : Int) < (k : Int) + 1 - (S : Int)) = true := decide_eq_true (by omega)
            have hc2 : decide ((T : Int) - (F : Int) < (k : Int) + 1 - (S : Int)) = false := decide_eq_false (by omega)
            clear hc hd
            go_wp2
            go_round
            case rel => exact ⟨k + 1, S, F, T, by omega, by go_num, rfl, rfl, rfl, by omega, by omega, by omega, HL2⟩
            case measure => simp [intOf]; omega
          · have hc1 : decide ((1 : Int) < (k : Int) + 1 - (S : Int)) = false := decide_eq_false (by omega)
            clear hc hd
            go_wp2
            go_round
            case rel => exact ⟨k + 1, S, F, T, by omega, by go_num, rfl, rfl, rfl, by omega, by omega, by omega, HL2⟩
            case measure => simp [intOf]; omega
      · have HB := Lib.hid (show (zeroB p).getD k false = false from by rw [hz]; exact decide_eq_false hx)
        have HL2 := Lib.hid (lr_no HL.out HB.out)
        have hx0 : (x != 0) = true := by rw [bne_iff_ne]; exact hx
        clear hz
        go_wp2
        go_round
        case rel => exact ⟨k + 1, k + 1, F, T, by omega, by go_num, by go_num, rfl, rfl, by omega, by omega, by omega, HL2⟩
        case measure => simp [intOf]; omega
    · obtain rfl : k = 8 := by omega
      go_wp2
      go_ret2
      exact ⟨by rw [HL.out]; rfl, hb0⟩
end Go.Proofs.YtgmfgcpfpopboaaGreatDoor
