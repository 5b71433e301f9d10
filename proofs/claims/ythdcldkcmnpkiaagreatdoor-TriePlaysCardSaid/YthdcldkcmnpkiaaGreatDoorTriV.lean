/-
  Layer 8: the document's order of prefixes: before.
-/
import Derived.Test.YthdcldkcmnpkiaaGreatDoorTriP
namespace Go.Proofs.YthdcldkcmnpkiaaGreatDoor
open Go.RowKit


theorem bef_far {ah al bh bl : Nat} (l1 : al < 18446744073709551616) (l2 : bl < 18446744073709551616) (h : ah ≠ bh) (an bn : Nat) (u v : Int) : befB ⟨wideN ah al, an, u⟩ ⟨wideN bh bl, bn, v⟩ = decide (ah < bh) := by
  unfold befB wideN
  rw [Bool.eq_iff_iff, decide_eq_true_iff, decide_eq_true_iff]
  simp only
  omega
theorem bef_mid {ah al bl : Nat} (h : al ≠ bl) (an bn : Nat) (u v : Int) : befB ⟨wideN ah al, an, u⟩ ⟨wideN ah bl, bn, v⟩ = decide (al < bl) := by
  unfold befB wideN
  rw [Bool.eq_iff_iff, decide_eq_true_iff, decide_eq_true_iff]
  simp only
  omega
theorem bef_near {ah al : Nat} (an bn : Nat) (u v : Int) : befB ⟨wideN ah al, an, u⟩ ⟨wideN ah al, bn, v⟩ = decide (an < bn) := by
  unfold befB
  rw [Bool.eq_iff_iff, decide_eq_true_iff, decide_eq_true_iff]
  simp
set_option maxRecDepth 100000 in
set_option maxHeartbeats 1000000 in
theorem before_any (ah al an bh bl bn : Nat) (u v : Int) (w : World) (l1 : al < 18446744073709551616) (l2 : bl < 18446744073709551616) :
    Calls Tryz.prog 57 #[.agg #[.int .u64 (ah : Nat), .int .u64 (al : Nat), .int .i64 (an : Nat)], .agg #[.int .u64 (bh : Nat), .int .u64 (bl : Nat), .int .i64 (bn : Nat)]] w fun e w' => e = .returned (.bool (befB ⟨wideN ah al, an, u⟩ ⟨wideN bh bl, bn, v⟩)) ∧ Below w.heap.size w w' := by
  by_cases h1 : ah = bh
  · subst h1
    by_cases h2 : al = bl
    · subst h2
      rw [bef_near]
      have HZ : Hid (decide ((an : Int) < bn) = decide (an < bn)) := by show _ = _; rw [Bool.eq_iff_iff, decide_eq_true_iff, decide_eq_true_iff]; omega
      go_enter Tryz.func57, Tryz.ntmps57
      go_wp2
      go_ret
      exact ⟨by first | rfl | exact ret_bool HZ.out | simp, (((Below.refl _ _).alloc (Nat.le_refl _) _).alloc (by simp) _)⟩
    · rw [bef_mid h2]
      have HZ : Hid (decide ((al : Int) < bl) = decide (al < bl)) := by show _ = _; rw [Bool.eq_iff_iff, decide_eq_true_iff, decide_eq_true_iff]; omega
      have hb : ((al : Int) != bl) = true := by simp; omega
      go_enter Tryz.func57, Tryz.ntmps57
      go_wp2
      go_ret
      exact ⟨by first | rfl | exact ret_bool HZ.out | simp, (((Below.refl _ _).alloc (Nat.le_refl _) _).alloc (by simp) _)⟩
  · rw [bef_far l1 l2 h1]
    have HZ : Hid (decide ((ah : Int) < bh) = decide (ah < bh)) := by show _ = _; rw [Bool.eq_iff_iff, decide_eq_true_iff, decide_eq_true_iff]; omega
    have hb : ((ah : Int) != bh) = true := by simp; omega
    go_enter Tryz.func57, Tryz.ntmps57
    go_wp2
    go_ret
    exact ⟨by first | rfl | exact ret_bool HZ.out | simp, (((Below.refl _ _).alloc (Nat.le_refl _) _).alloc (by simp) _)⟩
end Go.Proofs.YthdcldkcmnpkiaaGreatDoor
