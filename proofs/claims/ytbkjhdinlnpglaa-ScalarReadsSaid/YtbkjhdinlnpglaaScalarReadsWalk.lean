/-
  The law ScalarReads: its Go text returns true at every string, and nothing that lay in memory before is changed.
-/
import Derived.Test.YtbkjhdinlnpglaaScalF
namespace Go.Proofs.Ytbkjhdinlnpglaa
open Go.RowKit

set_option maxRecDepth 100000 in
set_option maxHeartbeats 1000000 in
theorem scalarReads_walk (a0 : ByteArray) (w0 : a0.size ≤ maxLen) (w : World) :
    Calls Try.prog 3 #[.string a0] w fun e w' => e = .returned (.bool true) ∧ Below w.heap.size w w' := by
  unfold maxLen at w0
  by_cases hlen : a0.size ≤ 4000
  · have hs : a0.size ≤ 1073741824 := by omega
    have hsl := scal_len a0
    go_enter Try.func3, Try.ntmps3
    go_wp2_with fail
    refine (awake_any _).mono ?_
    rintro e w1 ⟨rfl, hb1⟩
    go_wp2_with fail
    refine (scalars_any _ _ hs).mono ?_
    rintro e w2 ⟨v2, rfl, hown2, hb2⟩
    go_wp2_with fail
    refine (refScalars_any _ _ hs).mono ?_
    rintro e w3 ⟨v3, rfl, hown3, hb3⟩
    have hr2 := (RowR.of_own hown2).below hb3
    have hr3 := RowR.of_own hown3
    have hb13 : Below w.heap.size w w3 := hb1.trans ((hb2.mono hb1.size).trans (hb3.mono (Nat.le_trans hb1.size hb2.size)))
    clear hown2 hown3 hb2 hb3 hb1
    go_wp2_with fail
    refine (equalR_any _ _ (scal a0) (scal a0) _ hr2 hr3 (by omega)).mono ?_
    rintro e w4 ⟨rfl, n, rfl⟩
    rw [show decide (scal a0 = scal a0) = true from decide_eq_true rfl]
    have hb14 := below_drewN hb13 n
    generalize w3.drewN n = w4 at *
    clear hr2 hr3 hb13
    go_wp2_with (first | (go_at_call 15; refine (plain_any _ _ hs).mono ?_; rintro e w' ⟨rfl, rfl⟩) | (go_at_call 16; refine (refPlain_any _ _ hs).mono ?_; rintro e w' ⟨rfl, rfl⟩))
    go_ret
    exact ⟨by first | rfl | exact ret_bool (by simp), hb14⟩
  · go_enter Try.func3, Try.ntmps3
    go_wp2_with fail
    refine (awake_any _).mono ?_
    rintro e w1 ⟨rfl, hb1⟩
    go_wp2
    go_ret
    exact ⟨rfl, hb1⟩
end Go.Proofs.Ytbkjhdinlnpglaa
