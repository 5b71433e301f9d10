/-
  The law ScalarTells: its Go text returns true at every two strings and every number, and nothing that lay in memory before is changed.
-/
import Derived.Test.YtbkjhdinlnpglaaScalL
namespace Go.Proofs.Ytbkjhdinlnpglaa
open Go.RowKit

theorem splitB_ne (p : UInt8 → Bool) (l : List UInt8) : 0 < (splitB p l).length := by simp [splitB]

theorem Parts.form {B : Nat} {w : World} {v : Value} {ps : List (List UInt8)} (h : Parts B w v ps) (hn : 0 < ps.length) :
    ∃ g cap, v = .slice (some ⟨g, 0, none⟩) ps.length cap ∧ g < w.heap.size ∧ ∀ j, j < ps.length → w.cell? ⟨g, j, none⟩ = some (.string ⟨(ps.getD j []).toArray⟩) := by
  unfold Parts at h
  rcases h.2 with ⟨_, h0⟩ | ⟨g, cap, cur, hv, _, hg, hc, _, hs, ht⟩
  · omega
  · refine ⟨g, cap, hv, (Array.getElem?_eq_some_iff.1 hg).1, fun j hj => ?_⟩
    rw [cell_of_row w g j cur _ _ hg]
    have h1 : (strCs ps)[j]? = some (strC (ps.getD j [])) := by
      simp [strCs, List.getD, List.getElem?_eq_getElem hj]
    rw [← ht, List.getElem?_take, if_pos (by omega)] at h1
    simpa [strC] using h1

def bas (ps : List (List UInt8)) : List ByteArray := ps.map fun l => ⟨l.toArray⟩
theorem bas_getD (ps : List (List UInt8)) (j : Nat) (h : j < ps.length) : (bas ps).getD j ByteArray.empty = ⟨(ps.getD j []).toArray⟩ := by
  simp [bas, List.getD, List.getElem?_eq_getElem h]

theorem equalS_same (v1 v2 : Value) (ps : List (List UInt8)) (w : World) (B1 B2 : Nat) (h1 : Parts B1 w v1 ps) (h2 : Parts B2 w v2 ps) (hn : 0 < ps.length) (hb : ps.length ≤ 1073741824) :
    Calls Try.prog 25 #[v1, v2] w fun e w' => e = .returned (.bool true) ∧ ∃ q, w' = w.drewN q := by
  obtain ⟨g1, c1, rfl, _, hc1⟩ := h1.form hn
  obtain ⟨g2, c2, rfl, _, hc2⟩ := h2.form hn
  have hl : (bas ps).length = ps.length := by simp [bas]
  refine (Try.slices_Equal_string g1 0 ps.length c1 g2 0 ps.length c2 (bas ps) (bas ps) w (by omega) (by omega) (by omega) (by omega) (fun j hj => ?_) (fun j hj => ?_)).mono ?_
  · rw [Nat.zero_add, hc1 j (by omega), bas_getD ps j (by omega)]
  · rw [Nat.zero_add, hc2 j (by omega), bas_getD ps j (by omega)]
  · rintro e w' ⟨rfl, hq⟩
    exact ⟨ret_bool (by simp), hq⟩

theorem Parts.below {B : Nat} {w w' : World} {v : Value} {ps : List (List UInt8)} (h : Parts B w v ps) (hb : Below w.heap.size w w') : Parts B w' v ps := own_below h hb

theorem splitB_len (p : UInt8 → Bool) (l : List UInt8) : (splitB p l).length ≤ l.length + 1 := by
  have key : ∀ (l : List UInt8) (st : List (List UInt8) × List UInt8), (l.foldl (splStep p) st).1.length ≤ st.1.length + l.length := by
    intro l
    induction l with
    | nil => intro st; simp
    | cons c l ih =>
      intro st
      rw [List.foldl_cons]
      have := ih (splStep p st c)
      have h2 : (splStep p st c).1.length ≤ st.1.length + 1 := by unfold splStep; split <;> simp
      simp; omega
  have := key l ([], [])
  simp [splitB, spl] at this ⊢
  omega


theorem digitB_big {r : Int} (h : r < 0 ∨ 256 ≤ r) : digitB r = false := decide_eq_false (by omega)
theorem alphaB_big {r : Int} (h : r < 0 ∨ 256 ≤ r) : alphaB r = false := decide_eq_false (by omega)

set_option maxRecDepth 100000 in
set_option maxHeartbeats 4000000 in
theorem tells_small (a0 : ByteArray) (a1 : ByteArray) (a2 : Int) (hlen : a0.size ≤ 2000) (hlen1 : a1.size ≤ 20) (hsm0 : 0 ≤ a2) (hsm1 : a2 < 256) (w : World) :
    Calls Try.prog 5 #[.string a0, .string a1, .int .i32 a2] w fun e w' => e = .returned (.bool true) ∧ Below w.heap.size w w' := by
    have hs : a0.size ≤ 1073741824 := by omega
    have hs1 : a1.size ≤ 1073741824 := by omega
    go_enter Try.func5, Try.ntmps5
    go_wp2_with fail
    refine (awake_any _).mono ?_
    rintro e x1 ⟨rfl, hb1⟩
    go_wp2_with fail
    refine (lower_any _ _ hs).mono ?_
    rintro e x2 ⟨rfl, hb2⟩
    have hc2 : Below w.heap.size w x2 := hb1.trans (hb2.mono hb1.size)
    clear hb1 hb2
    go_wp2_with fail
    refine (refLower_any _ _ hs).mono ?_
    rintro e x3 ⟨rfl, hb3⟩
    have hc3 : Below w.heap.size w x3 := hc2.trans (hb3.mono hc2.size)
    clear hc2 hb3
    go_wp2_with fail
    refine (trim_any _ _ hs).mono ?_
    rintro e x' ⟨rfl, rfl⟩
    go_wp2_with fail
    refine (refTrim_any _ _ hs).mono ?_
    rintro e x' ⟨rfl, rfl⟩
    go_wp2_with fail
    refine (drop_any _ _ hs).mono ?_
    rintro e x4 ⟨rfl, hb4⟩
    have hc4 : Below w.heap.size w x4 := hc3.trans (hb4.mono hc3.size)
    clear hc3 hb4
    go_wp2_with fail
    refine (refDrop_any _ _ hs).mono ?_
    rintro e x5 ⟨rfl, hb5⟩
    have hc5 : Below w.heap.size w x5 := hc4.trans (hb5.mono hc4.size)
    clear hc4 hb5
    go_wp2_with fail
    refine (split_any _ _ _ hs).mono ?_
    rintro e x6 ⟨v6, rfl, hp6, hb6⟩
    have hc6 : Below w.heap.size w x6 := hc5.trans (hb6.mono hc5.size)
    clear hc5 hb6
    go_wp2_with fail
    refine (refSplit_any _ _ _ hs hs1).mono ?_
    rintro e x7 ⟨v7, rfl, hp7, hb7⟩
    have hp6' := hp6.below hb7
    have hc7 : Below w.heap.size w x7 := hc6.trans (hb7.mono hc6.size)
    clear hc6 hb7 hp6
    go_wp2_with fail
    refine (equalS_same _ _ _ _ _ _ hp6' hp7 (splitB_ne _ _) (by have h1 := splitB_len (hasB a1.data.toList) a0.data.toList; rw [size_list] at h1; omega)).mono ?_
    rintro e x8 ⟨rfl, q, rfl⟩
    have hc8 := below_drewN hc7 q
    generalize x7.drewN q = x8 at *
    clear hc7 hp6' hp7
    go_wp2_with (first | (go_at_call 28; refine (digit_any _ _).mono ?_; rintro e w' ⟨rfl, rfl⟩) | (go_at_call 29; refine (refDigit_any _ _).mono ?_; rintro e w' ⟨rfl, rfl⟩) | (go_at_call 30; refine (alpha_any _ _).mono ?_; rintro e w' ⟨rfl, rfl⟩) | (go_at_call 31; refine (refAlpha_any _ _).mono ?_; rintro e w' ⟨rfl, rfl⟩) | (go_at_call 32; refine (value_any _ _).mono ?_; rintro e w' ⟨rfl, rfl⟩) | (go_at_call 33; refine (refValue_any _ _).mono ?_; rintro e w' ⟨rfl, rfl⟩))
    all_goals
      go_ret
      exact ⟨by first | rfl | exact ret_bool (by simp), hc8⟩

set_option maxRecDepth 100000 in
set_option maxHeartbeats 4000000 in
theorem tells_neg (a0 : ByteArray) (a1 : ByteArray) (a2 : Int) (hlen : a0.size ≤ 2000) (hlen1 : a1.size ≤ 20) (hn : a2 < 0) (w : World) :
    Calls Try.prog 5 #[.string a0, .string a1, .int .i32 a2] w fun e w' => e = .returned (.bool true) ∧ Below w.heap.size w w' := by
    have hs : a0.size ≤ 1073741824 := by omega
    have hs1 : a1.size ≤ 1073741824 := by omega
    have hdB := digitB_big (r := a2) (.inl hn)
    have haB := alphaB_big (r := a2) (.inl hn)
    go_enter Try.func5, Try.ntmps5
    go_wp2_with fail
    refine (awake_any _).mono ?_
    rintro e x1 ⟨rfl, hb1⟩
    go_wp2_with fail
    refine (lower_any _ _ hs).mono ?_
    rintro e x2 ⟨rfl, hb2⟩
    have hc2 : Below w.heap.size w x2 := hb1.trans (hb2.mono hb1.size)
    clear hb1 hb2
    go_wp2_with fail
    refine (refLower_any _ _ hs).mono ?_
    rintro e x3 ⟨rfl, hb3⟩
    have hc3 : Below w.heap.size w x3 := hc2.trans (hb3.mono hc2.size)
    clear hc2 hb3
    go_wp2_with fail
    refine (trim_any _ _ hs).mono ?_
    rintro e x' ⟨rfl, rfl⟩
    go_wp2_with fail
    refine (refTrim_any _ _ hs).mono ?_
    rintro e x' ⟨rfl, rfl⟩
    go_wp2_with fail
    refine (drop_any _ _ hs).mono ?_
    rintro e x4 ⟨rfl, hb4⟩
    have hc4 : Below w.heap.size w x4 := hc3.trans (hb4.mono hc3.size)
    clear hc3 hb4
    go_wp2_with fail
    refine (refDrop_any _ _ hs).mono ?_
    rintro e x5 ⟨rfl, hb5⟩
    have hc5 : Below w.heap.size w x5 := hc4.trans (hb5.mono hc4.size)
    clear hc4 hb5
    go_wp2_with fail
    refine (split_any _ _ _ hs).mono ?_
    rintro e x6 ⟨v6, rfl, hp6, hb6⟩
    have hc6 : Below w.heap.size w x6 := hc5.trans (hb6.mono hc5.size)
    clear hc5 hb6
    go_wp2_with fail
    refine (refSplit_any _ _ _ hs hs1).mono ?_
    rintro e x7 ⟨v7, rfl, hp7, hb7⟩
    have hp6' := hp6.below hb7
    have hc7 : Below w.heap.size w x7 := hc6.trans (hb7.mono hc6.size)
    clear hc6 hb7 hp6
    go_wp2_with fail
    refine (equalS_same _ _ _ _ _ _ hp6' hp7 (splitB_ne _ _) (by have h1 := splitB_len (hasB a1.data.toList) a0.data.toList; rw [size_list] at h1; omega)).mono ?_
    rintro e x8 ⟨rfl, q, rfl⟩
    have hc8 := below_drewN hc7 q
    generalize x7.drewN q = x8 at *
    clear hc7 hp6' hp7
    go_wp2_with (first | (go_at_call 28; refine (digit_any _ _).mono ?_; rintro e w' ⟨rfl, rfl⟩) | (go_at_call 29; refine (refDigit_any _ _).mono ?_; rintro e w' ⟨rfl, rfl⟩) | (go_at_call 30; refine (alpha_any _ _).mono ?_; rintro e w' ⟨rfl, rfl⟩) | (go_at_call 31; refine (refAlpha_any _ _).mono ?_; rintro e w' ⟨rfl, rfl⟩) | (go_at_call 32; refine (value_any _ _).mono ?_; rintro e w' ⟨rfl, rfl⟩) | (go_at_call 33; refine (refValue_any _ _).mono ?_; rintro e w' ⟨rfl, rfl⟩))
    all_goals
      go_ret
      exact ⟨by first | rfl | exact ret_bool (by simp), hc8⟩

set_option maxRecDepth 100000 in
set_option maxHeartbeats 4000000 in
theorem tells_big (a0 : ByteArray) (a1 : ByteArray) (a2 : Int) (hlen : a0.size ≤ 2000) (hlen1 : a1.size ≤ 20) (hn : 256 ≤ a2) (w : World) :
    Calls Try.prog 5 #[.string a0, .string a1, .int .i32 a2] w fun e w' => e = .returned (.bool true) ∧ Below w.heap.size w w' := by
    have hs : a0.size ≤ 1073741824 := by omega
    have hs1 : a1.size ≤ 1073741824 := by omega
    have hdB := digitB_big (r := a2) (.inr hn)
    have haB := alphaB_big (r := a2) (.inr hn)
    go_enter Try.func5, Try.ntmps5
    go_wp2_with fail
    refine (awake_any _).mono ?_
    rintro e x1 ⟨rfl, hb1⟩
    go_wp2_with fail
    refine (lower_any _ _ hs).mono ?_
    rintro e x2 ⟨rfl, hb2⟩
    have hc2 : Below w.heap.size w x2 := hb1.trans (hb2.mono hb1.size)
    clear hb1 hb2
    go_wp2_with fail
    refine (refLower_any _ _ hs).mono ?_
    rintro e x3 ⟨rfl, hb3⟩
    have hc3 : Below w.heap.size w x3 := hc2.trans (hb3.mono hc2.size)
    clear hc2 hb3
    go_wp2_with fail
    refine (trim_any _ _ hs).mono ?_
    rintro e x' ⟨rfl, rfl⟩
    go_wp2_with fail
    refine (refTrim_any _ _ hs).mono ?_
    rintro e x' ⟨rfl, rfl⟩
    go_wp2_with fail
    refine (drop_any _ _ hs).mono ?_
    rintro e x4 ⟨rfl, hb4⟩
    have hc4 : Below w.heap.size w x4 := hc3.trans (hb4.mono hc3.size)
    clear hc3 hb4
    go_wp2_with fail
    refine (refDrop_any _ _ hs).mono ?_
    rintro e x5 ⟨rfl, hb5⟩
    have hc5 : Below w.heap.size w x5 := hc4.trans (hb5.mono hc4.size)
    clear hc4 hb5
    go_wp2_with fail
    refine (split_any _ _ _ hs).mono ?_
    rintro e x6 ⟨v6, rfl, hp6, hb6⟩
    have hc6 : Below w.heap.size w x6 := hc5.trans (hb6.mono hc5.size)
    clear hc5 hb6
    go_wp2_with fail
    refine (refSplit_any _ _ _ hs hs1).mono ?_
    rintro e x7 ⟨v7, rfl, hp7, hb7⟩
    have hp6' := hp6.below hb7
    have hc7 : Below w.heap.size w x7 := hc6.trans (hb7.mono hc6.size)
    clear hc6 hb7 hp6
    go_wp2_with fail
    refine (equalS_same _ _ _ _ _ _ hp6' hp7 (splitB_ne _ _) (by have h1 := splitB_len (hasB a1.data.toList) a0.data.toList; rw [size_list] at h1; omega)).mono ?_
    rintro e x8 ⟨rfl, q, rfl⟩
    have hc8 := below_drewN hc7 q
    generalize x7.drewN q = x8 at *
    clear hc7 hp6' hp7
    go_wp2_with (first | (go_at_call 28; refine (digit_any _ _).mono ?_; rintro e w' ⟨rfl, rfl⟩) | (go_at_call 29; refine (refDigit_any _ _).mono ?_; rintro e w' ⟨rfl, rfl⟩) | (go_at_call 30; refine (alpha_any _ _).mono ?_; rintro e w' ⟨rfl, rfl⟩) | (go_at_call 31; refine (refAlpha_any _ _).mono ?_; rintro e w' ⟨rfl, rfl⟩) | (go_at_call 32; refine (value_any _ _).mono ?_; rintro e w' ⟨rfl, rfl⟩) | (go_at_call 33; refine (refValue_any _ _).mono ?_; rintro e w' ⟨rfl, rfl⟩))
    all_goals
      go_ret
      exact ⟨by first | rfl | exact ret_bool (by simp), hc8⟩

set_option maxRecDepth 100000 in
set_option maxHeartbeats 4000000 in
theorem scalarTells_walk (a0 : ByteArray) (a1 : ByteArray) (a2 : Int) (w0 : a0.size ≤ maxLen) (w1 : a1.size ≤ maxLen) (_w2 : (Lit.int .i32 a2).wf = true) (w : World) :
    Calls Try.prog 5 #[.string a0, .string a1, .int .i32 a2] w fun e w' => e = .returned (.bool true) ∧ Below w.heap.size w w' := by
  unfold maxLen at w0 w1
  by_cases hlen : a0.size ≤ 2000
  · by_cases hlen1 : a1.size ≤ 20
    · clear w0 w1
      by_cases h1 : a2 < 0
      · exact tells_neg a0 a1 a2 hlen hlen1 h1 w
      · by_cases h2 : a2 < 256
        · exact tells_small a0 a1 a2 hlen hlen1 (by omega) h2 w
        · exact tells_big a0 a1 a2 hlen hlen1 (by omega) w
    · go_enter Try.func5, Try.ntmps5
      go_wp2_with fail
      refine (awake_any _).mono ?_
      rintro e x1 ⟨rfl, hb1⟩
      go_wp2
      go_ret
      exact ⟨rfl, hb1⟩
  · go_enter Try.func5, Try.ntmps5
    go_wp2_with fail
    refine (awake_any _).mono ?_
    rintro e x1 ⟨rfl, hb1⟩
    go_wp2
    go_ret
    exact ⟨rfl, hb1⟩
end Go.Proofs.Ytbkjhdinlnpglaa
