/-
  Layer 7: the document's Has, Covers, Of: what they come to.
-/
import Derived.Test.YtoobiaifogackaaGreatDoorPreF
namespace Go.Proofs.YtoobiaifogackaaGreatDoor
open Go.RowKit


theorem keep_box33 (w : World) (a b c a' b' c' : Value) (t t' : TypeId) : ∀ W, Below (w.heap.size + 2) ((w.alloc (.cells #[a, b, c] t)).alloc (.cells #[a', b', c'] t')) W →
    (W.cell? ⟨w.heap.size, 0, none⟩ = some a ∧ W.cell? ⟨w.heap.size, 1, none⟩ = some b ∧ W.cell? ⟨w.heap.size, 2, none⟩ = some c) ∧ W.cell? ⟨w.heap.size + 1, 0, none⟩ = some a' ∧ W.cell? ⟨w.heap.size + 1, 1, none⟩ = some b' ∧ W.cell? ⟨w.heap.size + 1, 2, none⟩ = some c' := fun W h => by
  refine ⟨⟨?_, ?_, ?_⟩, ?_, ?_, ?_⟩
  · rw [h.cell (p := ⟨w.heap.size, _, none⟩) (by show w.heap.size < _; omega)]; simp [go_sem]
  · rw [h.cell (p := ⟨w.heap.size, _, none⟩) (by show w.heap.size < _; omega)]; simp [go_sem]
  · rw [h.cell (p := ⟨w.heap.size, _, none⟩) (by show w.heap.size < _; omega)]; simp [go_sem]
  · rw [h.cell (p := ⟨w.heap.size + 1, _, none⟩) (by show w.heap.size + 1 < _; omega)]; simp [go_sem]
  · rw [h.cell (p := ⟨w.heap.size + 1, _, none⟩) (by show w.heap.size + 1 < _; omega)]; simp [go_sem]
  · rw [h.cell (p := ⟨w.heap.size + 1, _, none⟩) (by show w.heap.size + 1 < _; omega)]; simp [go_sem]
theorem qt_bits {P A n : Nat} (hP : P < 2 ^ 128) (hA : A < 2 ^ 128) (hn : n ≤ 128) : qt P n = qt A n ↔ ∀ i, i < n → bitW P i = bitW A i := (has_bits P A n hP hA hn).symm
set_option maxRecDepth 100000 in
set_option maxHeartbeats 1000000 in
theorem refHas_in (hi lo n ah al : Nat) (s : Bool) (w : World) (h1 : hi < 18446744073709551616) (h2 : lo < 18446744073709551616) (h3 : ah < 18446744073709551616) (h4 : al < 18446744073709551616) (hr : pRightB (wideN hi lo) n = true) :
    Calls Tryz.prog 49 #[.agg #[.int .u64 hi, .int .u64 lo, .int .i64 n], .agg #[.bool s, .int .u64 ah, .int .u64 al]] w fun e w' => e = .returned (.bool (pHasB (wideN hi lo) n (wideN ah al))) ∧ Below w.heap.size w w' := by
  obtain ⟨hn, hrt⟩ := pRightB_nat.1 hr
  have HR : Hid (∀ W, Calls Tryz.prog 62 #[.agg #[.int .u64 hi, .int .u64 lo, .int .i64 n]] W fun e w' => e = .returned (.bool true) ∧ Below W.heap.size W w') := fun W => by
    have := refRight7_any hi lo n W h1 h2; rwa [hr] at this
  have HK := Lib.hid (keep_box33 w (.int .u64 hi) (.int .u64 lo) (.int .i64 n) (.bool s) (.int .u64 ah) (.int .u64 al) 50 31)
  have HRT := Lib.hid hrt
  clear hr hrt
  go_enter Tryz.func49, Tryz.ntmps49
  go_wp2_with fail
  refine (HR.out _).mono ?_
  rintro e x1 ⟨rfl, hb1⟩
  have hk1 : Below (w.heap.size + 2) ((w.alloc (.cells #[.int .u64 hi, .int .u64 lo, .int .i64 n] 50)).alloc (.cells #[.bool s, .int .u64 ah, .int .u64 al] 31)) x1 := hb1.mono (by simp)
  clear hb1
  go_wp2
  go_loopw [5] (fun x wr => ∃ i : Nat, i ≤ n ∧ x = .int .i64 i ∧ Below (w.heap.size + 2) ((w.alloc (.cells #[.int .u64 hi, .int .u64 lo, .int .i64 n] 50)).alloc (.cells #[.bool s, .int .u64 ah, .int .u64 al] 31)) wr ∧ Hid (∀ j, j < i → bitW (wideN hi lo) j = bitW (wideN ah al) j)) (fun x _ => n - (intOf x).toNat)
  case atStart => exact ⟨0, Nat.zero_le _, rfl, hk1, fun j a => by omega⟩
  case round =>
    obtain ⟨i, hi2, rfl, hk, H⟩ := hrel
    obtain ⟨⟨c0, c1, c2⟩, c3, c4, c5⟩ := HK.out wr hk
    by_cases hlt : i < n
    · have p1 : Hid (∀ W, Below (w.heap.size + 2) ((w.alloc (.cells #[.int .u64 hi, .int .u64 lo, .int .i64 n] 50)).alloc (.cells #[.bool s, .int .u64 ah, .int .u64 al] 31)) W → Calls Tryz.prog 83 #[.int .u64 hi, .int .u64 lo, .int .i64 i] W fun e w' => e = .returned (.int .i64 (bitW (wideN hi lo) i : Nat)) ∧ Below (w.heap.size + 2) ((w.alloc (.cells #[.int .u64 hi, .int .u64 lo, .int .i64 n] 50)).alloc (.cells #[.bool s, .int .u64 ah, .int .u64 al] 31)) w') := fun W hW => (refBit_any hi lo i W h1 h2 (by omega)).mono fun _ _ ⟨he, hw⟩ => ⟨he, hw ▸ hW⟩
      have p2 : Hid (∀ W, Below (w.heap.size + 2) ((w.alloc (.cells #[.int .u64 hi, .int .u64 lo, .int .i64 n] 50)).alloc (.cells #[.bool s, .int .u64 ah, .int .u64 al] 31)) W → Calls Tryz.prog 83 #[.int .u64 ah, .int .u64 al, .int .i64 i] W fun e w' => e = .returned (.int .i64 (bitW (wideN ah al) i : Nat)) ∧ Below (w.heap.size + 2) ((w.alloc (.cells #[.int .u64 hi, .int .u64 lo, .int .i64 n] 50)).alloc (.cells #[.bool s, .int .u64 ah, .int .u64 al] 31)) w') := fun W hW => (refBit_any ah al i W h3 h4 (by omega)).mono fun _ _ ⟨he, hw⟩ => ⟨he, hw ▸ hW⟩
      by_cases hz : bitW (wideN hi lo) i = bitW (wideN ah al) i
      · have t1 : ((bitW (wideN hi lo) i : Int) != (bitW (wideN ah al) i : Int)) = false := by simp [hz]
        have HZ := Lib.hid hz
        clear hz
        generalize (bitW (wideN hi lo) i : Int) = v1 at t1 p1
        generalize (bitW (wideN ah al) i : Int) = v2 at t1 p2
        go_wp2
        go_region_held3 (fun W => (W.cell? ⟨w.heap.size, 0, none⟩ = some (.int .u64 hi) ∧ W.cell? ⟨w.heap.size, 1, none⟩ = some (.int .u64 lo) ∧ W.cell? ⟨w.heap.size, 2, none⟩ = some (.int .i64 n)) ∧ W.cell? ⟨w.heap.size + 1, 0, none⟩ = some (.bool s) ∧ W.cell? ⟨w.heap.size + 1, 1, none⟩ = some (.int .u64 ah) ∧ W.cell? ⟨w.heap.size + 1, 2, none⟩ = some (.int .u64 al))
          (first | exact HK.out _ hk.drew | exact HK.out _ hd1 | exact HK.out _ hd2)
          (first
            | (go_simp; go_at_call 83; ((with_reducible refine (p1.out _ hk.drew).mono ?_); rintro e y1 ⟨rfl, hd1⟩))
            | (go_simp; go_at_call 83; ((with_reducible refine (p2.out _ hd1).mono ?_); rintro e y2 ⟨rfl, hd2⟩)))
        go_wp2
        go_roundw
        case rel =>
          refine ⟨i + 1, by omega, by go_num, hd2, fun j a => ?_⟩
          by_cases e : j = i
          · rw [e]; exact HZ.out
          · exact H.out j (by omega)
        case measure => simp [intOf]; omega
      · have t1 : ((bitW (wideN hi lo) i : Int) != (bitW (wideN ah al) i : Int)) = true := by
          have : (bitW (wideN hi lo) i : Int) ≠ (bitW (wideN ah al) i : Int) := by omega
          simp [this]
        have HF : Hid (pHasB (wideN hi lo) n (wideN ah al) = false) := by
          show _ = _
          rw [Bool.eq_false_iff, ne_eq, pHasB_nat, qt_bits (wide_lt h1 h2) (wide_lt h3 h4) hn]
          exact fun g => hz (g.2 i hlt)
        clear hz
        generalize (bitW (wideN hi lo) i : Int) = v1 at t1 p1
        generalize (bitW (wideN ah al) i : Int) = v2 at t1 p2
        go_wp2
        go_region_held3 (fun W => (W.cell? ⟨w.heap.size, 0, none⟩ = some (.int .u64 hi) ∧ W.cell? ⟨w.heap.size, 1, none⟩ = some (.int .u64 lo) ∧ W.cell? ⟨w.heap.size, 2, none⟩ = some (.int .i64 n)) ∧ W.cell? ⟨w.heap.size + 1, 0, none⟩ = some (.bool s) ∧ W.cell? ⟨w.heap.size + 1, 1, none⟩ = some (.int .u64 ah) ∧ W.cell? ⟨w.heap.size + 1, 2, none⟩ = some (.int .u64 al))
          (first | exact HK.out _ hk.drew | exact HK.out _ hd1 | exact HK.out _ hd2)
          (first
            | (go_simp; go_at_call 83; ((with_reducible refine (p1.out _ hk.drew).mono ?_); rintro e y1 ⟨rfl, hd1⟩))
            | (go_simp; go_at_call 83; ((with_reducible refine (p2.out _ hd1).mono ?_); rintro e y2 ⟨rfl, hd2⟩)))
        go_wp2
        go_ret
        exact ⟨ret_bool HF.out.symm, alloc_keeps2 hd2⟩
    · have HF : Hid (pHasB (wideN hi lo) n (wideN ah al) = true) := by
        show _ = _
        rw [pHasB_nat, qt_bits (wide_lt h1 h2) (wide_lt h3 h4) hn]
        exact ⟨⟨hn, HRT.out⟩, fun j a => H.out j (by omega)⟩
      have e : i = n := by omega
      subst e
      go_wp2
      go_ret
      exact ⟨ret_bool HF.out.symm, alloc_keeps2 hk⟩
set_option maxRecDepth 100000 in
set_option maxHeartbeats 1000000 in
theorem refHas_out (hi lo : Nat) (n : Int) (v1 v2 v3 : Value) (w : World) (h1 : hi < 18446744073709551616) (h2 : lo < 18446744073709551616) (hr : pRightB (wideN hi lo) n = false) :
    Calls Tryz.prog 49 #[.agg #[.int .u64 hi, .int .u64 lo, .int .i64 n], .agg #[v1, v2, v3]] w fun e w' => e = .returned (.bool false) ∧ Below w.heap.size w w' := by
  have HR : Hid (∀ W, Calls Tryz.prog 62 #[.agg #[.int .u64 hi, .int .u64 lo, .int .i64 n]] W fun e w' => e = .returned (.bool false) ∧ Below W.heap.size W w') := fun W => by
    have := refRight7_any hi lo n W h1 h2; rwa [hr] at this
  clear hr
  go_enter Tryz.func49, Tryz.ntmps49
  go_wp2_with fail
  refine (HR.out _).mono ?_
  rintro e x1 ⟨rfl, hb1⟩
  go_wp2
  go_ret
  exact ⟨rfl, alloc_keeps2 (hb1.mono (by simp))⟩
theorem refHas_any (hi lo : Nat) (n : Int) (ah al : Nat) (s : Bool) (w : World) (h1 : hi < 18446744073709551616) (h2 : lo < 18446744073709551616) (h3 : ah < 18446744073709551616) (h4 : al < 18446744073709551616) :
    Calls Tryz.prog 49 #[.agg #[.int .u64 hi, .int .u64 lo, .int .i64 n], .agg #[.bool s, .int .u64 ah, .int .u64 al]] w fun e w' => e = .returned (.bool (pHasB (wideN hi lo) n (wideN ah al))) ∧ Below w.heap.size w w' := by
  cases hr : pRightB (wideN hi lo) n with
  | false =>
    rw [show pHasB (wideN hi lo) n (wideN ah al) = false from by unfold pHasB; rw [hr]; rfl]
    exact refHas_out hi lo n _ _ _ w h1 h2 hr
  | true =>
    obtain ⟨k, rfl⟩ := Int.eq_ofNat_of_zero_le (pRightB_in hr).1
    exact refHas_in hi lo k ah al s w h1 h2 h3 h4 hr
end Go.Proofs.YtoobiaifogackaaGreatDoor
