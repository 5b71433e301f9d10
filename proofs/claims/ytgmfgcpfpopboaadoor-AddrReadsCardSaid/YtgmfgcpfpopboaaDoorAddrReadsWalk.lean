/-
  The law AddrReads: its Go text returns true at every text, where the library's tables read as they are laid; nothing that lay in memory before is changed.
-/
import Derived.Test.YtgmfgcpfpopboaaDoorAddE
namespace Go.Proofs.YtgmfgcpfpopboaaDoor
open Go.RowKit


set_option linter.unusedSimpArgs false in
set_option maxRecDepth 100000 in
set_option maxHeartbeats 4000000 in
theorem addrReads_walk (a0 : ByteArray) (_w0 : a0.size ≤ maxLen) (w : World) (hbru : BruTab w) (hmax : MaxVar w) :
    Calls Tryd.prog 7 #[.string a0] w fun e w' => e = .returned (.bool true) ∧ Below w.heap.size w w' := by
  have HX := Lib.hid hmax
  have HT := Lib.hid hbru
  clear hbru hmax
  by_cases hs : 500 < a0.size
  · have hd : decide ((500 : Int) < (a0.size : Int)) = true := decide_eq_true (by omega)
    go_enter Tryd.func7, Tryd.ntmps7
    go_wp2_with fail
    refine (awake06_any _ HT.out HX.out).mono ?_
    rintro e x1 ⟨rfl, hb1⟩
    go_wp2
    go_ret
    exact ⟨rfl, hb1⟩
  · have hd : decide ((500 : Int) < (a0.size : Int)) = false := decide_eq_false (by omega)
    obtain ⟨x, hx⟩ : ∃ x, addrZ a0.data.toList = x := ⟨_, rfl⟩
    have HOK : Hid (∀ a, x = some a → a.Ok) := fun a ha => addrZ_ok (hx.trans ha)
    have HZ := Lib.hid hx
    clear hx
    go_enter Tryd.func7, Tryd.ntmps7
    go_wp2_with fail
    refine (awake06_any _ HT.out HX.out).mono ?_
    rintro e x1 ⟨rfl, hb1⟩
    go_wp2_with fail
    refine (addrParse_any a0 _ (by omega) (maxVar_below HX.out hb1)).mono ?_
    rw [HZ.out]
    rintro e x2 ⟨rfl, hb2⟩
    have hc2 : Below w.heap.size w x2 := hb1.trans (hb2.mono hb1.size)
    clear hb1 hb2
    go_wp2_with fail
    refine (refAddrParse_any a0 _ (by omega)).mono ?_
    rw [HZ.out]
    rintro e x3 ⟨rfl, hb3⟩
    have hcx : Below w.heap.size w x3 := hc2.trans (hb3.mono hc2.size)
    clear hb3 hc2
    match x, HOK with
    | none, _ =>
      simp only [optV, refV, refA, Option.isSome]
      have hc3 : Below w.heap.size w (x3.alloc (.cells #[.bool false, .int .u64 0, .int .u64 0] 55)) := hcx.alloc hcx.size _
      have HB := Lib.hid (heap_alloc_new x3 (.cells #[.bool false, .int .u64 0, .int .u64 0] 55))
      go_wp2
      generalize x3.alloc (.cells #[.bool false, .int .u64 0, .int .u64 0] 55) = x4 at *
      generalize x3.heap.size = g at *
      have k0 : x4.cell? ⟨g, 0, none⟩ = some (.bool false) := by rw [cell_of_row x4 _ 0 _ _ _ HB.out]; rfl
      have k1 : x4.cell? ⟨g, 1, none⟩ = some (.int .u64 0) := by rw [cell_of_row x4 _ 1 _ _ _ HB.out]; rfl
      have k2 : x4.cell? ⟨g, 2, none⟩ = some (.int .u64 0) := by rw [cell_of_row x4 _ 2 _ _ _ HB.out]; rfl
      have HKC : Hid (∀ W, Below x4.heap.size x4 W → W.cell? ⟨g, 0, none⟩ = some (.bool false) ∧ W.cell? ⟨g, 1, none⟩ = some (.int .u64 0) ∧ W.cell? ⟨g, 2, none⟩ = some (.int .u64 0)) := fun W hW =>
        ⟨(hW.cell (World.block_lt_of_cell? x4 _ k0)).trans k0, (hW.cell (World.block_lt_of_cell? x4 _ k1)).trans k1, (hW.cell (World.block_lt_of_cell? x4 _ k2)).trans k2⟩
      have HO : Hid (∀ W, Calls Tryd.prog 28 #[.nilIface] W fun e w' => e = .returned (.agg #[.bool false, .int .u64 0, .int .u64 0]) ∧ Below W.heap.size W w') := fun W => lawOf_nil W
      clear k0 k1 k2
      go_region_held3 (fun W => W.cell? ⟨g, 0, none⟩ = some (.bool false) ∧ W.cell? ⟨g, 1, none⟩ = some (.int .u64 0) ∧ W.cell? ⟨g, 2, none⟩ = some (.int .u64 0))
        (first | exact HKC.out _ (below_drew1 _) | exact HKC.out _ (below_of_drew hb5))
        (first | (go_simp; go_at_call 28; ((with_reducible refine (HO.out _).mono ?_); rintro e x5 ⟨rfl, hb5⟩)))
      have hfin : Below w.heap.size w x5 := hc3.trans ((below_of_drew hb5).mono hc3.size)
      go_wp2
      go_ret
      exact ⟨by first | rfl | exact ret_bool (by simp), hfin⟩
    | some (.four n), HOK =>
      have hn := HOK.out _ rfl
      simp only [optV, AZ.val, refV, refA, Option.isSome]
      have hc3 : Below w.heap.size w (x3.alloc (.cells #[.bool false, .int .u64 0, .int .u64 (281470681743360 + n)] 55)) := hcx.alloc hcx.size _
      have HB := Lib.hid (heap_alloc_new x3 (.cells #[.bool false, .int .u64 0, .int .u64 (281470681743360 + n)] 55))
      go_wp2
      generalize x3.alloc (.cells #[.bool false, .int .u64 0, .int .u64 (281470681743360 + n)] 55) = x4 at *
      generalize x3.heap.size = g at *
      have k0 : x4.cell? ⟨g, 0, none⟩ = some (.bool false) := by rw [cell_of_row x4 _ 0 _ _ _ HB.out]; rfl
      have k1 : x4.cell? ⟨g, 1, none⟩ = some (.int .u64 0) := by rw [cell_of_row x4 _ 1 _ _ _ HB.out]; rfl
      have k2 : x4.cell? ⟨g, 2, none⟩ = some (.int .u64 (281470681743360 + n)) := by rw [cell_of_row x4 _ 2 _ _ _ HB.out]; rfl
      have HKC : Hid (∀ W, Below x4.heap.size x4 W → W.cell? ⟨g, 0, none⟩ = some (.bool false) ∧ W.cell? ⟨g, 1, none⟩ = some (.int .u64 0) ∧ W.cell? ⟨g, 2, none⟩ = some (.int .u64 (281470681743360 + n))) := fun W hW =>
        ⟨(hW.cell (World.block_lt_of_cell? x4 _ k0)).trans k0, (hW.cell (World.block_lt_of_cell? x4 _ k1)).trans k1, (hW.cell (World.block_lt_of_cell? x4 _ k2)).trans k2⟩
      have HO : Hid (∀ W, Calls Tryd.prog 28 #[.iface 60 (.int .u32 n)] W fun e w' => e = .returned (.agg #[.bool false, .int .u64 0, .int .u64 (281470681743360 + n)]) ∧ Below W.heap.size W w') := fun W => lawOf_four n W hn.1 hn.2
      clear k0 k1 k2
      refine wp_region_held_drew (S := fun W => W.cell? ⟨g, 0, none⟩ = some (.bool false) ∧ W.cell? ⟨g, 1, none⟩ = some (.int .u64 0) ∧ W.cell? ⟨g, 2, none⟩ = some (.int .u64 (281470681743360 + n))) (by kernel_rfl) ?_ (fun hHeld => ?_)
      · exact HKC.out _ (below_drew1 _)
      refine wpAnyH_take (i := 0) (v := ?_) rfl (by kernel_rfl) (by kernel_rfl) (by kernel_rfl) (fun _ _ _ h => h) (Or.inl ⟨by rfl, ?_⟩) hHeld ?_
      rotate_left
      · intro w hSw
        (try dsimp only at hSw)
        go_simp
        try with_reducible rfl
      try simp only [Act.put, List.setIfInBounds_toArray, List.set_cons_zero, List.set_cons_succ]
      refine wpAnyH_take (i := 1) (v := ?_) rfl (by kernel_rfl) (by kernel_rfl) (by kernel_rfl) (fun _ _ _ h => h) (Or.inl ⟨by rfl, ?_⟩) hHeld ?_
      rotate_left
      · intro w hSw
        (try dsimp only at hSw)
        go_simp
        try with_reducible rfl
      try simp only [Act.put, List.setIfInBounds_toArray, List.set_cons_zero, List.set_cons_succ]
      refine wpAnyH_take (i := 2) (v := ?_) rfl (by kernel_rfl) (by kernel_rfl) (by kernel_rfl) (fun _ _ _ h => h) (Or.inl ⟨by rfl, ?_⟩) hHeld ?_
      rotate_left
      · intro w hSw
        (try dsimp only at hSw)
        go_simp
        try with_reducible rfl
      try simp only [Act.put, List.setIfInBounds_toArray, List.set_cons_zero, List.set_cons_succ]
      refine wpAnyH_take (i := 3) (v := ?_) rfl (by kernel_rfl) (by kernel_rfl) (by kernel_rfl) (fun _ _ _ h => h) (Or.inl ⟨by rfl, ?_⟩) hHeld ?_
      rotate_left
      · intro w hSw
        (try dsimp only at hSw)
        go_simp
        try with_reducible rfl
      try simp only [Act.put, List.setIfInBounds_toArray, List.set_cons_zero, List.set_cons_succ]
      refine wpAnyH_take (i := 4) (v := ?_) rfl (by kernel_rfl) (by kernel_rfl) (by kernel_rfl) (fun _ _ _ h => h) (Or.inl ⟨by rfl, ?_⟩) hHeld ?_
      rotate_left
      · intro w hSw
        (try dsimp only at hSw)
        go_simp
        try with_reducible rfl
      try simp only [Act.put, List.setIfInBounds_toArray, List.set_cons_zero, List.set_cons_succ]
      refine wpAnyH_take (i := 6) (v := ?_) rfl (by kernel_rfl) (by kernel_rfl) (by kernel_rfl) (fun _ _ _ h => h) (Or.inl ⟨by rfl, ?_⟩) hHeld ?_
      rotate_left
      · intro w hSw
        (try dsimp only at hSw)
        go_simp
        try with_reducible rfl
      try simp only [Act.put, List.setIfInBounds_toArray, List.set_cons_zero, List.set_cons_succ]
      refine wpAnyH_ready (rs := [5]) (by kernel_rfl) (by simp) ?_
      refine AllReadyH.cons rfl (fun K hK => ?_) AllReadyH.nil
      go_simp
      go_at_call 28
      refine (HO.out _).mono ?_
      rintro e x5 ⟨rfl, hb5⟩
      (try go_wp2_with fail)
      refine hK.out _ _ ?_ (fun h2 => ?_)
      · exact HKC.out _ (below_of_drew hb5)
      clear hK K
      try simp only [Act.put, List.setIfInBounds_toArray, List.set_cons_zero, List.set_cons_succ]
      refine wpAnyH_take (i := 7) (v := ?_) rfl (by kernel_rfl) (by kernel_rfl) (by kernel_rfl) (fun _ _ _ h => h) (Or.inl ⟨by rfl, ?_⟩) h2 ?_
      rotate_left
      · intro w hSw
        (try dsimp only at hSw)
        go_simp
        try with_reducible rfl
      try simp only [Act.put, List.setIfInBounds_toArray, List.set_cons_zero, List.set_cons_succ]
      refine wpAnyH_take (i := 8) (v := ?_) rfl (by kernel_rfl) (by kernel_rfl) (by kernel_rfl) (fun _ _ _ h => h) (Or.inl ⟨by rfl, ?_⟩) h2 ?_
      rotate_left
      · intro w hSw
        (try dsimp only at hSw)
        go_simp
        try with_reducible rfl
      try simp only [Act.put, List.setIfInBounds_toArray, List.set_cons_zero, List.set_cons_succ]
      refine wpAnyH_take (i := 9) (v := ?_) rfl (by kernel_rfl) (by kernel_rfl) (by kernel_rfl) (fun _ _ _ h => h) (Or.inl ⟨by rfl, ?_⟩) h2 ?_
      rotate_left
      · intro w hSw
        (try dsimp only at hSw)
        go_simp
        try with_reducible rfl
      try simp only [Act.put, List.setIfInBounds_toArray, List.set_cons_zero, List.set_cons_succ]
      refine wpAnyH_take (i := 10) (v := ?_) rfl (by kernel_rfl) (by kernel_rfl) (by kernel_rfl) (fun _ _ _ h => h) (Or.inl ⟨by rfl, ?_⟩) h2 ?_
      rotate_left
      · intro w hSw
        (try dsimp only at hSw)
        go_simp
        try with_reducible rfl
      try simp only [Act.put, List.setIfInBounds_toArray, List.set_cons_zero, List.set_cons_succ]
      refine wpAnyH_take (i := 11) (v := ?_) rfl (by kernel_rfl) (by kernel_rfl) (by kernel_rfl) (fun _ _ _ h => h) (Or.inl ⟨by rfl, ?_⟩) h2 ?_
      rotate_left
      · intro w hSw
        (try dsimp only at hSw)
        go_simp
        try with_reducible rfl
      try simp only [Act.put, List.setIfInBounds_toArray, List.set_cons_zero, List.set_cons_succ]
      refine wpAnyH_take (i := 12) (v := undef) rfl (by kernel_rfl) (by kernel_rfl) (by kernel_rfl) (fun _ _ _ h => h) (Or.inr ⟨by rfl, rfl⟩) h2 ?_
      try simp only [Act.put, List.setIfInBounds_toArray, List.set_cons_zero, List.set_cons_succ]
      refine wpAnyH_take (i := 13) (v := undef) rfl (by kernel_rfl) (by kernel_rfl) (by kernel_rfl) (fun _ _ _ h => h) (Or.inr ⟨by rfl, rfl⟩) h2 ?_
      try simp only [Act.put, List.setIfInBounds_toArray, List.set_cons_zero, List.set_cons_succ]
      refine wpAnyH_take (i := 14) (v := ?_) rfl (by kernel_rfl) (by kernel_rfl) (by kernel_rfl) (fun _ _ _ h => h) (Or.inl ⟨by rfl, ?_⟩) h2 ?_
      rotate_left
      · intro w hSw
        (try dsimp only at hSw)
        go_simp
        try with_reducible rfl
      try simp only [Act.put, List.setIfInBounds_toArray, List.set_cons_zero, List.set_cons_succ]
      refine wpAnyH_take (i := 15) (oi := ⟨some 37, _, _, _, _, _⟩) (v := ?_) rfl (by kernel_rfl) (by kernel_rfl) (by kernel_rfl) (fun _ _ _ h => h) (Or.inl ⟨by rfl, ?_⟩) h2 ?_
      rotate_left
      · intro w hSw
        (try dsimp only at hSw)
        go_simp
        try with_reducible rfl
      try simp only [Act.put, List.setIfInBounds_toArray, List.set_cons_zero, List.set_cons_succ]
      refine wpAnyH_take (i := 16) (oi := ⟨some 2, _, _, _, _, _⟩) (v := ?_) rfl (by kernel_rfl) (by kernel_rfl) (by kernel_rfl) (fun _ _ _ h => h) (Or.inl ⟨by rfl, ?_⟩) h2 ?_
      rotate_left
      · intro w hSw
        (try dsimp only at hSw)
        go_simp
        try with_reducible rfl
      try simp only [Act.put, List.setIfInBounds_toArray, List.set_cons_zero, List.set_cons_succ]
      refine wpAnyH_done (by kernel_rfl) ?_ _
      have hfin : Below w.heap.size w x5 := hc3.trans ((below_of_drew hb5).mono hc3.size)
      go_wp2
      go_ret
      exact ⟨by first | rfl | (simp; done) | kernel_rfl | (simp [Act.put]; done), hfin⟩
    | some (.six hi lo), _ =>
      simp only [optV, AZ.val, refV, refA, Option.isSome]
      have hc3 : Below w.heap.size w (x3.alloc (.cells #[.bool true, .int .u64 hi, .int .u64 lo] 55)) := hcx.alloc hcx.size _
      have HB := Lib.hid (heap_alloc_new x3 (.cells #[.bool true, .int .u64 hi, .int .u64 lo] 55))
      go_wp2
      generalize x3.alloc (.cells #[.bool true, .int .u64 hi, .int .u64 lo] 55) = x4 at *
      generalize x3.heap.size = g at *
      have k0 : x4.cell? ⟨g, 0, none⟩ = some (.bool true) := by rw [cell_of_row x4 _ 0 _ _ _ HB.out]; rfl
      have k1 : x4.cell? ⟨g, 1, none⟩ = some (.int .u64 hi) := by rw [cell_of_row x4 _ 1 _ _ _ HB.out]; rfl
      have k2 : x4.cell? ⟨g, 2, none⟩ = some (.int .u64 lo) := by rw [cell_of_row x4 _ 2 _ _ _ HB.out]; rfl
      have HKC : Hid (∀ W, Below x4.heap.size x4 W → W.cell? ⟨g, 0, none⟩ = some (.bool true) ∧ W.cell? ⟨g, 1, none⟩ = some (.int .u64 hi) ∧ W.cell? ⟨g, 2, none⟩ = some (.int .u64 lo)) := fun W hW =>
        ⟨(hW.cell (World.block_lt_of_cell? x4 _ k0)).trans k0, (hW.cell (World.block_lt_of_cell? x4 _ k1)).trans k1, (hW.cell (World.block_lt_of_cell? x4 _ k2)).trans k2⟩
      have HO : Hid (∀ W, Calls Tryd.prog 28 #[.iface 25 (.agg #[.int .u64 hi, .int .u64 lo])] W fun e w' => e = .returned (.agg #[.bool true, .int .u64 hi, .int .u64 lo]) ∧ Below W.heap.size W w') := fun W => lawOf_six hi lo W
      clear k0 k1 k2
      refine wp_region_held_drew (S := fun W => W.cell? ⟨g, 0, none⟩ = some (.bool true) ∧ W.cell? ⟨g, 1, none⟩ = some (.int .u64 hi) ∧ W.cell? ⟨g, 2, none⟩ = some (.int .u64 lo)) (by kernel_rfl) ?_ (fun hHeld => ?_)
      · exact HKC.out _ (below_drew1 _)
      refine wpAnyH_take (i := 0) (v := ?_) rfl (by kernel_rfl) (by kernel_rfl) (by kernel_rfl) (fun _ _ _ h => h) (Or.inl ⟨by rfl, ?_⟩) hHeld ?_
      rotate_left
      · intro w hSw
        (try dsimp only at hSw)
        go_simp
        try with_reducible rfl
      try simp only [Act.put, List.setIfInBounds_toArray, List.set_cons_zero, List.set_cons_succ]
      refine wpAnyH_take (i := 1) (v := ?_) rfl (by kernel_rfl) (by kernel_rfl) (by kernel_rfl) (fun _ _ _ h => h) (Or.inl ⟨by rfl, ?_⟩) hHeld ?_
      rotate_left
      · intro w hSw
        (try dsimp only at hSw)
        go_simp
        try with_reducible rfl
      try simp only [Act.put, List.setIfInBounds_toArray, List.set_cons_zero, List.set_cons_succ]
      refine wpAnyH_take (i := 2) (v := ?_) rfl (by kernel_rfl) (by kernel_rfl) (by kernel_rfl) (fun _ _ _ h => h) (Or.inl ⟨by rfl, ?_⟩) hHeld ?_
      rotate_left
      · intro w hSw
        (try dsimp only at hSw)
        go_simp
        try with_reducible rfl
      try simp only [Act.put, List.setIfInBounds_toArray, List.set_cons_zero, List.set_cons_succ]
      refine wpAnyH_take (i := 3) (v := ?_) rfl (by kernel_rfl) (by kernel_rfl) (by kernel_rfl) (fun _ _ _ h => h) (Or.inl ⟨by rfl, ?_⟩) hHeld ?_
      rotate_left
      · intro w hSw
        (try dsimp only at hSw)
        go_simp
        try with_reducible rfl
      try simp only [Act.put, List.setIfInBounds_toArray, List.set_cons_zero, List.set_cons_succ]
      refine wpAnyH_take (i := 4) (v := ?_) rfl (by kernel_rfl) (by kernel_rfl) (by kernel_rfl) (fun _ _ _ h => h) (Or.inl ⟨by rfl, ?_⟩) hHeld ?_
      rotate_left
      · intro w hSw
        (try dsimp only at hSw)
        go_simp
        try with_reducible rfl
      try simp only [Act.put, List.setIfInBounds_toArray, List.set_cons_zero, List.set_cons_succ]
      refine wpAnyH_take (i := 6) (v := ?_) rfl (by kernel_rfl) (by kernel_rfl) (by kernel_rfl) (fun _ _ _ h => h) (Or.inl ⟨by rfl, ?_⟩) hHeld ?_
      rotate_left
      · intro w hSw
        (try dsimp only at hSw)
        go_simp
        try with_reducible rfl
      try simp only [Act.put, List.setIfInBounds_toArray, List.set_cons_zero, List.set_cons_succ]
      refine wpAnyH_ready (rs := [5]) (by kernel_rfl) (by simp) ?_
      refine AllReadyH.cons rfl (fun K hK => ?_) AllReadyH.nil
      go_simp
      go_at_call 28
      refine (HO.out _).mono ?_
      rintro e x5 ⟨rfl, hb5⟩
      (try go_wp2_with fail)
      refine hK.out _ _ ?_ (fun h2 => ?_)
      · exact HKC.out _ (below_of_drew hb5)
      clear hK K
      try simp only [Act.put, List.setIfInBounds_toArray, List.set_cons_zero, List.set_cons_succ]
      refine wpAnyH_take (i := 7) (v := ?_) rfl (by kernel_rfl) (by kernel_rfl) (by kernel_rfl) (fun _ _ _ h => h) (Or.inl ⟨by rfl, ?_⟩) h2 ?_
      rotate_left
      · intro w hSw
        (try dsimp only at hSw)
        go_simp
        try with_reducible rfl
      try simp only [Act.put, List.setIfInBounds_toArray, List.set_cons_zero, List.set_cons_succ]
      refine wpAnyH_take (i := 8) (v := ?_) rfl (by kernel_rfl) (by kernel_rfl) (by kernel_rfl) (fun _ _ _ h => h) (Or.inl ⟨by rfl, ?_⟩) h2 ?_
      rotate_left
      · intro w hSw
        (try dsimp only at hSw)
        go_simp
        try with_reducible rfl
      try simp only [Act.put, List.setIfInBounds_toArray, List.set_cons_zero, List.set_cons_succ]
      refine wpAnyH_take (i := 9) (v := ?_) rfl (by kernel_rfl) (by kernel_rfl) (by kernel_rfl) (fun _ _ _ h => h) (Or.inl ⟨by rfl, ?_⟩) h2 ?_
      rotate_left
      · intro w hSw
        (try dsimp only at hSw)
        go_simp
        try with_reducible rfl
      try simp only [Act.put, List.setIfInBounds_toArray, List.set_cons_zero, List.set_cons_succ]
      refine wpAnyH_take (i := 10) (v := ?_) rfl (by kernel_rfl) (by kernel_rfl) (by kernel_rfl) (fun _ _ _ h => h) (Or.inl ⟨by rfl, ?_⟩) h2 ?_
      rotate_left
      · intro w hSw
        (try dsimp only at hSw)
        go_simp
        try with_reducible rfl
      try simp only [Act.put, List.setIfInBounds_toArray, List.set_cons_zero, List.set_cons_succ]
      refine wpAnyH_take (i := 11) (v := ?_) rfl (by kernel_rfl) (by kernel_rfl) (by kernel_rfl) (fun _ _ _ h => h) (Or.inl ⟨by rfl, ?_⟩) h2 ?_
      rotate_left
      · intro w hSw
        (try dsimp only at hSw)
        go_simp
        try with_reducible rfl
      try simp only [Act.put, List.setIfInBounds_toArray, List.set_cons_zero, List.set_cons_succ]
      refine wpAnyH_take (i := 12) (v := undef) rfl (by kernel_rfl) (by kernel_rfl) (by kernel_rfl) (fun _ _ _ h => h) (Or.inr ⟨by rfl, rfl⟩) h2 ?_
      try simp only [Act.put, List.setIfInBounds_toArray, List.set_cons_zero, List.set_cons_succ]
      refine wpAnyH_take (i := 13) (v := undef) rfl (by kernel_rfl) (by kernel_rfl) (by kernel_rfl) (fun _ _ _ h => h) (Or.inr ⟨by rfl, rfl⟩) h2 ?_
      try simp only [Act.put, List.setIfInBounds_toArray, List.set_cons_zero, List.set_cons_succ]
      refine wpAnyH_take (i := 14) (v := ?_) rfl (by kernel_rfl) (by kernel_rfl) (by kernel_rfl) (fun _ _ _ h => h) (Or.inl ⟨by rfl, ?_⟩) h2 ?_
      rotate_left
      · intro w hSw
        (try dsimp only at hSw)
        go_simp
        try with_reducible rfl
      try simp only [Act.put, List.setIfInBounds_toArray, List.set_cons_zero, List.set_cons_succ]
      refine wpAnyH_take (i := 15) (oi := ⟨some 37, _, _, _, _, _⟩) (v := ?_) rfl (by kernel_rfl) (by kernel_rfl) (by kernel_rfl) (fun _ _ _ h => h) (Or.inl ⟨by rfl, ?_⟩) h2 ?_
      rotate_left
      · intro w hSw
        (try dsimp only at hSw)
        go_simp
        try with_reducible rfl
      try simp only [Act.put, List.setIfInBounds_toArray, List.set_cons_zero, List.set_cons_succ]
      refine wpAnyH_take (i := 16) (oi := ⟨some 2, _, _, _, _, _⟩) (v := ?_) rfl (by kernel_rfl) (by kernel_rfl) (by kernel_rfl) (fun _ _ _ h => h) (Or.inl ⟨by rfl, ?_⟩) h2 ?_
      rotate_left
      · intro w hSw
        (try dsimp only at hSw)
        go_simp
        try with_reducible rfl
      try simp only [Act.put, List.setIfInBounds_toArray, List.set_cons_zero, List.set_cons_succ]
      refine wpAnyH_done (by kernel_rfl) ?_ _
      have hfin : Below w.heap.size w x5 := hc3.trans ((below_of_drew hb5).mono hc3.size)
      go_wp2
      go_ret
      exact ⟨by first | rfl | (simp; done) | kernel_rfl | (simp [Act.put]; done), hfin⟩
end Go.Proofs.YtgmfgcpfpopboaaDoor
