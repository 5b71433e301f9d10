/-
  Layer 8: with: what it comes to at a node that covers the prefix.
-/
import Derived.Test.YtoobiaifogackaaGreatDoorTriH
namespace Go.Proofs.YtoobiaifogackaaGreatDoor
open Go.RowKit


theorem drew_o {x : World} : Below x.heap.size x x.drew := (Below.refl _ _).drew
theorem HT.ptr_form (T : HT) : ∃ u, T.ptr = .pointer u := by cases T <;> exact ⟨_, rfl⟩

set_option maxRecDepth 100000 in
set_option maxHeartbeats 8000000 in
theorem with_left (b W n P k : Nat) (u v : Int) (h : Bool) (l r : HT) (tc : PT) (w : World) (hin : (HT.node b W n u h l r).In w) (hd : (HT.node b W n u h l r).blocks.Nodup) (hP : P < 2 ^ 128)
    (hne : ¬ (W = P ∧ n = k)) (hcv : coversB W n P k = true) (hbit : bitZ P n = 0) (HC : Hid (∀ X, Below w.heap.size w X → Calls Tryz.prog 85 #[l.ptr, pfW P (k : Nat), .int .i64 v] X (RetT X l tc))) :
    Calls Tryz.prog 85 #[(HT.node b W n u h l r).ptr, pfW P (k : Nat), .int .i64 v] w (RetT w (.node b W n u h l r) (.node W n u h tc r.pt)) := by
  have hW := hin.2.1.1
  obtain ⟨wh, ewh⟩ : ∃ x, hiN W = x := ⟨_, rfl⟩
  obtain ⟨wl, ewl⟩ : ∃ x, loN W = x := ⟨_, rfl⟩
  obtain ⟨ph, eph⟩ : ∃ x, hiN P = x := ⟨_, rfl⟩
  obtain ⟨pl, epl⟩ : ∃ x, loN P = x := ⟨_, rfl⟩
  have hne2 : ((wh : Int) == ph && ((wl : Int) == pl && (n : Int) == k)) = false := by
    rw [Bool.eq_false_iff]
    intro g
    simp only [Bool.and_eq_true, beq_iff_eq] at g
    exact hne ⟨wide_inj (by rw [ewh, eph]; omega) (by rw [ewl, epl]; omega), by omega⟩
  have heq := eqPf wh wl n ph pl k
  rw [hne2] at heq
  have hg := eqPf_guard
  have HCV : Hid (∀ X, Calls Tryz.prog 109 #[.agg #[.int .u64 (wh : Nat), .int .u64 (wl : Nat), .int .i64 (n : Nat)], .agg #[.int .u64 (ph : Nat), .int .u64 (pl : Nat), .int .i64 (k : Nat)]] X fun e w' => e = .returned (.bool true) ∧ Below X.heap.size X w') := fun X => by
    have := covers_any wh wl ph pl n k X (ewh ▸ hiN_lt hW) (ewl ▸ loN_lt W) (eph ▸ hiN_lt hP) (epl ▸ loN_lt P)
    rw [← ewh, ← ewl, ← eph, ← epl, wide_split, wide_split, hcv] at this
    rw [← ewh, ← ewl, ← eph, ← epl]; exact this
  have HBT : Hid (∀ X, Calls Tryz.prog 53 #[.agg #[.int .u64 (ph : Nat), .int .u64 (pl : Nat), .int .i64 (k : Nat)], .int .i64 (n : Nat)] X fun e w' => e = .returned (.int .i64 0) ∧ Below X.heap.size X w') := fun X => by
    have := bit_any ph pl k n X (eph ▸ hiN_lt hP) (epl ▸ loN_lt P)
    rw [← eph, ← epl, wide_split, hbit] at this
    rw [← eph, ← epl]; exact this
  have HROW : Hid (w.heap[b]? = some (.cells #[.int .u64 (wh : Nat), .int .u64 (wl : Nat), .int .i64 (n : Nat), .int .i64 u, .bool h, l.ptr, r.ptr] 115)) := by
    have := hin.1; unfold rowOf at this; rw [ewh, ewl] at this; exact this
  have HIN := Lib.hid hin
  have HD := Lib.hid hd
  have hlt := block_lt hin.1
  have hbx : ∀ x ∈ (HT.node b W n u h l r).blocks, x < w.heap.size := HT.in_lt hin
  have HBX := Lib.hid hbx
  show Calls Tryz.prog 85 #[.pointer (some ⟨b, 0, none⟩), .agg #[.int .u64 (hiN P : Nat), .int .u64 (loN P : Nat), .int .i64 (k : Nat)], .int .i64 v] w _
  have HC' : Hid (∀ X, Below w.heap.size w X → Calls Tryz.prog 85 #[l.ptr, .agg #[.int .u64 (ph : Nat), .int .u64 (pl : Nat), .int .i64 (k : Nat)], .int .i64 v] X (RetT X l tc)) := by
    have := HC.out
    rw [show pfW P (k : Nat) = .agg #[.int .u64 (ph : Nat), .int .u64 (pl : Nat), .int .i64 (k : Nat)] from by unfold pfW pfV; rw [eph, epl]] at this
    exact this
  rw [eph, epl]
  clear HC
  have HC := Lib.hid HC'.out
  obtain ⟨uc, huc⟩ := HT.ptr_form l
  have hcells : ∀ X : World, X.heap[b]? = some (.cells #[.int .u64 (wh : Nat), .int .u64 (wl : Nat), .int .i64 (n : Nat), .int .i64 u, .bool h, l.ptr, r.ptr] 115) → (X.cell? ⟨b, 0, none⟩ = some (.int .u64 (wh : Nat)) ∧ X.cell? ⟨b, 1, none⟩ = some (.int .u64 (wl : Nat)) ∧ X.cell? ⟨b, 2, none⟩ = some (.int .i64 (n : Nat))) ∧ X.cell? ⟨b, 5, none⟩ = some l.ptr := fun X hX => ⟨⟨cell_row hX 0, cell_row hX 1, cell_row hX 2⟩, cell_row hX 5⟩
  have HCELLS := Lib.hid hcells
  obtain ⟨⟨c0, c1, c2⟩, c5⟩ := hcells w HROW.out
  clear hin hd hW ewh ewl eph epl hne hne2 hcv hbit hbx hP hcells HC'
  go_enter Tryz.func85, Tryz.ntmps85
  go_wp2
  go_quiet (fail)
  go_wp2
  have hx1 : Below w.heap.size w ((w.alloc (.cells #[.int .u64 (ph : Nat), .int .u64 (pl : Nat), .int .i64 (k : Nat)] 37)).drewN nq) := ((Below.refl _ _).alloc (Nat.le_refl _) _).trans drew_n
  have HB1 : Hid (((w.alloc (.cells #[.int .u64 (ph : Nat), .int .u64 (pl : Nat), .int .i64 (k : Nat)] 37)).drewN nq).heap[w.heap.size]? = some (.cells #[.int .u64 (ph : Nat), .int .u64 (pl : Nat), .int .i64 (k : Nat)] 37)) := Go.Deep.blk_alloc_new _ _
  generalize (w.alloc (.cells #[.int .u64 (ph : Nat), .int .u64 (pl : Nat), .int .i64 (k : Nat)] 37)).drewN nq = x1 at *
  have HN1 : Hid (x1.heap[b]? = _) := (hx1.block b hlt).trans HROW.out
  have HK1 : Hid (∀ X, Below x1.heap.size x1 X → (fun W => (W.cell? ⟨b, 0, none⟩ = some (.int .u64 (wh : Nat)) ∧ W.cell? ⟨b, 1, none⟩ = some (.int .u64 (wl : Nat)) ∧ W.cell? ⟨b, 2, none⟩ = some (.int .i64 (n : Nat))) ∧ (W.cell? ⟨w.heap.size, 0, none⟩ = some (.int .u64 (ph : Nat)) ∧ W.cell? ⟨w.heap.size, 1, none⟩ = some (.int .u64 (pl : Nat)) ∧ W.cell? ⟨w.heap.size, 2, none⟩ = some (.int .i64 (k : Nat)))) X) := fun X hX =>
    ⟨(HCELLS.out X ((hX.block b (block_lt HN1.out)).trans HN1.out)).1, (row3 ((hX.block w.heap.size (block_lt HB1.out)).trans HB1.out)).1⟩
  clear c0 c1 c2 c5
  go_region_held3 (fun W => (W.cell? ⟨b, 0, none⟩ = some (.int .u64 (wh : Nat)) ∧ W.cell? ⟨b, 1, none⟩ = some (.int .u64 (wl : Nat)) ∧ W.cell? ⟨b, 2, none⟩ = some (.int .i64 (n : Nat))) ∧ (W.cell? ⟨w.heap.size, 0, none⟩ = some (.int .u64 (ph : Nat)) ∧ W.cell? ⟨w.heap.size, 1, none⟩ = some (.int .u64 (pl : Nat)) ∧ W.cell? ⟨w.heap.size, 2, none⟩ = some (.int .i64 (k : Nat))))
    (first | exact HK1.out _ (Below.refl _ _).drew | exact HK1.out _ (drew_c hy2))
    (first
      | (go_simp; go_at_call 109; ((with_reducible refine (HCV.out _).mono ?_); rintro e x2 ⟨rfl, hy2⟩)))
  go_wp2
  have hk2 : Below x1.heap.size x1 x2 := drew_c hy2
  clear hy2
  go_region_held3 (fun W => (W.cell? ⟨b, 0, none⟩ = some (.int .u64 (wh : Nat)) ∧ W.cell? ⟨b, 1, none⟩ = some (.int .u64 (wl : Nat)) ∧ W.cell? ⟨b, 2, none⟩ = some (.int .i64 (n : Nat))) ∧ (W.cell? ⟨w.heap.size, 0, none⟩ = some (.int .u64 (ph : Nat)) ∧ W.cell? ⟨w.heap.size, 1, none⟩ = some (.int .u64 (pl : Nat)) ∧ W.cell? ⟨w.heap.size, 2, none⟩ = some (.int .i64 (k : Nat))))
    (first | exact HK1.out _ (hk2.drew) | exact HK1.out _ (below_chain7 hk2 (drew_c hy3)))
    (first
      | (go_simp; go_at_call 53; ((with_reducible refine (HBT.out _).mono ?_); rintro e x3 ⟨rfl, hy3⟩)))
  go_wp2
  have hk3 : Below x1.heap.size x1 x3 := below_chain7 hk2 (drew_c hy3)
  have hx3 : Below w.heap.size w x3 := below_chain7 hx1 hk3
  have HN3 : Hid (x3.heap[b]? = _) := (hk3.block b (block_lt HN1.out)).trans HN1.out
  have HB3 : Hid (x3.heap[w.heap.size]? = _) := (hk3.block w.heap.size (block_lt HB1.out)).trans HB1.out
  have HK8 : Hid (∀ X, Below x3.heap.size x3 X → (fun W => (W.cell? ⟨w.heap.size, 0, none⟩ = some (.int .u64 (ph : Nat)) ∧ W.cell? ⟨w.heap.size, 1, none⟩ = some (.int .u64 (pl : Nat)) ∧ W.cell? ⟨w.heap.size, 2, none⟩ = some (.int .i64 (k : Nat)))) X) := fun X hX => (row3 ((hX.block w.heap.size (block_lt HB3.out)).trans HB3.out)).1
  have HI3 : Hid ((HT.node b W n u h l r).In x3) := HT.in_below HIN.out hx3
  have HW : Hid (∀ X T', Wrote x3.drew X l T' → Wrote x3 (X.setCell ⟨b, 5, none⟩ T'.ptr) (.node b W n u h l r) (.node b W n u h T' r) ∧ X.heap[b]? = some (.cells (rowOf W n u h l.ptr r.ptr) 115)) := fun X T' hw =>
    wrote_left HI3.out HD.out (hw.before (Below.refl _ _).drew (HI3.out.2.2.1))
  have HK9 : Hid (∀ X T', Wrote x3.drew X l T' → (fun W => (W.cell? ⟨w.heap.size, 0, none⟩ = some (.int .u64 (ph : Nat)) ∧ W.cell? ⟨w.heap.size, 1, none⟩ = some (.int .u64 (pl : Nat)) ∧ W.cell? ⟨w.heap.size, 2, none⟩ = some (.int .i64 (k : Nat)))) X) := fun X T' hw =>
    (row3 ((hw.only.block w.heap.size (block_lt HB3.out) (fun g => Nat.lt_irrefl _ (HBX.out _ (List.mem_cons_of_mem _ (List.mem_append_left _ g))))).trans HB3.out)).1
  have HKS : Hid (∀ (X : World) {v : Value}, (fun W => (W.cell? ⟨w.heap.size, 0, none⟩ = some (.int .u64 (ph : Nat)) ∧ W.cell? ⟨w.heap.size, 1, none⟩ = some (.int .u64 (pl : Nat)) ∧ W.cell? ⟨w.heap.size, 2, none⟩ = some (.int .i64 (k : Nat)))) X → (fun W => (W.cell? ⟨w.heap.size, 0, none⟩ = some (.int .u64 (ph : Nat)) ∧ W.cell? ⟨w.heap.size, 1, none⟩ = some (.int .u64 (pl : Nat)) ∧ W.cell? ⟨w.heap.size, 2, none⟩ = some (.int .i64 (k : Nat)))) (X.setCell ⟨b, 5, none⟩ v)) := fun X v hX => by
    have e : ∀ i, (X.setCell ⟨b, 5, none⟩ v).cell? ⟨w.heap.size, i, none⟩ = X.cell? ⟨w.heap.size, i, none⟩ := fun i => World.cell?_of_block (w := X) (set_other (by show w.heap.size ≠ b; omega) _ _)
    show ((X.setCell ⟨b, 5, none⟩ v).cell? ⟨w.heap.size, 0, none⟩ = some (.int .u64 (ph : Nat)) ∧ (X.setCell ⟨b, 5, none⟩ v).cell? ⟨w.heap.size, 1, none⟩ = some (.int .u64 (pl : Nat)) ∧ (X.setCell ⟨b, 5, none⟩ v).cell? ⟨w.heap.size, 2, none⟩ = some (.int .i64 (k : Nat)))
    rw [e, e, e]; exact hX
  have c5 : x3.cell? ⟨b, 5, none⟩ = some l.ptr := (HCELLS.out x3 HN3.out).2
  rw [huc] at c5 HC
  clear hk2 hk3 hy3
  refine wp_region_held_drew (S := fun W => (W.cell? ⟨w.heap.size, 0, none⟩ = some (.int .u64 (ph : Nat)) ∧ W.cell? ⟨w.heap.size, 1, none⟩ = some (.int .u64 (pl : Nat)) ∧ W.cell? ⟨w.heap.size, 2, none⟩ = some (.int .i64 (k : Nat)))) (by kernel_rfl) ?_ (fun hHeld => ?_)
  · exact HK8.out _ (Below.refl _ _).drew
  refine wpAnyH_take (i := 0) (oi := ⟨some 45, _, _, _, _, _⟩) (v := ?_) rfl (by kernel_rfl) (by kernel_rfl) (by kernel_rfl) (fun _ _ _ h => h) (Or.inl ⟨by rfl, ?_⟩) hHeld ?_
  rotate_left
  · intro w hSw
    (try dsimp only at hSw)
    go_simp
    try with_reducible rfl
  try simp only [Act.put, List.setIfInBounds_toArray, List.set_cons_zero, List.set_cons_succ]
  refine wpAnyH_take (i := 1) (oi := ⟨some 46, _, _, _, _, _⟩) (v := ?_) rfl (by kernel_rfl) (by kernel_rfl) (by kernel_rfl) (fun _ _ _ h => h) (Or.inl ⟨by rfl, ?_⟩) hHeld ?_
  rotate_left
  · intro w hSw
    (try dsimp only at hSw)
    go_simp
    try with_reducible rfl
  try simp only [Act.put, List.setIfInBounds_toArray, List.set_cons_zero, List.set_cons_succ]
  refine wpAnyH_take (i := 2) (oi := ⟨some 47, _, _, _, _, _⟩) (v := ?_) rfl (by kernel_rfl) (by kernel_rfl) (by kernel_rfl) (fun _ _ _ h => h) (Or.inl ⟨by rfl, ?_⟩) hHeld ?_
  rotate_left
  · intro w hSw
    (try dsimp only at hSw)
    go_simp
    try with_reducible rfl
  try simp only [Act.put, List.setIfInBounds_toArray, List.set_cons_zero, List.set_cons_succ]
  refine wpAnyH_take (i := 3) (oi := ⟨some 48, _, _, _, _, _⟩) (v := ?_) rfl (by kernel_rfl) (by kernel_rfl) (by kernel_rfl) (fun _ _ _ h => h) (Or.inl ⟨by rfl, ?_⟩) hHeld ?_
  rotate_left
  · intro w hSw
    (try dsimp only at hSw)
    go_simp
    try with_reducible rfl
  try simp only [Act.put, List.setIfInBounds_toArray, List.set_cons_zero, List.set_cons_succ]
  refine wpAnyH_take (i := 4) (oi := ⟨some 49, _, _, _, _, _⟩) (v := ?_) rfl (by kernel_rfl) (by kernel_rfl) (by kernel_rfl) (fun _ _ _ h => h) (Or.inl ⟨by rfl, ?_⟩) hHeld ?_
  rotate_left
  · intro w hSw
    (try dsimp only at hSw)
    go_simp
    try with_reducible rfl
  try simp only [Act.put, List.setIfInBounds_toArray, List.set_cons_zero, List.set_cons_succ]
  refine wpAnyH_take (i := 5) (oi := ⟨some 50, _, _, _, _, _⟩) (v := ?_) rfl (by kernel_rfl) (by kernel_rfl) (by kernel_rfl) (fun _ _ _ h => h) (Or.inl ⟨by rfl, ?_⟩) hHeld ?_
  rotate_left
  · intro w hSw
    (try dsimp only at hSw)
    go_simp
    try with_reducible rfl
  try simp only [Act.put, List.setIfInBounds_toArray, List.set_cons_zero, List.set_cons_succ]
  refine wpAnyH_take (i := 6) (oi := ⟨some 51, _, _, _, _, _⟩) (v := ?_) rfl (by kernel_rfl) (by kernel_rfl) (by kernel_rfl) (fun _ _ _ h => h) (Or.inl ⟨by rfl, ?_⟩) hHeld ?_
  rotate_left
  · intro w hSw
    (try dsimp only at hSw)
    go_simp
    try with_reducible rfl
  try simp only [Act.put, List.setIfInBounds_toArray, List.set_cons_zero, List.set_cons_succ]
  refine wpAnyH_take (i := 8) (oi := ⟨some 53, _, _, _, _, _⟩) (v := ?_) rfl (by kernel_rfl) (by kernel_rfl) (by kernel_rfl) (fun _ _ _ h => h) (Or.inl ⟨by rfl, ?_⟩) hHeld ?_
  rotate_left
  · intro w hSw
    (try dsimp only at hSw)
    go_simp
    try with_reducible rfl
  try simp only [Act.put, List.setIfInBounds_toArray, List.set_cons_zero, List.set_cons_succ]
  refine wpAnyH_take (i := 9) (oi := ⟨some 54, _, _, _, _, _⟩) (v := ?_) rfl (by kernel_rfl) (by kernel_rfl) (by kernel_rfl) (fun _ _ _ h => h) (Or.inl ⟨by rfl, ?_⟩) hHeld ?_
  rotate_left
  · intro w hSw
    (try dsimp only at hSw)
    go_simp
    try with_reducible rfl
  try simp only [Act.put, List.setIfInBounds_toArray, List.set_cons_zero, List.set_cons_succ]
  refine wpAnyH_take (i := 11) (oi := ⟨some 56, _, _, _, _, _⟩) (v := ?_) rfl (by kernel_rfl) (by kernel_rfl) (by kernel_rfl) (fun _ _ _ h => h) (Or.inl ⟨by rfl, ?_⟩) hHeld ?_
  rotate_left
  · intro w hSw
    (try dsimp only at hSw)
    go_simp
    try with_reducible rfl
  try simp only [Act.put, List.setIfInBounds_toArray, List.set_cons_zero, List.set_cons_succ]
  refine wpAnyH_take (i := 12) (oi := ⟨some 57, _, _, _, _, _⟩) (v := ?_) rfl (by kernel_rfl) (by kernel_rfl) (by kernel_rfl) (fun _ _ _ h => h) (Or.inl ⟨by rfl, ?_⟩) hHeld ?_
  rotate_left
  · intro w hSw
    (try dsimp only at hSw)
    go_simp
    try with_reducible rfl
  try simp only [Act.put, List.setIfInBounds_toArray, List.set_cons_zero, List.set_cons_succ]
  refine wpAnyH_ready (rs := [7]) (by kernel_rfl) (by simp) ?_
  refine AllReadyH.cons (o := ⟨some 52, _, _, _, _, _⟩) rfl (fun K hK => ?_) AllReadyH.nil
  go_simp
  refine hK.out _ _ ?_ (fun hHeld1 => ?_)
  · exact HK8.out _ (Below.refl _ _).drew
  clear hK K
  try simp only [Act.put, List.setIfInBounds_toArray, List.set_cons_zero, List.set_cons_succ]
  refine wpAnyH_ready (rs := [10]) (by kernel_rfl) (by simp) ?_
  refine AllReadyH.cons (o := ⟨some 55, _, _, _, _, _⟩) rfl (fun K hK => ?_) AllReadyH.nil
  go_simp
  go_at_call 85
  refine (HC.out _ (below_chain7 hx3 drew_o)).mono ?_
  rintro e x4 ⟨T', rfl, hw, ht⟩
  obtain ⟨hw2, hrow⟩ := HW.out _ _ hw
  have q5 := (node_cells hrow).2.2.2.1
  have g5 := frozen_row hrow 5
  obtain ⟨ut, hut⟩ := HT.ptr_form T'
  rw [hut] at hw2 ⊢
  (try go_wp2_with fail)
  refine hK.out _ _ ?_ (fun hHeld2 => ?_)
  · exact HK9.out _ _ hw
  clear hK K
  try simp only [Act.put, List.setIfInBounds_toArray, List.set_cons_zero, List.set_cons_succ]
  refine wpAnyH_take (i := 13) (oi := ⟨some 58, _, _, _, _, _⟩) (v := ?_) rfl (by kernel_rfl) (by kernel_rfl) (by kernel_rfl) (fun _ _ _ h => h) (Or.inl ⟨by rfl, ?_⟩) hHeld2 ?_
  rotate_left
  · intro w hSw
    (try dsimp only at hSw)
    go_simp
    try with_reducible rfl
  try simp only [Act.put, List.setIfInBounds_toArray, List.set_cons_zero, List.set_cons_succ]
  refine wpAnyH_ready (rs := [14]) (by kernel_rfl) (by simp) ?_
  refine AllReadyH.cons (o := ⟨none, _, _, _, _, _⟩) rfl (fun K hK => ?_) AllReadyH.nil
  go_simp
  refine hK.out _ _ ?_ (fun hHeld3 => ?_)
  · exact HKS.out _ (HK9.out _ _ hw)
  clear hK K
  try simp only [Act.put, List.setIfInBounds_toArray, List.set_cons_zero, List.set_cons_succ]
  refine wpAnyH_done (by kernel_rfl) ?_ _
  go_wp2
  go_ret
  exact ⟨.node b W n u h T' r, rfl, hw2.before hx3 HIN.out, by show PT.node _ _ _ _ _ _ = _; rw [ht]⟩

set_option maxRecDepth 100000 in
set_option maxHeartbeats 8000000 in
theorem with_right (b W n P k : Nat) (u v : Int) (h : Bool) (l r : HT) (tc : PT) (w : World) (hin : (HT.node b W n u h l r).In w) (hd : (HT.node b W n u h l r).blocks.Nodup) (hP : P < 2 ^ 128)
    (hne : ¬ (W = P ∧ n = k)) (hcv : coversB W n P k = true) (hbit : bitZ P n = 1) (HC : Hid (∀ X, Below w.heap.size w X → Calls Tryz.prog 85 #[r.ptr, pfW P (k : Nat), .int .i64 v] X (RetT X r tc))) :
    Calls Tryz.prog 85 #[(HT.node b W n u h l r).ptr, pfW P (k : Nat), .int .i64 v] w (RetT w (.node b W n u h l r) (.node W n u h l.pt tc)) := by
  have hW := hin.2.1.1
  obtain ⟨wh, ewh⟩ : ∃ x, hiN W = x := ⟨_, rfl⟩
  obtain ⟨wl, ewl⟩ : ∃ x, loN W = x := ⟨_, rfl⟩
  obtain ⟨ph, eph⟩ : ∃ x, hiN P = x := ⟨_, rfl⟩
  obtain ⟨pl, epl⟩ : ∃ x, loN P = x := ⟨_, rfl⟩
  have hne2 : ((wh : Int) == ph && ((wl : Int) == pl && (n : Int) == k)) = false := by
    rw [Bool.eq_false_iff]
    intro g
    simp only [Bool.and_eq_true, beq_iff_eq] at g
    exact hne ⟨wide_inj (by rw [ewh, eph]; omega) (by rw [ewl, epl]; omega), by omega⟩
  have heq := eqPf wh wl n ph pl k
  rw [hne2] at heq
  have hg := eqPf_guard
  have HCV : Hid (∀ X, Calls Tryz.prog 109 #[.agg #[.int .u64 (wh : Nat), .int .u64 (wl : Nat), .int .i64 (n : Nat)], .agg #[.int .u64 (ph : Nat), .int .u64 (pl : Nat), .int .i64 (k : Nat)]] X fun e w' => e = .returned (.bool true) ∧ Below X.heap.size X w') := fun X => by
    have := covers_any wh wl ph pl n k X (ewh ▸ hiN_lt hW) (ewl ▸ loN_lt W) (eph ▸ hiN_lt hP) (epl ▸ loN_lt P)
    rw [← ewh, ← ewl, ← eph, ← epl, wide_split, wide_split, hcv] at this
    rw [← ewh, ← ewl, ← eph, ← epl]; exact this
  have HBT : Hid (∀ X, Calls Tryz.prog 53 #[.agg #[.int .u64 (ph : Nat), .int .u64 (pl : Nat), .int .i64 (k : Nat)], .int .i64 (n : Nat)] X fun e w' => e = .returned (.int .i64 1) ∧ Below X.heap.size X w') := fun X => by
    have := bit_any ph pl k n X (eph ▸ hiN_lt hP) (epl ▸ loN_lt P)
    rw [← eph, ← epl, wide_split, hbit] at this
    rw [← eph, ← epl]; exact this
  have HROW : Hid (w.heap[b]? = some (.cells #[.int .u64 (wh : Nat), .int .u64 (wl : Nat), .int .i64 (n : Nat), .int .i64 u, .bool h, l.ptr, r.ptr] 115)) := by
    have := hin.1; unfold rowOf at this; rw [ewh, ewl] at this; exact this
  have HIN := Lib.hid hin
  have HD := Lib.hid hd
  have hlt := block_lt hin.1
  have hbx : ∀ x ∈ (HT.node b W n u h l r).blocks, x < w.heap.size := HT.in_lt hin
  have HBX := Lib.hid hbx
  show Calls Tryz.prog 85 #[.pointer (some ⟨b, 0, none⟩), .agg #[.int .u64 (hiN P : Nat), .int .u64 (loN P : Nat), .int .i64 (k : Nat)], .int .i64 v] w _
  have HC' : Hid (∀ X, Below w.heap.size w X → Calls Tryz.prog 85 #[r.ptr, .agg #[.int .u64 (ph : Nat), .int .u64 (pl : Nat), .int .i64 (k : Nat)], .int .i64 v] X (RetT X r tc)) := by
    have := HC.out
    rw [show pfW P (k : Nat) = .agg #[.int .u64 (ph : Nat), .int .u64 (pl : Nat), .int .i64 (k : Nat)] from by unfold pfW pfV; rw [eph, epl]] at this
    exact this
  rw [eph, epl]
  clear HC
  have HC := Lib.hid HC'.out
  obtain ⟨uc, huc⟩ := HT.ptr_form r
  have hcells : ∀ X : World, X.heap[b]? = some (.cells #[.int .u64 (wh : Nat), .int .u64 (wl : Nat), .int .i64 (n : Nat), .int .i64 u, .bool h, l.ptr, r.ptr] 115) → (X.cell? ⟨b, 0, none⟩ = some (.int .u64 (wh : Nat)) ∧ X.cell? ⟨b, 1, none⟩ = some (.int .u64 (wl : Nat)) ∧ X.cell? ⟨b, 2, none⟩ = some (.int .i64 (n : Nat))) ∧ X.cell? ⟨b, 6, none⟩ = some r.ptr := fun X hX => ⟨⟨cell_row hX 0, cell_row hX 1, cell_row hX 2⟩, cell_row hX 6⟩
  have HCELLS := Lib.hid hcells
  obtain ⟨⟨c0, c1, c2⟩, c5⟩ := hcells w HROW.out
  clear hin hd hW ewh ewl eph epl hne hne2 hcv hbit hbx hP hcells HC'
  go_enter Tryz.func85, Tryz.ntmps85
  go_wp2
  go_quiet (fail)
  go_wp2
  have hx1 : Below w.heap.size w ((w.alloc (.cells #[.int .u64 (ph : Nat), .int .u64 (pl : Nat), .int .i64 (k : Nat)] 37)).drewN nq) := ((Below.refl _ _).alloc (Nat.le_refl _) _).trans drew_n
  have HB1 : Hid (((w.alloc (.cells #[.int .u64 (ph : Nat), .int .u64 (pl : Nat), .int .i64 (k : Nat)] 37)).drewN nq).heap[w.heap.size]? = some (.cells #[.int .u64 (ph : Nat), .int .u64 (pl : Nat), .int .i64 (k : Nat)] 37)) := Go.Deep.blk_alloc_new _ _
  generalize (w.alloc (.cells #[.int .u64 (ph : Nat), .int .u64 (pl : Nat), .int .i64 (k : Nat)] 37)).drewN nq = x1 at *
  have HN1 : Hid (x1.heap[b]? = _) := (hx1.block b hlt).trans HROW.out
  have HK1 : Hid (∀ X, Below x1.heap.size x1 X → (fun W => (W.cell? ⟨b, 0, none⟩ = some (.int .u64 (wh : Nat)) ∧ W.cell? ⟨b, 1, none⟩ = some (.int .u64 (wl : Nat)) ∧ W.cell? ⟨b, 2, none⟩ = some (.int .i64 (n : Nat))) ∧ (W.cell? ⟨w.heap.size, 0, none⟩ = some (.int .u64 (ph : Nat)) ∧ W.cell? ⟨w.heap.size, 1, none⟩ = some (.int .u64 (pl : Nat)) ∧ W.cell? ⟨w.heap.size, 2, none⟩ = some (.int .i64 (k : Nat)))) X) := fun X hX =>
    ⟨(HCELLS.out X ((hX.block b (block_lt HN1.out)).trans HN1.out)).1, (row3 ((hX.block w.heap.size (block_lt HB1.out)).trans HB1.out)).1⟩
  clear c0 c1 c2 c5
  go_region_held3 (fun W => (W.cell? ⟨b, 0, none⟩ = some (.int .u64 (wh : Nat)) ∧ W.cell? ⟨b, 1, none⟩ = some (.int .u64 (wl : Nat)) ∧ W.cell? ⟨b, 2, none⟩ = some (.int .i64 (n : Nat))) ∧ (W.cell? ⟨w.heap.size, 0, none⟩ = some (.int .u64 (ph : Nat)) ∧ W.cell? ⟨w.heap.size, 1, none⟩ = some (.int .u64 (pl : Nat)) ∧ W.cell? ⟨w.heap.size, 2, none⟩ = some (.int .i64 (k : Nat))))
    (first | exact HK1.out _ (Below.refl _ _).drew | exact HK1.out _ (drew_c hy2))
    (first
      | (go_simp; go_at_call 109; ((with_reducible refine (HCV.out _).mono ?_); rintro e x2 ⟨rfl, hy2⟩)))
  go_wp2
  have hk2 : Below x1.heap.size x1 x2 := drew_c hy2
  clear hy2
  go_region_held3 (fun W => (W.cell? ⟨b, 0, none⟩ = some (.int .u64 (wh : Nat)) ∧ W.cell? ⟨b, 1, none⟩ = some (.int .u64 (wl : Nat)) ∧ W.cell? ⟨b, 2, none⟩ = some (.int .i64 (n : Nat))) ∧ (W.cell? ⟨w.heap.size, 0, none⟩ = some (.int .u64 (ph : Nat)) ∧ W.cell? ⟨w.heap.size, 1, none⟩ = some (.int .u64 (pl : Nat)) ∧ W.cell? ⟨w.heap.size, 2, none⟩ = some (.int .i64 (k : Nat))))
    (first | exact HK1.out _ (hk2.drew) | exact HK1.out _ (below_chain7 hk2 (drew_c hy3)))
    (first
      | (go_simp; go_at_call 53; ((with_reducible refine (HBT.out _).mono ?_); rintro e x3 ⟨rfl, hy3⟩)))
  go_wp2
  have hk3 : Below x1.heap.size x1 x3 := below_chain7 hk2 (drew_c hy3)
  have hx3 : Below w.heap.size w x3 := below_chain7 hx1 hk3
  have HN3 : Hid (x3.heap[b]? = _) := (hk3.block b (block_lt HN1.out)).trans HN1.out
  have HB3 : Hid (x3.heap[w.heap.size]? = _) := (hk3.block w.heap.size (block_lt HB1.out)).trans HB1.out
  have HK8 : Hid (∀ X, Below x3.heap.size x3 X → (fun W => (W.cell? ⟨w.heap.size, 0, none⟩ = some (.int .u64 (ph : Nat)) ∧ W.cell? ⟨w.heap.size, 1, none⟩ = some (.int .u64 (pl : Nat)) ∧ W.cell? ⟨w.heap.size, 2, none⟩ = some (.int .i64 (k : Nat)))) X) := fun X hX => (row3 ((hX.block w.heap.size (block_lt HB3.out)).trans HB3.out)).1
  have HI3 : Hid ((HT.node b W n u h l r).In x3) := HT.in_below HIN.out hx3
  have HW : Hid (∀ X T', Wrote x3.drew X r T' → Wrote x3 (X.setCell ⟨b, 6, none⟩ T'.ptr) (.node b W n u h l r) (.node b W n u h l T') ∧ X.heap[b]? = some (.cells (rowOf W n u h l.ptr r.ptr) 115)) := fun X T' hw =>
    wrote_right HI3.out HD.out (hw.before (Below.refl _ _).drew (HI3.out.2.2.2))
  have HK9 : Hid (∀ X T', Wrote x3.drew X r T' → (fun W => (W.cell? ⟨w.heap.size, 0, none⟩ = some (.int .u64 (ph : Nat)) ∧ W.cell? ⟨w.heap.size, 1, none⟩ = some (.int .u64 (pl : Nat)) ∧ W.cell? ⟨w.heap.size, 2, none⟩ = some (.int .i64 (k : Nat)))) X) := fun X T' hw =>
    (row3 ((hw.only.block w.heap.size (block_lt HB3.out) (fun g => Nat.lt_irrefl _ (HBX.out _ (List.mem_cons_of_mem _ (List.mem_append_right _ g))))).trans HB3.out)).1
  have HKS : Hid (∀ (X : World) {v : Value}, (fun W => (W.cell? ⟨w.heap.size, 0, none⟩ = some (.int .u64 (ph : Nat)) ∧ W.cell? ⟨w.heap.size, 1, none⟩ = some (.int .u64 (pl : Nat)) ∧ W.cell? ⟨w.heap.size, 2, none⟩ = some (.int .i64 (k : Nat)))) X → (fun W => (W.cell? ⟨w.heap.size, 0, none⟩ = some (.int .u64 (ph : Nat)) ∧ W.cell? ⟨w.heap.size, 1, none⟩ = some (.int .u64 (pl : Nat)) ∧ W.cell? ⟨w.heap.size, 2, none⟩ = some (.int .i64 (k : Nat)))) (X.setCell ⟨b, 6, none⟩ v)) := fun X v hX => by
    have e : ∀ i, (X.setCell ⟨b, 6, none⟩ v).cell? ⟨w.heap.size, i, none⟩ = X.cell? ⟨w.heap.size, i, none⟩ := fun i => World.cell?_of_block (w := X) (set_other (by show w.heap.size ≠ b; omega) _ _)
    show ((X.setCell ⟨b, 6, none⟩ v).cell? ⟨w.heap.size, 0, none⟩ = some (.int .u64 (ph : Nat)) ∧ (X.setCell ⟨b, 6, none⟩ v).cell? ⟨w.heap.size, 1, none⟩ = some (.int .u64 (pl : Nat)) ∧ (X.setCell ⟨b, 6, none⟩ v).cell? ⟨w.heap.size, 2, none⟩ = some (.int .i64 (k : Nat)))
    rw [e, e, e]; exact hX
  have c5 : x3.cell? ⟨b, 6, none⟩ = some r.ptr := (HCELLS.out x3 HN3.out).2
  rw [huc] at c5 HC
  clear hk2 hk3 hy3
  refine wp_region_held_drew (S := fun W => (W.cell? ⟨w.heap.size, 0, none⟩ = some (.int .u64 (ph : Nat)) ∧ W.cell? ⟨w.heap.size, 1, none⟩ = some (.int .u64 (pl : Nat)) ∧ W.cell? ⟨w.heap.size, 2, none⟩ = some (.int .i64 (k : Nat)))) (by kernel_rfl) ?_ (fun hHeld => ?_)
  · exact HK8.out _ (Below.refl _ _).drew
  refine wpAnyH_take (i := 0) (oi := ⟨some 45, _, _, _, _, _⟩) (v := ?_) rfl (by kernel_rfl) (by kernel_rfl) (by kernel_rfl) (fun _ _ _ h => h) (Or.inl ⟨by rfl, ?_⟩) hHeld ?_
  rotate_left
  · intro w hSw
    (try dsimp only at hSw)
    go_simp
    try with_reducible rfl
  try simp only [Act.put, List.setIfInBounds_toArray, List.set_cons_zero, List.set_cons_succ]
  refine wpAnyH_take (i := 1) (oi := ⟨some 46, _, _, _, _, _⟩) (v := ?_) rfl (by kernel_rfl) (by kernel_rfl) (by kernel_rfl) (fun _ _ _ h => h) (Or.inl ⟨by rfl, ?_⟩) hHeld ?_
  rotate_left
  · intro w hSw
    (try dsimp only at hSw)
    go_simp
    try with_reducible rfl
  try simp only [Act.put, List.setIfInBounds_toArray, List.set_cons_zero, List.set_cons_succ]
  refine wpAnyH_take (i := 2) (oi := ⟨some 47, _, _, _, _, _⟩) (v := ?_) rfl (by kernel_rfl) (by kernel_rfl) (by kernel_rfl) (fun _ _ _ h => h) (Or.inl ⟨by rfl, ?_⟩) hHeld ?_
  rotate_left
  · intro w hSw
    (try dsimp only at hSw)
    go_simp
    try with_reducible rfl
  try simp only [Act.put, List.setIfInBounds_toArray, List.set_cons_zero, List.set_cons_succ]
  refine wpAnyH_take (i := 3) (oi := ⟨some 48, _, _, _, _, _⟩) (v := ?_) rfl (by kernel_rfl) (by kernel_rfl) (by kernel_rfl) (fun _ _ _ h => h) (Or.inl ⟨by rfl, ?_⟩) hHeld ?_
  rotate_left
  · intro w hSw
    (try dsimp only at hSw)
    go_simp
    try with_reducible rfl
  try simp only [Act.put, List.setIfInBounds_toArray, List.set_cons_zero, List.set_cons_succ]
  refine wpAnyH_take (i := 4) (oi := ⟨some 49, _, _, _, _, _⟩) (v := ?_) rfl (by kernel_rfl) (by kernel_rfl) (by kernel_rfl) (fun _ _ _ h => h) (Or.inl ⟨by rfl, ?_⟩) hHeld ?_
  rotate_left
  · intro w hSw
    (try dsimp only at hSw)
    go_simp
    try with_reducible rfl
  try simp only [Act.put, List.setIfInBounds_toArray, List.set_cons_zero, List.set_cons_succ]
  refine wpAnyH_take (i := 5) (oi := ⟨some 50, _, _, _, _, _⟩) (v := ?_) rfl (by kernel_rfl) (by kernel_rfl) (by kernel_rfl) (fun _ _ _ h => h) (Or.inl ⟨by rfl, ?_⟩) hHeld ?_
  rotate_left
  · intro w hSw
    (try dsimp only at hSw)
    go_simp
    try with_reducible rfl
  try simp only [Act.put, List.setIfInBounds_toArray, List.set_cons_zero, List.set_cons_succ]
  refine wpAnyH_take (i := 6) (oi := ⟨some 51, _, _, _, _, _⟩) (v := ?_) rfl (by kernel_rfl) (by kernel_rfl) (by kernel_rfl) (fun _ _ _ h => h) (Or.inl ⟨by rfl, ?_⟩) hHeld ?_
  rotate_left
  · intro w hSw
    (try dsimp only at hSw)
    go_simp
    try with_reducible rfl
  try simp only [Act.put, List.setIfInBounds_toArray, List.set_cons_zero, List.set_cons_succ]
  refine wpAnyH_take (i := 8) (oi := ⟨some 53, _, _, _, _, _⟩) (v := ?_) rfl (by kernel_rfl) (by kernel_rfl) (by kernel_rfl) (fun _ _ _ h => h) (Or.inl ⟨by rfl, ?_⟩) hHeld ?_
  rotate_left
  · intro w hSw
    (try dsimp only at hSw)
    go_simp
    try with_reducible rfl
  try simp only [Act.put, List.setIfInBounds_toArray, List.set_cons_zero, List.set_cons_succ]
  refine wpAnyH_take (i := 9) (oi := ⟨some 54, _, _, _, _, _⟩) (v := ?_) rfl (by kernel_rfl) (by kernel_rfl) (by kernel_rfl) (fun _ _ _ h => h) (Or.inl ⟨by rfl, ?_⟩) hHeld ?_
  rotate_left
  · intro w hSw
    (try dsimp only at hSw)
    go_simp
    try with_reducible rfl
  try simp only [Act.put, List.setIfInBounds_toArray, List.set_cons_zero, List.set_cons_succ]
  refine wpAnyH_take (i := 11) (oi := ⟨some 56, _, _, _, _, _⟩) (v := ?_) rfl (by kernel_rfl) (by kernel_rfl) (by kernel_rfl) (fun _ _ _ h => h) (Or.inl ⟨by rfl, ?_⟩) hHeld ?_
  rotate_left
  · intro w hSw
    (try dsimp only at hSw)
    go_simp
    try with_reducible rfl
  try simp only [Act.put, List.setIfInBounds_toArray, List.set_cons_zero, List.set_cons_succ]
  refine wpAnyH_take (i := 12) (oi := ⟨some 57, _, _, _, _, _⟩) (v := ?_) rfl (by kernel_rfl) (by kernel_rfl) (by kernel_rfl) (fun _ _ _ h => h) (Or.inl ⟨by rfl, ?_⟩) hHeld ?_
  rotate_left
  · intro w hSw
    (try dsimp only at hSw)
    go_simp
    try with_reducible rfl
  try simp only [Act.put, List.setIfInBounds_toArray, List.set_cons_zero, List.set_cons_succ]
  refine wpAnyH_ready (rs := [7]) (by kernel_rfl) (by simp) ?_
  refine AllReadyH.cons (o := ⟨some 52, _, _, _, _, _⟩) rfl (fun K hK => ?_) AllReadyH.nil
  go_simp
  refine hK.out _ _ ?_ (fun hHeld1 => ?_)
  · exact HK8.out _ (Below.refl _ _).drew
  clear hK K
  try simp only [Act.put, List.setIfInBounds_toArray, List.set_cons_zero, List.set_cons_succ]
  refine wpAnyH_ready (rs := [10]) (by kernel_rfl) (by simp) ?_
  refine AllReadyH.cons (o := ⟨some 55, _, _, _, _, _⟩) rfl (fun K hK => ?_) AllReadyH.nil
  go_simp
  go_at_call 85
  refine (HC.out _ (below_chain7 hx3 drew_o)).mono ?_
  rintro e x4 ⟨T', rfl, hw, ht⟩
  obtain ⟨hw2, hrow⟩ := HW.out _ _ hw
  have q5 := (node_cells hrow).2.2.2.2
  have g5 := frozen_row hrow 6
  obtain ⟨ut, hut⟩ := HT.ptr_form T'
  rw [hut] at hw2 ⊢
  (try go_wp2_with fail)
  refine hK.out _ _ ?_ (fun hHeld2 => ?_)
  · exact HK9.out _ _ hw
  clear hK K
  try simp only [Act.put, List.setIfInBounds_toArray, List.set_cons_zero, List.set_cons_succ]
  refine wpAnyH_take (i := 13) (oi := ⟨some 58, _, _, _, _, _⟩) (v := ?_) rfl (by kernel_rfl) (by kernel_rfl) (by kernel_rfl) (fun _ _ _ h => h) (Or.inl ⟨by rfl, ?_⟩) hHeld2 ?_
  rotate_left
  · intro w hSw
    (try dsimp only at hSw)
    go_simp
    try with_reducible rfl
  try simp only [Act.put, List.setIfInBounds_toArray, List.set_cons_zero, List.set_cons_succ]
  refine wpAnyH_ready (rs := [14]) (by kernel_rfl) (by simp) ?_
  refine AllReadyH.cons (o := ⟨none, _, _, _, _, _⟩) rfl (fun K hK => ?_) AllReadyH.nil
  go_simp
  refine hK.out _ _ ?_ (fun hHeld3 => ?_)
  · exact HKS.out _ (HK9.out _ _ hw)
  clear hK K
  try simp only [Act.put, List.setIfInBounds_toArray, List.set_cons_zero, List.set_cons_succ]
  refine wpAnyH_done (by kernel_rfl) ?_ _
  go_wp2
  go_ret
  exact ⟨.node b W n u h l T', rfl, hw2.before hx3 HIN.out, by show PT.node _ _ _ _ _ _ = _; rw [ht]⟩
end Go.Proofs.YtoobiaifogackaaGreatDoor
