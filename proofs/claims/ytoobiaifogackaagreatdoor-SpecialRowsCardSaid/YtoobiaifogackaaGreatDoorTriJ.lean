/-
  Layer 8: with: what it comes to where the prefixes part, and at any tree.
-/
import Derived.Test.YtoobiaifogackaaGreatDoorTriI
namespace Go.Proofs.YtoobiaifogackaaGreatDoor
open Go.RowKit


theorem wrote_above {w X w' : World} {T A T' : HT} (h : Wrote X w' A T') (hb : Below w.heap.size w X) (hA : ∀ x ∈ A.blocks, x ∈ T.blocks ∨ w.heap.size ≤ x) : Wrote w w' T T' :=
  ⟨h.lies, h.once, fun x hx => by
    rcases h.sub x hx with g | g
    · exact hA x g
    · exact .inr (Nat.le_trans hb.size g), (Only.of_below hb).trans h.only hA⟩

set_option maxRecDepth 100000 in
set_option maxHeartbeats 8000000 in
theorem with_part0 (b W n P k m : Nat) (u v : Int) (h : Bool) (l r : HT) (tA : PT) (w : World) (hin : (HT.node b W n u h l r).In w) (hd : (HT.node b W n u h l r).blocks.Nodup) (hP : P < 2 ^ 128) (hk : k ≤ 128)
    (hne : ¬ (W = P ∧ n = k)) (hcv : coversB W n P k = false) (hm : common W n P k = m) (hm2 : m ≤ 128) (hbit : bitZ W m = 0)
    (HA : Hid (∀ (ga : Nat) X, (HT.In X (.node ga (ofW P m) m 0 false (.node b W n u h l r) .nil)) → (HT.blocks (.node ga (ofW P m) m 0 false (.node b W n u h l r) .nil)).Nodup → Calls Tryz.prog 85 #[.pointer (some ⟨ga, 0, none⟩), pfW P (k : Nat), .int .i64 v] X (RetT X (.node ga (ofW P m) m 0 false (.node b W n u h l r) .nil) tA))) :
    Calls Tryz.prog 85 #[(HT.node b W n u h l r).ptr, pfW P (k : Nat), .int .i64 v] w (RetT w (.node b W n u h l r) tA) := by
  have hW := hin.2.1.1
  have hn := hin.2.1.2.1
  have hS : ofW P m < 2 ^ 128 := ofW_lt hP
  obtain ⟨wh, ewh⟩ : ∃ x, hiN W = x := ⟨_, rfl⟩
  obtain ⟨wl, ewl⟩ : ∃ x, loN W = x := ⟨_, rfl⟩
  obtain ⟨ph, eph⟩ : ∃ x, hiN P = x := ⟨_, rfl⟩
  obtain ⟨pl, epl⟩ : ∃ x, loN P = x := ⟨_, rfl⟩
  obtain ⟨sh, esh⟩ : ∃ x, hiN (ofW P m) = x := ⟨_, rfl⟩
  obtain ⟨sl, esl⟩ : ∃ x, loN (ofW P m) = x := ⟨_, rfl⟩
  have hne2 : ((wh : Int) == ph && ((wl : Int) == pl && (n : Int) == k)) = false := by
    rw [Bool.eq_false_iff]
    intro g
    simp only [Bool.and_eq_true, beq_iff_eq] at g
    exact hne ⟨wide_inj (by rw [ewh, eph]; omega) (by rw [ewl, epl]; omega), by omega⟩
  have heq := eqPf wh wl n ph pl k
  rw [hne2] at heq
  have hg := eqPf_guard
  have HCV : Hid (∀ X, Calls Tryz.prog 109 #[.agg #[.int .u64 (wh : Nat), .int .u64 (wl : Nat), .int .i64 (n : Nat)], .agg #[.int .u64 (ph : Nat), .int .u64 (pl : Nat), .int .i64 (k : Nat)]] X fun e w' => e = .returned (.bool false) ∧ Below X.heap.size X w') := fun X => by
    have := covers_any wh wl ph pl n k X (ewh ▸ hiN_lt hW) (ewl ▸ loN_lt W) (eph ▸ hiN_lt hP) (epl ▸ loN_lt P)
    rw [← ewh, ← ewl, ← eph, ← epl, wide_split, wide_split, hcv] at this
    rw [← ewh, ← ewl, ← eph, ← epl]; exact this
  have HSH : Hid (∀ X, Calls Tryz.prog 110 #[.agg #[.int .u64 (wh : Nat), .int .u64 (wl : Nat), .int .i64 (n : Nat)], .agg #[.int .u64 (ph : Nat), .int .u64 (pl : Nat), .int .i64 (k : Nat)]] X fun e w' => e = .returned (.agg #[.int .u64 (sh : Nat), .int .u64 (sl : Nat), .int .i64 (m : Nat)]) ∧ Below X.heap.size X w') := fun X => by
    have := shared_any wh wl n ph pl k X (ewh ▸ hiN_lt hW) (ewl ▸ loN_lt W) (eph ▸ hiN_lt hP) (epl ▸ loN_lt P) hn hk
    rw [← ewh, ← ewl, ← eph, ← epl, wide_split, wide_split, hm] at this
    rw [← ewh, ← ewl, ← eph, ← epl, ← esh, ← esl]; exact this
  have HBT : Hid (∀ X, Calls Tryz.prog 53 #[.agg #[.int .u64 (wh : Nat), .int .u64 (wl : Nat), .int .i64 (n : Nat)], .int .i64 (m : Nat)] X fun e w' => e = .returned (.int .i64 0) ∧ Below X.heap.size X w') := fun X => by
    have := bit_any wh wl n m X (ewh ▸ hiN_lt hW) (ewl ▸ loN_lt W)
    rw [← ewh, ← ewl, wide_split, hbit] at this
    rw [← ewh, ← ewl]; exact this
  have HROW : Hid (w.heap[b]? = some (.cells #[.int .u64 (wh : Nat), .int .u64 (wl : Nat), .int .i64 (n : Nat), .int .i64 u, .bool h, l.ptr, r.ptr] 115)) := by
    have := hin.1; unfold rowOf at this; rw [ewh, ewl] at this; exact this
  have HAROW : Hid (∀ x y, rowOf (ofW P m) m 0 false x y = #[.int .u64 (sh : Nat), .int .u64 (sl : Nat), .int .i64 (m : Nat), .int .i64 0, .bool false, x, y]) := fun x y => by
    unfold rowOf; rw [esh, esl]
  have HOK : Hid (ofW P m < 2 ^ 128 ∧ m ≤ 128 ∧ rt (ofW P m) m) := ⟨hS, hm2, rt_of P m⟩
  have HIN := Lib.hid hin
  have HD := Lib.hid hd
  have hlt := block_lt hin.1
  have HBX := Lib.hid (HT.in_lt hin)
  show Calls Tryz.prog 85 #[.pointer (some ⟨b, 0, none⟩), .agg #[.int .u64 (hiN P : Nat), .int .u64 (loN P : Nat), .int .i64 (k : Nat)], .int .i64 v] w _
  have HA' : Hid (∀ (ga : Nat) X, (HT.In X (.node ga (ofW P m) m 0 false (.node b W n u h l r) .nil)) → (HT.blocks (.node ga (ofW P m) m 0 false (.node b W n u h l r) .nil)).Nodup → Calls Tryz.prog 85 #[.pointer (some ⟨ga, 0, none⟩), .agg #[.int .u64 (ph : Nat), .int .u64 (pl : Nat), .int .i64 (k : Nat)], .int .i64 v] X (RetT X (.node ga (ofW P m) m 0 false (.node b W n u h l r) .nil) tA)) := by
    have := HA.out
    rw [show pfW P (k : Nat) = .agg #[.int .u64 (ph : Nat), .int .u64 (pl : Nat), .int .i64 (k : Nat)] from by unfold pfW pfV; rw [eph, epl]] at this
    exact this
  rw [eph, epl]
  clear HA
  have HA := Lib.hid HA'.out
  have HCELLS : Hid (∀ X : World, X.heap[b]? = some (.cells #[.int .u64 (wh : Nat), .int .u64 (wl : Nat), .int .i64 (n : Nat), .int .i64 u, .bool h, l.ptr, r.ptr] 115) → (X.cell? ⟨b, 0, none⟩ = some (.int .u64 (wh : Nat)) ∧ X.cell? ⟨b, 1, none⟩ = some (.int .u64 (wl : Nat)) ∧ X.cell? ⟨b, 2, none⟩ = some (.int .i64 (n : Nat)))) := fun X hX => ⟨cell_row hX 0, cell_row hX 1, cell_row hX 2⟩
  obtain ⟨c0, c1, c2⟩ := HCELLS.out w HROW.out
  clear hin hd hW ewh ewl eph epl esh esl hne hne2 hcv hbit hP hm hS hn hk hm2 HA'
  go_enter Tryz.func85, Tryz.ntmps85
  go_wp2
  go_quiet (fail)
  go_wp2
  have hx1 : Below w.heap.size w ((w.alloc (.cells #[.int .u64 (ph : Nat), .int .u64 (pl : Nat), .int .i64 (k : Nat)] 37)).drewN nq) := ((Below.refl _ _).alloc (Nat.le_refl _) _).trans drew_n
  have HB1 : Hid (((w.alloc (.cells #[.int .u64 (ph : Nat), .int .u64 (pl : Nat), .int .i64 (k : Nat)] 37)).drewN nq).heap[w.heap.size]? = some (.cells #[.int .u64 (ph : Nat), .int .u64 (pl : Nat), .int .i64 (k : Nat)] 37)) := Go.Deep.blk_alloc_new _ _
  generalize (w.alloc (.cells #[.int .u64 (ph : Nat), .int .u64 (pl : Nat), .int .i64 (k : Nat)] 37)).drewN nq = x1 at *
  have HN1 : Hid (x1.heap[b]? = _) := (hx1.block b hlt).trans HROW.out
  have HK1 : Hid (∀ X, Below x1.heap.size x1 X → (fun W => (W.cell? ⟨b, 0, none⟩ = some (.int .u64 (wh : Nat)) ∧ W.cell? ⟨b, 1, none⟩ = some (.int .u64 (wl : Nat)) ∧ W.cell? ⟨b, 2, none⟩ = some (.int .i64 (n : Nat))) ∧ (W.cell? ⟨w.heap.size, 0, none⟩ = some (.int .u64 (ph : Nat)) ∧ W.cell? ⟨w.heap.size, 1, none⟩ = some (.int .u64 (pl : Nat)) ∧ W.cell? ⟨w.heap.size, 2, none⟩ = some (.int .i64 (k : Nat)))) X) := fun X hX =>
    ⟨HCELLS.out X ((hX.block b (block_lt HN1.out)).trans HN1.out), (row3 ((hX.block w.heap.size (block_lt HB1.out)).trans HB1.out)).1⟩
  clear c0 c1 c2
  go_region_held3 (fun W => (W.cell? ⟨b, 0, none⟩ = some (.int .u64 (wh : Nat)) ∧ W.cell? ⟨b, 1, none⟩ = some (.int .u64 (wl : Nat)) ∧ W.cell? ⟨b, 2, none⟩ = some (.int .i64 (n : Nat))) ∧ (W.cell? ⟨w.heap.size, 0, none⟩ = some (.int .u64 (ph : Nat)) ∧ W.cell? ⟨w.heap.size, 1, none⟩ = some (.int .u64 (pl : Nat)) ∧ W.cell? ⟨w.heap.size, 2, none⟩ = some (.int .i64 (k : Nat))))
    (first | exact HK1.out _ (Below.refl _ _).drew | exact HK1.out _ (drew_c hy2))
    (first
      | (go_simp; go_at_call 109; ((with_reducible refine (HCV.out _).mono ?_); rintro e x2 ⟨rfl, hy2⟩)))
  go_wp2
  have hk2 : Below x1.heap.size x1 x2 := drew_c hy2
  clear hy2
  refine wp_region_held_drew (S := fun W => (W.cell? ⟨b, 0, none⟩ = some (.int .u64 (wh : Nat)) ∧ W.cell? ⟨b, 1, none⟩ = some (.int .u64 (wl : Nat)) ∧ W.cell? ⟨b, 2, none⟩ = some (.int .i64 (n : Nat))) ∧ (W.cell? ⟨w.heap.size, 0, none⟩ = some (.int .u64 (ph : Nat)) ∧ W.cell? ⟨w.heap.size, 1, none⟩ = some (.int .u64 (pl : Nat)) ∧ W.cell? ⟨w.heap.size, 2, none⟩ = some (.int .i64 (k : Nat)))) (by kernel_rfl) ?_ (fun hHeld => ?_)
  · exact HK1.out _ hk2.drew
  refine wpAnyH_take (i := 0) (oi := ⟨some 60, _, _, _, _, _⟩) (v := ?_) rfl (by kernel_rfl) (by kernel_rfl) (by kernel_rfl) (fun _ _ _ h => h) (Or.inl ⟨by rfl, ?_⟩) hHeld ?_
  rotate_left
  · intro w hSw
    (try dsimp only at hSw)
    go_simp
    try with_reducible rfl
  try simp only [Act.put, List.setIfInBounds_toArray, List.set_cons_zero, List.set_cons_succ]
  refine wpAnyH_take (i := 1) (oi := ⟨some 61, _, _, _, _, _⟩) (v := ?_) rfl (by kernel_rfl) (by kernel_rfl) (by kernel_rfl) (fun _ _ _ h => h) (Or.inl ⟨by rfl, ?_⟩) hHeld ?_
  rotate_left
  · intro w hSw
    (try dsimp only at hSw)
    go_simp
    try with_reducible rfl
  try simp only [Act.put, List.setIfInBounds_toArray, List.set_cons_zero, List.set_cons_succ]
  refine wpAnyH_take (i := 2) (oi := ⟨some 62, _, _, _, _, _⟩) (v := ?_) rfl (by kernel_rfl) (by kernel_rfl) (by kernel_rfl) (fun _ _ _ h => h) (Or.inl ⟨by rfl, ?_⟩) hHeld ?_
  rotate_left
  · intro w hSw
    (try dsimp only at hSw)
    go_simp
    try with_reducible rfl
  try simp only [Act.put, List.setIfInBounds_toArray, List.set_cons_zero, List.set_cons_succ]
  refine wpAnyH_take (i := 3) (oi := ⟨some 63, _, _, _, _, _⟩) (v := ?_) rfl (by kernel_rfl) (by kernel_rfl) (by kernel_rfl) (fun _ _ _ h => h) (Or.inl ⟨by rfl, ?_⟩) hHeld ?_
  rotate_left
  · intro w hSw
    (try dsimp only at hSw)
    go_simp
    try with_reducible rfl
  try simp only [Act.put, List.setIfInBounds_toArray, List.set_cons_zero, List.set_cons_succ]
  refine wpAnyH_take (i := 4) (oi := ⟨some 64, _, _, _, _, _⟩) (v := ?_) rfl (by kernel_rfl) (by kernel_rfl) (by kernel_rfl) (fun _ _ _ h => h) (Or.inl ⟨by rfl, ?_⟩) hHeld ?_
  rotate_left
  · intro w hSw
    (try dsimp only at hSw)
    go_simp
    try with_reducible rfl
  try simp only [Act.put, List.setIfInBounds_toArray, List.set_cons_zero, List.set_cons_succ]
  refine wpAnyH_ready (rs := [5]) (by kernel_rfl) (by simp) ?_
  refine AllReadyH.cons (o := ⟨some 65, _, _, _, _, _⟩) rfl (fun K hK => ?_) AllReadyH.nil
  go_simp
  go_at_call 110
  refine (HSH.out _).mono ?_
  rintro e x3 ⟨rfl, hy3⟩
  (try go_wp2_with fail)
  refine hK.out _ _ ?_ (fun hHeld1 => ?_)
  · exact HK1.out _ (below_chain7 hk2 (drew_c hy3))
  clear hK K
  try simp only [Act.put, List.setIfInBounds_toArray, List.set_cons_zero, List.set_cons_succ]
  refine wpAnyH_take (i := 6) (oi := ⟨some 66, _, _, _, _, _⟩) (v := ?_) rfl (by kernel_rfl) (by kernel_rfl) (by kernel_rfl) (fun _ _ _ h => h) (Or.inl ⟨by rfl, ?_⟩) hHeld1 ?_
  rotate_left
  · intro w hSw
    (try dsimp only at hSw)
    go_simp
    try with_reducible rfl
  try simp only [Act.put, List.setIfInBounds_toArray, List.set_cons_zero, List.set_cons_succ]
  refine wpAnyH_ready (rs := [7]) (by kernel_rfl) (by simp) ?_
  refine AllReadyH.cons (o := ⟨some 67, _, _, _, _, _⟩) rfl (fun K hK => ?_) AllReadyH.nil
  go_simp
  refine hK.out _ _ ?_ (fun hHeld2 => ?_)
  · exact HK1.out _ ((below_chain7 hk2 (drew_c hy3)).alloc (below_chain7 hk2 (drew_c hy3)).size _)
  clear hK K
  try simp only [Act.put, List.setIfInBounds_toArray, List.set_cons_zero, List.set_cons_succ]
  refine wpAnyH_take (i := 8) (oi := ⟨some 8, _, _, _, _, _⟩) (v := ?_) rfl (by kernel_rfl) (by kernel_rfl) (by kernel_rfl) (fun _ _ _ h => h) (Or.inl ⟨by rfl, ?_⟩) hHeld2 ?_
  rotate_left
  · intro w hSw
    (try dsimp only at hSw)
    go_simp
    try with_reducible rfl
  try simp only [Act.put, List.setIfInBounds_toArray, List.set_cons_zero, List.set_cons_succ]
  refine wpAnyH_done (by kernel_rfl) ?_ _
  go_wp2
  have hk3 : Below x1.heap.size x1 x3 := below_chain7 hk2 (drew_c hy3)
  have hx3 : Below w.heap.size w x3 := below_chain7 hx1 hk3
  have hlt3 : b < x3.heap.size := Nat.lt_of_lt_of_le hlt hx3.size
  have hw3 : w.heap.size < x3.heap.size := Nat.lt_of_lt_of_le (block_lt HB1.out) hk3.size
  have HN3 : Hid ((x3.alloc (.cells #[.int .u64 (sh : Nat), .int .u64 (sl : Nat), .int .i64 (m : Nat), .int .i64 0, .bool false, .pointer none, .pointer none] 115)).heap[b]? = _) := ((hk3.alloc hk3.size _).block b (block_lt HN1.out)).trans HN1.out
  have HAR : Hid ((x3.alloc (.cells #[.int .u64 (sh : Nat), .int .u64 (sl : Nat), .int .i64 (m : Nat), .int .i64 0, .bool false, .pointer none, .pointer none] 115)).heap[x3.heap.size]? = some (.cells #[.int .u64 (sh : Nat), .int .u64 (sl : Nat), .int .i64 (m : Nat), .int .i64 0, .bool false, .pointer none, .pointer none] 115)) := Go.Deep.blk_alloc_new _ _
  have HB3 : Hid ((x3.alloc (.cells #[.int .u64 (sh : Nat), .int .u64 (sl : Nat), .int .i64 (m : Nat), .int .i64 0, .bool false, .pointer none, .pointer none] 115)).heap[w.heap.size]? = _) := ((hk3.alloc hk3.size _).block w.heap.size (block_lt HB1.out)).trans HB1.out
  have hx4 : Below w.heap.size w (x3.alloc (.cells #[.int .u64 (sh : Nat), .int .u64 (sl : Nat), .int .i64 (m : Nat), .int .i64 0, .bool false, .pointer none, .pointer none] 115)) := hx3.alloc hx3.size _
  have HK2 : Hid (∀ X, Below (x3.alloc (.cells #[.int .u64 (sh : Nat), .int .u64 (sl : Nat), .int .i64 (m : Nat), .int .i64 0, .bool false, .pointer none, .pointer none] 115)).heap.size (x3.alloc (.cells #[.int .u64 (sh : Nat), .int .u64 (sl : Nat), .int .i64 (m : Nat), .int .i64 0, .bool false, .pointer none, .pointer none] 115)) X → (fun W => (W.cell? ⟨b, 0, none⟩ = some (.int .u64 (wh : Nat)) ∧ W.cell? ⟨b, 1, none⟩ = some (.int .u64 (wl : Nat)) ∧ W.cell? ⟨b, 2, none⟩ = some (.int .i64 (n : Nat))) ∧ W.cell? ⟨x3.heap.size, 2, none⟩ = some (.int .i64 (m : Nat))) X) := fun X hX =>
    ⟨HCELLS.out X ((hX.block b (block_lt HN3.out)).trans HN3.out), cell_row ((hX.block _ (block_lt HAR.out)).trans HAR.out) 2⟩
  have HR4 : Hid (∀ X, Below (x3.alloc (.cells #[.int .u64 (sh : Nat), .int .u64 (sl : Nat), .int .i64 (m : Nat), .int .i64 0, .bool false, .pointer none, .pointer none] 115)).heap.size (x3.alloc (.cells #[.int .u64 (sh : Nat), .int .u64 (sl : Nat), .int .i64 (m : Nat), .int .i64 0, .bool false, .pointer none, .pointer none] 115)) X → X.heap[x3.heap.size]? = some (.cells #[.int .u64 (sh : Nat), .int .u64 (sl : Nat), .int .i64 (m : Nat), .int .i64 0, .bool false, .pointer none, .pointer none] 115)) := fun X hX => (hX.block _ (block_lt HAR.out)).trans HAR.out
  have HKS : Hid (∀ (X : World) {v : Value}, (fun W => (W.cell? ⟨b, 0, none⟩ = some (.int .u64 (wh : Nat)) ∧ W.cell? ⟨b, 1, none⟩ = some (.int .u64 (wl : Nat)) ∧ W.cell? ⟨b, 2, none⟩ = some (.int .i64 (n : Nat))) ∧ W.cell? ⟨x3.heap.size, 2, none⟩ = some (.int .i64 (m : Nat))) X → (fun W => (W.cell? ⟨b, 0, none⟩ = some (.int .u64 (wh : Nat)) ∧ W.cell? ⟨b, 1, none⟩ = some (.int .u64 (wl : Nat)) ∧ W.cell? ⟨b, 2, none⟩ = some (.int .i64 (n : Nat))) ∧ W.cell? ⟨x3.heap.size, 2, none⟩ = some (.int .i64 (m : Nat))) (X.setCell ⟨x3.heap.size, 5, none⟩ v)) := fun X v hX => by
    have e : ∀ i, (X.setCell ⟨x3.heap.size, 5, none⟩ v).cell? ⟨b, i, none⟩ = X.cell? ⟨b, i, none⟩ := fun i => World.cell?_of_block (w := X) (set_other (by show b ≠ x3.heap.size; omega) _ _)
    have e2 : (X.setCell ⟨x3.heap.size, 5, none⟩ v).cell? ⟨x3.heap.size, 2, none⟩ = X.cell? ⟨x3.heap.size, 2, none⟩ := World.cell?_setCell_other _ _ _ _ (by intro q; have := congrArg Addr.off q; simp at this)
    show ((X.setCell ⟨x3.heap.size, 5, none⟩ v).cell? ⟨b, 0, none⟩ = some (.int .u64 (wh : Nat)) ∧ (X.setCell ⟨x3.heap.size, 5, none⟩ v).cell? ⟨b, 1, none⟩ = some (.int .u64 (wl : Nat)) ∧ (X.setCell ⟨x3.heap.size, 5, none⟩ v).cell? ⟨b, 2, none⟩ = some (.int .i64 (n : Nat))) ∧ _
    refine ⟨?_, ?_⟩
    · rw [e, e, e]; exact hX.1
    · exact e2.trans hX.2
  generalize hgx : x3.alloc (.cells #[.int .u64 (sh : Nat), .int .u64 (sl : Nat), .int .i64 (m : Nat), .int .i64 0, .bool false, .pointer none, .pointer none] 115) = y3 at *
  clear hy3 hk2 hk3 hgx
  refine wp_region_held_drew (S := fun W => (W.cell? ⟨b, 0, none⟩ = some (.int .u64 (wh : Nat)) ∧ W.cell? ⟨b, 1, none⟩ = some (.int .u64 (wl : Nat)) ∧ W.cell? ⟨b, 2, none⟩ = some (.int .i64 (n : Nat))) ∧ W.cell? ⟨x3.heap.size, 2, none⟩ = some (.int .i64 (m : Nat))) (by kernel_rfl) ?_ (fun hHeld => ?_)
  · exact HK2.out _ (Below.refl _ _).drew
  refine wpAnyH_take (i := 0) (oi := ⟨some 68, _, _, _, _, _⟩) (v := ?_) rfl (by kernel_rfl) (by kernel_rfl) (by kernel_rfl) (fun _ _ _ h => h) (Or.inl ⟨by rfl, ?_⟩) hHeld ?_
  rotate_left
  · intro w hSw
    (try dsimp only at hSw)
    go_simp
    try with_reducible rfl
  try simp only [Act.put, List.setIfInBounds_toArray, List.set_cons_zero, List.set_cons_succ]
  refine wpAnyH_take (i := 1) (oi := ⟨some 69, _, _, _, _, _⟩) (v := ?_) rfl (by kernel_rfl) (by kernel_rfl) (by kernel_rfl) (fun _ _ _ h => h) (Or.inl ⟨by rfl, ?_⟩) hHeld ?_
  rotate_left
  · intro w hSw
    (try dsimp only at hSw)
    go_simp
    try with_reducible rfl
  try simp only [Act.put, List.setIfInBounds_toArray, List.set_cons_zero, List.set_cons_succ]
  refine wpAnyH_take (i := 2) (oi := ⟨some 70, _, _, _, _, _⟩) (v := ?_) rfl (by kernel_rfl) (by kernel_rfl) (by kernel_rfl) (fun _ _ _ h => h) (Or.inl ⟨by rfl, ?_⟩) hHeld ?_
  rotate_left
  · intro w hSw
    (try dsimp only at hSw)
    go_simp
    try with_reducible rfl
  try simp only [Act.put, List.setIfInBounds_toArray, List.set_cons_zero, List.set_cons_succ]
  refine wpAnyH_take (i := 3) (oi := ⟨some 71, _, _, _, _, _⟩) (v := ?_) rfl (by kernel_rfl) (by kernel_rfl) (by kernel_rfl) (fun _ _ _ h => h) (Or.inl ⟨by rfl, ?_⟩) hHeld ?_
  rotate_left
  · intro w hSw
    (try dsimp only at hSw)
    go_simp
    try with_reducible rfl
  try simp only [Act.put, List.setIfInBounds_toArray, List.set_cons_zero, List.set_cons_succ]
  refine wpAnyH_take (i := 4) (oi := ⟨some 72, _, _, _, _, _⟩) (v := ?_) rfl (by kernel_rfl) (by kernel_rfl) (by kernel_rfl) (fun _ _ _ h => h) (Or.inl ⟨by rfl, ?_⟩) hHeld ?_
  rotate_left
  · intro w hSw
    (try dsimp only at hSw)
    go_simp
    try with_reducible rfl
  try simp only [Act.put, List.setIfInBounds_toArray, List.set_cons_zero, List.set_cons_succ]
  refine wpAnyH_take (i := 5) (oi := ⟨some 73, _, _, _, _, _⟩) (v := ?_) rfl (by kernel_rfl) (by kernel_rfl) (by kernel_rfl) (fun _ _ _ h => h) (Or.inl ⟨by rfl, ?_⟩) hHeld ?_
  rotate_left
  · intro w hSw
    (try dsimp only at hSw)
    go_simp
    try with_reducible rfl
  try simp only [Act.put, List.setIfInBounds_toArray, List.set_cons_zero, List.set_cons_succ]
  refine wpAnyH_take (i := 6) (oi := ⟨some 74, _, _, _, _, _⟩) (v := ?_) rfl (by kernel_rfl) (by kernel_rfl) (by kernel_rfl) (fun _ _ _ h => h) (Or.inl ⟨by rfl, ?_⟩) hHeld ?_
  rotate_left
  · intro w hSw
    (try dsimp only at hSw)
    go_simp
    try with_reducible rfl
  try simp only [Act.put, List.setIfInBounds_toArray, List.set_cons_zero, List.set_cons_succ]
  refine wpAnyH_take (i := 7) (oi := ⟨some 75, _, _, _, _, _⟩) (v := ?_) rfl (by kernel_rfl) (by kernel_rfl) (by kernel_rfl) (fun _ _ _ h => h) (Or.inl ⟨by rfl, ?_⟩) hHeld ?_
  rotate_left
  · intro w hSw
    (try dsimp only at hSw)
    go_simp
    try with_reducible rfl
  try simp only [Act.put, List.setIfInBounds_toArray, List.set_cons_zero, List.set_cons_succ]
  refine wpAnyH_take (i := 8) (oi := ⟨some 76, _, _, _, _, _⟩) (v := ?_) rfl (by kernel_rfl) (by kernel_rfl) (by kernel_rfl) (fun _ _ _ h => h) (Or.inl ⟨by rfl, ?_⟩) hHeld ?_
  rotate_left
  · intro w hSw
    (try dsimp only at hSw)
    go_simp
    try with_reducible rfl
  try simp only [Act.put, List.setIfInBounds_toArray, List.set_cons_zero, List.set_cons_succ]
  refine wpAnyH_take (i := 9) (oi := ⟨some 77, _, _, _, _, _⟩) (v := ?_) rfl (by kernel_rfl) (by kernel_rfl) (by kernel_rfl) (fun _ _ _ h => h) (Or.inl ⟨by rfl, ?_⟩) hHeld ?_
  rotate_left
  · intro w hSw
    (try dsimp only at hSw)
    go_simp
    try with_reducible rfl
  try simp only [Act.put, List.setIfInBounds_toArray, List.set_cons_zero, List.set_cons_succ]
  refine wpAnyH_take (i := 11) (oi := ⟨some 79, _, _, _, _, _⟩) (v := ?_) rfl (by kernel_rfl) (by kernel_rfl) (by kernel_rfl) (fun _ _ _ h => h) (Or.inl ⟨by rfl, ?_⟩) hHeld ?_
  rotate_left
  · intro w hSw
    (try dsimp only at hSw)
    go_simp
    try with_reducible rfl
  try simp only [Act.put, List.setIfInBounds_toArray, List.set_cons_zero, List.set_cons_succ]
  refine wpAnyH_take (i := 12) (oi := ⟨some 80, _, _, _, _, _⟩) (v := ?_) rfl (by kernel_rfl) (by kernel_rfl) (by kernel_rfl) (fun _ _ _ h => h) (Or.inl ⟨by rfl, ?_⟩) hHeld ?_
  rotate_left
  · intro w hSw
    (try dsimp only at hSw)
    go_simp
    try with_reducible rfl
  try simp only [Act.put, List.setIfInBounds_toArray, List.set_cons_zero, List.set_cons_succ]
  refine wpAnyH_take (i := 13) (oi := ⟨some 81, _, _, _, _, _⟩) (v := ?_) rfl (by kernel_rfl) (by kernel_rfl) (by kernel_rfl) (fun _ _ _ h => h) (Or.inl ⟨by rfl, ?_⟩) hHeld ?_
  rotate_left
  · intro w hSw
    (try dsimp only at hSw)
    go_simp
    try with_reducible rfl
  try simp only [Act.put, List.setIfInBounds_toArray, List.set_cons_zero, List.set_cons_succ]
  refine wpAnyH_ready (rs := [10]) (by kernel_rfl) (by simp) ?_
  refine AllReadyH.cons (o := ⟨some 78, _, _, _, _, _⟩) rfl (fun K hK => ?_) AllReadyH.nil
  go_simp
  go_at_call 53
  refine (HBT.out _).mono ?_
  rintro e x4 ⟨rfl, hy4⟩
  have r4 := HR4.out _ (drew_c hy4)
  have c4 := cell_row r4 5
  have f4 := frozen_row r4 5
  (try go_wp2_with fail)
  refine hK.out _ _ ?_ (fun hHeld1 => ?_)
  · exact HK2.out _ (drew_c hy4)
  clear hK K
  try simp only [Act.put, List.setIfInBounds_toArray, List.set_cons_zero, List.set_cons_succ]
  refine wpAnyH_take (i := 14) (oi := ⟨some 82, _, _, _, _, _⟩) (v := ?_) rfl (by kernel_rfl) (by kernel_rfl) (by kernel_rfl) (fun _ _ _ h => h) (Or.inl ⟨by rfl, ?_⟩) hHeld1 ?_
  rotate_left
  · intro w hSw
    (try dsimp only at hSw)
    go_simp
    try with_reducible rfl
  try simp only [Act.put, List.setIfInBounds_toArray, List.set_cons_zero, List.set_cons_succ]
  refine wpAnyH_ready (rs := [15]) (by kernel_rfl) (by simp) ?_
  refine AllReadyH.cons (o := ⟨none, _, _, _, _, _⟩) rfl (fun K hK => ?_) AllReadyH.nil
  go_simp
  refine hK.out _ _ ?_ (fun hHeld2 => ?_)
  · exact HKS.out _ (HK2.out _ (drew_c hy4))
  clear hK K
  try simp only [Act.put, List.setIfInBounds_toArray, List.set_cons_zero, List.set_cons_succ]
  refine wpAnyH_done (by kernel_rfl) ?_ _
  have hy5 : Below y3.heap.size y3 x4 := drew_c hy4
  have HB5 : Hid (x4.heap[w.heap.size]? = _) := (hy5.block _ (block_lt HB3.out)).trans HB3.out
  have HN5 : Hid (x4.heap[b]? = _) := (hy5.block _ (block_lt HN3.out)).trans HN3.out
  have HB6 : Hid ((x4.setCell ⟨x3.heap.size, 5, none⟩ (.pointer (some ⟨b, 0, none⟩))).heap[w.heap.size]? = _) := (set_other (by omega) _ _).trans HB5.out
  obtain ⟨e0, e1, e2⟩ := (row3 HB6.out).1
  have hx5 : Below w.heap.size w (x4.setCell ⟨x3.heap.size, 5, none⟩ (.pointer (some ⟨b, 0, none⟩))) := (below_chain7 hx4 hy5).setCell (Nat.le_of_lt hw3) _
  have HAI : Hid (HT.In (x4.setCell ⟨x3.heap.size, 5, none⟩ (.pointer (some ⟨b, 0, none⟩))) (.node x3.heap.size (ofW P m) m 0 false (.node b W n u h l r) .nil)) := by
    have hc : HT.In (x4.setCell ⟨x3.heap.size, 5, none⟩ (.pointer (some ⟨b, 0, none⟩))) (.node b W n u h l r) := HT.in_below HIN.out hx5
    refine ⟨?_, HOK.out, hc, trivial⟩
    rw [HAROW.out, set_row r4]; rfl
  have HAD : Hid ((HT.blocks (.node x3.heap.size (ofW P m) m 0 false (.node b W n u h l r) .nil)).Nodup) := by
    refine nodup_mk (fun g => absurd (HBX.out _ g) (by omega)) (by intro g; cases g) HD.out List.nodup_nil (fun x _ g => by cases g)
  have HAS : Hid (∀ x ∈ (HT.blocks (.node x3.heap.size (ofW P m) m 0 false (.node b W n u h l r) .nil)), x ∈ (HT.node b W n u h l r).blocks ∨ w.heap.size ≤ x) := fun x hx => by
    rcases List.mem_cons.1 hx with g | g
    · exact .inr (by rw [g]; omega)
    · rcases List.mem_append.1 g with g | g
      · exact .inl g
      · cases g
  clear hy4 r4 c4 f4
  go_wp2_with fail
  refine (HA.out _ _ HAI.out HAD.out).mono ?_
  rintro e x7 ⟨T', rfl, hw, ht⟩
  go_wp2
  go_ret
  exact ⟨T', rfl, wrote_above hw hx5 HAS.out, ht⟩

set_option maxRecDepth 100000 in
set_option maxHeartbeats 8000000 in
theorem with_part1 (b W n P k m : Nat) (u v : Int) (h : Bool) (l r : HT) (tA : PT) (w : World) (hin : (HT.node b W n u h l r).In w) (hd : (HT.node b W n u h l r).blocks.Nodup) (hP : P < 2 ^ 128) (hk : k ≤ 128)
    (hne : ¬ (W = P ∧ n = k)) (hcv : coversB W n P k = false) (hm : common W n P k = m) (hm2 : m ≤ 128) (hbit : bitZ W m = 1)
    (HA : Hid (∀ (ga : Nat) X, (HT.In X (.node ga (ofW P m) m 0 false .nil (.node b W n u h l r))) → (HT.blocks (.node ga (ofW P m) m 0 false .nil (.node b W n u h l r))).Nodup → Calls Tryz.prog 85 #[.pointer (some ⟨ga, 0, none⟩), pfW P (k : Nat), .int .i64 v] X (RetT X (.node ga (ofW P m) m 0 false .nil (.node b W n u h l r)) tA))) :
    Calls Tryz.prog 85 #[(HT.node b W n u h l r).ptr, pfW P (k : Nat), .int .i64 v] w (RetT w (.node b W n u h l r) tA) := by
  have hW := hin.2.1.1
  have hn := hin.2.1.2.1
  have hS : ofW P m < 2 ^ 128 := ofW_lt hP
  obtain ⟨wh, ewh⟩ : ∃ x, hiN W = x := ⟨_, rfl⟩
  obtain ⟨wl, ewl⟩ : ∃ x, loN W = x := ⟨_, rfl⟩
  obtain ⟨ph, eph⟩ : ∃ x, hiN P = x := ⟨_, rfl⟩
  obtain ⟨pl, epl⟩ : ∃ x, loN P = x := ⟨_, rfl⟩
  obtain ⟨sh, esh⟩ : ∃ x, hiN (ofW P m) = x := ⟨_, rfl⟩
  obtain ⟨sl, esl⟩ : ∃ x, loN (ofW P m) = x := ⟨_, rfl⟩
  have hne2 : ((wh : Int) == ph && ((wl : Int) == pl && (n : Int) == k)) = false := by
    rw [Bool.eq_false_iff]
    intro g
    simp only [Bool.and_eq_true, beq_iff_eq] at g
    exact hne ⟨wide_inj (by rw [ewh, eph]; omega) (by rw [ewl, epl]; omega), by omega⟩
  have heq := eqPf wh wl n ph pl k
  rw [hne2] at heq
  have hg := eqPf_guard
  have HCV : Hid (∀ X, Calls Tryz.prog 109 #[.agg #[.int .u64 (wh : Nat), .int .u64 (wl : Nat), .int .i64 (n : Nat)], .agg #[.int .u64 (ph : Nat), .int .u64 (pl : Nat), .int .i64 (k : Nat)]] X fun e w' => e = .returned (.bool false) ∧ Below X.heap.size X w') := fun X => by
    have := covers_any wh wl ph pl n k X (ewh ▸ hiN_lt hW) (ewl ▸ loN_lt W) (eph ▸ hiN_lt hP) (epl ▸ loN_lt P)
    rw [← ewh, ← ewl, ← eph, ← epl, wide_split, wide_split, hcv] at this
    rw [← ewh, ← ewl, ← eph, ← epl]; exact this
  have HSH : Hid (∀ X, Calls Tryz.prog 110 #[.agg #[.int .u64 (wh : Nat), .int .u64 (wl : Nat), .int .i64 (n : Nat)], .agg #[.int .u64 (ph : Nat), .int .u64 (pl : Nat), .int .i64 (k : Nat)]] X fun e w' => e = .returned (.agg #[.int .u64 (sh : Nat), .int .u64 (sl : Nat), .int .i64 (m : Nat)]) ∧ Below X.heap.size X w') := fun X => by
    have := shared_any wh wl n ph pl k X (ewh ▸ hiN_lt hW) (ewl ▸ loN_lt W) (eph ▸ hiN_lt hP) (epl ▸ loN_lt P) hn hk
    rw [← ewh, ← ewl, ← eph, ← epl, wide_split, wide_split, hm] at this
    rw [← ewh, ← ewl, ← eph, ← epl, ← esh, ← esl]; exact this
  have HBT : Hid (∀ X, Calls Tryz.prog 53 #[.agg #[.int .u64 (wh : Nat), .int .u64 (wl : Nat), .int .i64 (n : Nat)], .int .i64 (m : Nat)] X fun e w' => e = .returned (.int .i64 1) ∧ Below X.heap.size X w') := fun X => by
    have := bit_any wh wl n m X (ewh ▸ hiN_lt hW) (ewl ▸ loN_lt W)
    rw [← ewh, ← ewl, wide_split, hbit] at this
    rw [← ewh, ← ewl]; exact this
  have HROW : Hid (w.heap[b]? = some (.cells #[.int .u64 (wh : Nat), .int .u64 (wl : Nat), .int .i64 (n : Nat), .int .i64 u, .bool h, l.ptr, r.ptr] 115)) := by
    have := hin.1; unfold rowOf at this; rw [ewh, ewl] at this; exact this
  have HAROW : Hid (∀ x y, rowOf (ofW P m) m 0 false x y = #[.int .u64 (sh : Nat), .int .u64 (sl : Nat), .int .i64 (m : Nat), .int .i64 0, .bool false, x, y]) := fun x y => by
    unfold rowOf; rw [esh, esl]
  have HOK : Hid (ofW P m < 2 ^ 128 ∧ m ≤ 128 ∧ rt (ofW P m) m) := ⟨hS, hm2, rt_of P m⟩
  have HIN := Lib.hid hin
  have HD := Lib.hid hd
  have hlt := block_lt hin.1
  have HBX := Lib.hid (HT.in_lt hin)
  show Calls Tryz.prog 85 #[.pointer (some ⟨b, 0, none⟩), .agg #[.int .u64 (hiN P : Nat), .int .u64 (loN P : Nat), .int .i64 (k : Nat)], .int .i64 v] w _
  have HA' : Hid (∀ (ga : Nat) X, (HT.In X (.node ga (ofW P m) m 0 false .nil (.node b W n u h l r))) → (HT.blocks (.node ga (ofW P m) m 0 false .nil (.node b W n u h l r))).Nodup → Calls Tryz.prog 85 #[.pointer (some ⟨ga, 0, none⟩), .agg #[.int .u64 (ph : Nat), .int .u64 (pl : Nat), .int .i64 (k : Nat)], .int .i64 v] X (RetT X (.node ga (ofW P m) m 0 false .nil (.node b W n u h l r)) tA)) := by
    have := HA.out
    rw [show pfW P (k : Nat) = .agg #[.int .u64 (ph : Nat), .int .u64 (pl : Nat), .int .i64 (k : Nat)] from by unfold pfW pfV; rw [eph, epl]] at this
    exact this
  rw [eph, epl]
  clear HA
  have HA := Lib.hid HA'.out
  have HCELLS : Hid (∀ X : World, X.heap[b]? = some (.cells #[.int .u64 (wh : Nat), .int .u64 (wl : Nat), .int .i64 (n : Nat), .int .i64 u, .bool h, l.ptr, r.ptr] 115) → (X.cell? ⟨b, 0, none⟩ = some (.int .u64 (wh : Nat)) ∧ X.cell? ⟨b, 1, none⟩ = some (.int .u64 (wl : Nat)) ∧ X.cell? ⟨b, 2, none⟩ = some (.int .i64 (n : Nat)))) := fun X hX => ⟨cell_row hX 0, cell_row hX 1, cell_row hX 2⟩
  obtain ⟨c0, c1, c2⟩ := HCELLS.out w HROW.out
  clear hin hd hW ewh ewl eph epl esh esl hne hne2 hcv hbit hP hm hS hn hk hm2 HA'
  go_enter Tryz.func85, Tryz.ntmps85
  go_wp2
  go_quiet (fail)
  go_wp2
  have hx1 : Below w.heap.size w ((w.alloc (.cells #[.int .u64 (ph : Nat), .int .u64 (pl : Nat), .int .i64 (k : Nat)] 37)).drewN nq) := ((Below.refl _ _).alloc (Nat.le_refl _) _).trans drew_n
  have HB1 : Hid (((w.alloc (.cells #[.int .u64 (ph : Nat), .int .u64 (pl : Nat), .int .i64 (k : Nat)] 37)).drewN nq).heap[w.heap.size]? = some (.cells #[.int .u64 (ph : Nat), .int .u64 (pl : Nat), .int .i64 (k : Nat)] 37)) := Go.Deep.blk_alloc_new _ _
  generalize (w.alloc (.cells #[.int .u64 (ph : Nat), .int .u64 (pl : Nat), .int .i64 (k : Nat)] 37)).drewN nq = x1 at *
  have HN1 : Hid (x1.heap[b]? = _) := (hx1.block b hlt).trans HROW.out
  have HK1 : Hid (∀ X, Below x1.heap.size x1 X → (fun W => (W.cell? ⟨b, 0, none⟩ = some (.int .u64 (wh : Nat)) ∧ W.cell? ⟨b, 1, none⟩ = some (.int .u64 (wl : Nat)) ∧ W.cell? ⟨b, 2, none⟩ = some (.int .i64 (n : Nat))) ∧ (W.cell? ⟨w.heap.size, 0, none⟩ = some (.int .u64 (ph : Nat)) ∧ W.cell? ⟨w.heap.size, 1, none⟩ = some (.int .u64 (pl : Nat)) ∧ W.cell? ⟨w.heap.size, 2, none⟩ = some (.int .i64 (k : Nat)))) X) := fun X hX =>
    ⟨HCELLS.out X ((hX.block b (block_lt HN1.out)).trans HN1.out), (row3 ((hX.block w.heap.size (block_lt HB1.out)).trans HB1.out)).1⟩
  clear c0 c1 c2
  go_region_held3 (fun W => (W.cell? ⟨b, 0, none⟩ = some (.int .u64 (wh : Nat)) ∧ W.cell? ⟨b, 1, none⟩ = some (.int .u64 (wl : Nat)) ∧ W.cell? ⟨b, 2, none⟩ = some (.int .i64 (n : Nat))) ∧ (W.cell? ⟨w.heap.size, 0, none⟩ = some (.int .u64 (ph : Nat)) ∧ W.cell? ⟨w.heap.size, 1, none⟩ = some (.int .u64 (pl : Nat)) ∧ W.cell? ⟨w.heap.size, 2, none⟩ = some (.int .i64 (k : Nat))))
    (first | exact HK1.out _ (Below.refl _ _).drew | exact HK1.out _ (drew_c hy2))
    (first
      | (go_simp; go_at_call 109; ((with_reducible refine (HCV.out _).mono ?_); rintro e x2 ⟨rfl, hy2⟩)))
  go_wp2
  have hk2 : Below x1.heap.size x1 x2 := drew_c hy2
  clear hy2
  refine wp_region_held_drew (S := fun W => (W.cell? ⟨b, 0, none⟩ = some (.int .u64 (wh : Nat)) ∧ W.cell? ⟨b, 1, none⟩ = some (.int .u64 (wl : Nat)) ∧ W.cell? ⟨b, 2, none⟩ = some (.int .i64 (n : Nat))) ∧ (W.cell? ⟨w.heap.size, 0, none⟩ = some (.int .u64 (ph : Nat)) ∧ W.cell? ⟨w.heap.size, 1, none⟩ = some (.int .u64 (pl : Nat)) ∧ W.cell? ⟨w.heap.size, 2, none⟩ = some (.int .i64 (k : Nat)))) (by kernel_rfl) ?_ (fun hHeld => ?_)
  · exact HK1.out _ hk2.drew
  refine wpAnyH_take (i := 0) (oi := ⟨some 60, _, _, _, _, _⟩) (v := ?_) rfl (by kernel_rfl) (by kernel_rfl) (by kernel_rfl) (fun _ _ _ h => h) (Or.inl ⟨by rfl, ?_⟩) hHeld ?_
  rotate_left
  · intro w hSw
    (try dsimp only at hSw)
    go_simp
    try with_reducible rfl
  try simp only [Act.put, List.setIfInBounds_toArray, List.set_cons_zero, List.set_cons_succ]
  refine wpAnyH_take (i := 1) (oi := ⟨some 61, _, _, _, _, _⟩) (v := ?_) rfl (by kernel_rfl) (by kernel_rfl) (by kernel_rfl) (fun _ _ _ h => h) (Or.inl ⟨by rfl, ?_⟩) hHeld ?_
  rotate_left
  · intro w hSw
    (try dsimp only at hSw)
    go_simp
    try with_reducible rfl
  try simp only [Act.put, List.setIfInBounds_toArray, List.set_cons_zero, List.set_cons_succ]
  refine wpAnyH_take (i := 2) (oi := ⟨some 62, _, _, _, _, _⟩) (v := ?_) rfl (by kernel_rfl) (by kernel_rfl) (by kernel_rfl) (fun _ _ _ h => h) (Or.inl ⟨by rfl, ?_⟩) hHeld ?_
  rotate_left
  · intro w hSw
    (try dsimp only at hSw)
    go_simp
    try with_reducible rfl
  try simp only [Act.put, List.setIfInBounds_toArray, List.set_cons_zero, List.set_cons_succ]
  refine wpAnyH_take (i := 3) (oi := ⟨some 63, _, _, _, _, _⟩) (v := ?_) rfl (by kernel_rfl) (by kernel_rfl) (by kernel_rfl) (fun _ _ _ h => h) (Or.inl ⟨by rfl, ?_⟩) hHeld ?_
  rotate_left
  · intro w hSw
    (try dsimp only at hSw)
    go_simp
    try with_reducible rfl
  try simp only [Act.put, List.setIfInBounds_toArray, List.set_cons_zero, List.set_cons_succ]
  refine wpAnyH_take (i := 4) (oi := ⟨some 64, _, _, _, _, _⟩) (v := ?_) rfl (by kernel_rfl) (by kernel_rfl) (by kernel_rfl) (fun _ _ _ h => h) (Or.inl ⟨by rfl, ?_⟩) hHeld ?_
  rotate_left
  · intro w hSw
    (try dsimp only at hSw)
    go_simp
    try with_reducible rfl
  try simp only [Act.put, List.setIfInBounds_toArray, List.set_cons_zero, List.set_cons_succ]
  refine wpAnyH_ready (rs := [5]) (by kernel_rfl) (by simp) ?_
  refine AllReadyH.cons (o := ⟨some 65, _, _, _, _, _⟩) rfl (fun K hK => ?_) AllReadyH.nil
  go_simp
  go_at_call 110
  refine (HSH.out _).mono ?_
  rintro e x3 ⟨rfl, hy3⟩
  (try go_wp2_with fail)
  refine hK.out _ _ ?_ (fun hHeld1 => ?_)
  · exact HK1.out _ (below_chain7 hk2 (drew_c hy3))
  clear hK K
  try simp only [Act.put, List.setIfInBounds_toArray, List.set_cons_zero, List.set_cons_succ]
  refine wpAnyH_take (i := 6) (oi := ⟨some 66, _, _, _, _, _⟩) (v := ?_) rfl (by kernel_rfl) (by kernel_rfl) (by kernel_rfl) (fun _ _ _ h => h) (Or.inl ⟨by rfl, ?_⟩) hHeld1 ?_
  rotate_left
  · intro w hSw
    (try dsimp only at hSw)
    go_simp
    try with_reducible rfl
  try simp only [Act.put, List.setIfInBounds_toArray, List.set_cons_zero, List.set_cons_succ]
  refine wpAnyH_ready (rs := [7]) (by kernel_rfl) (by simp) ?_
  refine AllReadyH.cons (o := ⟨some 67, _, _, _, _, _⟩) rfl (fun K hK => ?_) AllReadyH.nil
  go_simp
  refine hK.out _ _ ?_ (fun hHeld2 => ?_)
  · exact HK1.out _ ((below_chain7 hk2 (drew_c hy3)).alloc (below_chain7 hk2 (drew_c hy3)).size _)
  clear hK K
  try simp only [Act.put, List.setIfInBounds_toArray, List.set_cons_zero, List.set_cons_succ]
  refine wpAnyH_take (i := 8) (oi := ⟨some 8, _, _, _, _, _⟩) (v := ?_) rfl (by kernel_rfl) (by kernel_rfl) (by kernel_rfl) (fun _ _ _ h => h) (Or.inl ⟨by rfl, ?_⟩) hHeld2 ?_
  rotate_left
  · intro w hSw
    (try dsimp only at hSw)
    go_simp
    try with_reducible rfl
  try simp only [Act.put, List.setIfInBounds_toArray, List.set_cons_zero, List.set_cons_succ]
  refine wpAnyH_done (by kernel_rfl) ?_ _
  go_wp2
  have hk3 : Below x1.heap.size x1 x3 := below_chain7 hk2 (drew_c hy3)
  have hx3 : Below w.heap.size w x3 := below_chain7 hx1 hk3
  have hlt3 : b < x3.heap.size := Nat.lt_of_lt_of_le hlt hx3.size
  have hw3 : w.heap.size < x3.heap.size := Nat.lt_of_lt_of_le (block_lt HB1.out) hk3.size
  have HN3 : Hid ((x3.alloc (.cells #[.int .u64 (sh : Nat), .int .u64 (sl : Nat), .int .i64 (m : Nat), .int .i64 0, .bool false, .pointer none, .pointer none] 115)).heap[b]? = _) := ((hk3.alloc hk3.size _).block b (block_lt HN1.out)).trans HN1.out
  have HAR : Hid ((x3.alloc (.cells #[.int .u64 (sh : Nat), .int .u64 (sl : Nat), .int .i64 (m : Nat), .int .i64 0, .bool false, .pointer none, .pointer none] 115)).heap[x3.heap.size]? = some (.cells #[.int .u64 (sh : Nat), .int .u64 (sl : Nat), .int .i64 (m : Nat), .int .i64 0, .bool false, .pointer none, .pointer none] 115)) := Go.Deep.blk_alloc_new _ _
  have HB3 : Hid ((x3.alloc (.cells #[.int .u64 (sh : Nat), .int .u64 (sl : Nat), .int .i64 (m : Nat), .int .i64 0, .bool false, .pointer none, .pointer none] 115)).heap[w.heap.size]? = _) := ((hk3.alloc hk3.size _).block w.heap.size (block_lt HB1.out)).trans HB1.out
  have hx4 : Below w.heap.size w (x3.alloc (.cells #[.int .u64 (sh : Nat), .int .u64 (sl : Nat), .int .i64 (m : Nat), .int .i64 0, .bool false, .pointer none, .pointer none] 115)) := hx3.alloc hx3.size _
  have HK2 : Hid (∀ X, Below (x3.alloc (.cells #[.int .u64 (sh : Nat), .int .u64 (sl : Nat), .int .i64 (m : Nat), .int .i64 0, .bool false, .pointer none, .pointer none] 115)).heap.size (x3.alloc (.cells #[.int .u64 (sh : Nat), .int .u64 (sl : Nat), .int .i64 (m : Nat), .int .i64 0, .bool false, .pointer none, .pointer none] 115)) X → (fun W => (W.cell? ⟨b, 0, none⟩ = some (.int .u64 (wh : Nat)) ∧ W.cell? ⟨b, 1, none⟩ = some (.int .u64 (wl : Nat)) ∧ W.cell? ⟨b, 2, none⟩ = some (.int .i64 (n : Nat))) ∧ W.cell? ⟨x3.heap.size, 2, none⟩ = some (.int .i64 (m : Nat))) X) := fun X hX =>
    ⟨HCELLS.out X ((hX.block b (block_lt HN3.out)).trans HN3.out), cell_row ((hX.block _ (block_lt HAR.out)).trans HAR.out) 2⟩
  have HR4 : Hid (∀ X, Below (x3.alloc (.cells #[.int .u64 (sh : Nat), .int .u64 (sl : Nat), .int .i64 (m : Nat), .int .i64 0, .bool false, .pointer none, .pointer none] 115)).heap.size (x3.alloc (.cells #[.int .u64 (sh : Nat), .int .u64 (sl : Nat), .int .i64 (m : Nat), .int .i64 0, .bool false, .pointer none, .pointer none] 115)) X → X.heap[x3.heap.size]? = some (.cells #[.int .u64 (sh : Nat), .int .u64 (sl : Nat), .int .i64 (m : Nat), .int .i64 0, .bool false, .pointer none, .pointer none] 115)) := fun X hX => (hX.block _ (block_lt HAR.out)).trans HAR.out
  have HKS : Hid (∀ (X : World) {v : Value}, (fun W => (W.cell? ⟨b, 0, none⟩ = some (.int .u64 (wh : Nat)) ∧ W.cell? ⟨b, 1, none⟩ = some (.int .u64 (wl : Nat)) ∧ W.cell? ⟨b, 2, none⟩ = some (.int .i64 (n : Nat))) ∧ W.cell? ⟨x3.heap.size, 2, none⟩ = some (.int .i64 (m : Nat))) X → (fun W => (W.cell? ⟨b, 0, none⟩ = some (.int .u64 (wh : Nat)) ∧ W.cell? ⟨b, 1, none⟩ = some (.int .u64 (wl : Nat)) ∧ W.cell? ⟨b, 2, none⟩ = some (.int .i64 (n : Nat))) ∧ W.cell? ⟨x3.heap.size, 2, none⟩ = some (.int .i64 (m : Nat))) (X.setCell ⟨x3.heap.size, 6, none⟩ v)) := fun X v hX => by
    have e : ∀ i, (X.setCell ⟨x3.heap.size, 6, none⟩ v).cell? ⟨b, i, none⟩ = X.cell? ⟨b, i, none⟩ := fun i => World.cell?_of_block (w := X) (set_other (by show b ≠ x3.heap.size; omega) _ _)
    have e2 : (X.setCell ⟨x3.heap.size, 6, none⟩ v).cell? ⟨x3.heap.size, 2, none⟩ = X.cell? ⟨x3.heap.size, 2, none⟩ := World.cell?_setCell_other _ _ _ _ (by intro q; have := congrArg Addr.off q; simp at this)
    show ((X.setCell ⟨x3.heap.size, 6, none⟩ v).cell? ⟨b, 0, none⟩ = some (.int .u64 (wh : Nat)) ∧ (X.setCell ⟨x3.heap.size, 6, none⟩ v).cell? ⟨b, 1, none⟩ = some (.int .u64 (wl : Nat)) ∧ (X.setCell ⟨x3.heap.size, 6, none⟩ v).cell? ⟨b, 2, none⟩ = some (.int .i64 (n : Nat))) ∧ _
    refine ⟨?_, ?_⟩
    · rw [e, e, e]; exact hX.1
    · exact e2.trans hX.2
  generalize hgx : x3.alloc (.cells #[.int .u64 (sh : Nat), .int .u64 (sl : Nat), .int .i64 (m : Nat), .int .i64 0, .bool false, .pointer none, .pointer none] 115) = y3 at *
  clear hy3 hk2 hk3 hgx
  refine wp_region_held_drew (S := fun W => (W.cell? ⟨b, 0, none⟩ = some (.int .u64 (wh : Nat)) ∧ W.cell? ⟨b, 1, none⟩ = some (.int .u64 (wl : Nat)) ∧ W.cell? ⟨b, 2, none⟩ = some (.int .i64 (n : Nat))) ∧ W.cell? ⟨x3.heap.size, 2, none⟩ = some (.int .i64 (m : Nat))) (by kernel_rfl) ?_ (fun hHeld => ?_)
  · exact HK2.out _ (Below.refl _ _).drew
  refine wpAnyH_take (i := 0) (oi := ⟨some 68, _, _, _, _, _⟩) (v := ?_) rfl (by kernel_rfl) (by kernel_rfl) (by kernel_rfl) (fun _ _ _ h => h) (Or.inl ⟨by rfl, ?_⟩) hHeld ?_
  rotate_left
  · intro w hSw
    (try dsimp only at hSw)
    go_simp
    try with_reducible rfl
  try simp only [Act.put, List.setIfInBounds_toArray, List.set_cons_zero, List.set_cons_succ]
  refine wpAnyH_take (i := 1) (oi := ⟨some 69, _, _, _, _, _⟩) (v := ?_) rfl (by kernel_rfl) (by kernel_rfl) (by kernel_rfl) (fun _ _ _ h => h) (Or.inl ⟨by rfl, ?_⟩) hHeld ?_
  rotate_left
  · intro w hSw
    (try dsimp only at hSw)
    go_simp
    try with_reducible rfl
  try simp only [Act.put, List.setIfInBounds_toArray, List.set_cons_zero, List.set_cons_succ]
  refine wpAnyH_take (i := 2) (oi := ⟨some 70, _, _, _, _, _⟩) (v := ?_) rfl (by kernel_rfl) (by kernel_rfl) (by kernel_rfl) (fun _ _ _ h => h) (Or.inl ⟨by rfl, ?_⟩) hHeld ?_
  rotate_left
  · intro w hSw
    (try dsimp only at hSw)
    go_simp
    try with_reducible rfl
  try simp only [Act.put, List.setIfInBounds_toArray, List.set_cons_zero, List.set_cons_succ]
  refine wpAnyH_take (i := 3) (oi := ⟨some 71, _, _, _, _, _⟩) (v := ?_) rfl (by kernel_rfl) (by kernel_rfl) (by kernel_rfl) (fun _ _ _ h => h) (Or.inl ⟨by rfl, ?_⟩) hHeld ?_
  rotate_left
  · intro w hSw
    (try dsimp only at hSw)
    go_simp
    try with_reducible rfl
  try simp only [Act.put, List.setIfInBounds_toArray, List.set_cons_zero, List.set_cons_succ]
  refine wpAnyH_take (i := 4) (oi := ⟨some 72, _, _, _, _, _⟩) (v := ?_) rfl (by kernel_rfl) (by kernel_rfl) (by kernel_rfl) (fun _ _ _ h => h) (Or.inl ⟨by rfl, ?_⟩) hHeld ?_
  rotate_left
  · intro w hSw
    (try dsimp only at hSw)
    go_simp
    try with_reducible rfl
  try simp only [Act.put, List.setIfInBounds_toArray, List.set_cons_zero, List.set_cons_succ]
  refine wpAnyH_take (i := 5) (oi := ⟨some 73, _, _, _, _, _⟩) (v := ?_) rfl (by kernel_rfl) (by kernel_rfl) (by kernel_rfl) (fun _ _ _ h => h) (Or.inl ⟨by rfl, ?_⟩) hHeld ?_
  rotate_left
  · intro w hSw
    (try dsimp only at hSw)
    go_simp
    try with_reducible rfl
  try simp only [Act.put, List.setIfInBounds_toArray, List.set_cons_zero, List.set_cons_succ]
  refine wpAnyH_take (i := 6) (oi := ⟨some 74, _, _, _, _, _⟩) (v := ?_) rfl (by kernel_rfl) (by kernel_rfl) (by kernel_rfl) (fun _ _ _ h => h) (Or.inl ⟨by rfl, ?_⟩) hHeld ?_
  rotate_left
  · intro w hSw
    (try dsimp only at hSw)
    go_simp
    try with_reducible rfl
  try simp only [Act.put, List.setIfInBounds_toArray, List.set_cons_zero, List.set_cons_succ]
  refine wpAnyH_take (i := 7) (oi := ⟨some 75, _, _, _, _, _⟩) (v := ?_) rfl (by kernel_rfl) (by kernel_rfl) (by kernel_rfl) (fun _ _ _ h => h) (Or.inl ⟨by rfl, ?_⟩) hHeld ?_
  rotate_left
  · intro w hSw
    (try dsimp only at hSw)
    go_simp
    try with_reducible rfl
  try simp only [Act.put, List.setIfInBounds_toArray, List.set_cons_zero, List.set_cons_succ]
  refine wpAnyH_take (i := 8) (oi := ⟨some 76, _, _, _, _, _⟩) (v := ?_) rfl (by kernel_rfl) (by kernel_rfl) (by kernel_rfl) (fun _ _ _ h => h) (Or.inl ⟨by rfl, ?_⟩) hHeld ?_
  rotate_left
  · intro w hSw
    (try dsimp only at hSw)
    go_simp
    try with_reducible rfl
  try simp only [Act.put, List.setIfInBounds_toArray, List.set_cons_zero, List.set_cons_succ]
  refine wpAnyH_take (i := 9) (oi := ⟨some 77, _, _, _, _, _⟩) (v := ?_) rfl (by kernel_rfl) (by kernel_rfl) (by kernel_rfl) (fun _ _ _ h => h) (Or.inl ⟨by rfl, ?_⟩) hHeld ?_
  rotate_left
  · intro w hSw
    (try dsimp only at hSw)
    go_simp
    try with_reducible rfl
  try simp only [Act.put, List.setIfInBounds_toArray, List.set_cons_zero, List.set_cons_succ]
  refine wpAnyH_take (i := 11) (oi := ⟨some 79, _, _, _, _, _⟩) (v := ?_) rfl (by kernel_rfl) (by kernel_rfl) (by kernel_rfl) (fun _ _ _ h => h) (Or.inl ⟨by rfl, ?_⟩) hHeld ?_
  rotate_left
  · intro w hSw
    (try dsimp only at hSw)
    go_simp
    try with_reducible rfl
  try simp only [Act.put, List.setIfInBounds_toArray, List.set_cons_zero, List.set_cons_succ]
  refine wpAnyH_take (i := 12) (oi := ⟨some 80, _, _, _, _, _⟩) (v := ?_) rfl (by kernel_rfl) (by kernel_rfl) (by kernel_rfl) (fun _ _ _ h => h) (Or.inl ⟨by rfl, ?_⟩) hHeld ?_
  rotate_left
  · intro w hSw
    (try dsimp only at hSw)
    go_simp
    try with_reducible rfl
  try simp only [Act.put, List.setIfInBounds_toArray, List.set_cons_zero, List.set_cons_succ]
  refine wpAnyH_take (i := 13) (oi := ⟨some 81, _, _, _, _, _⟩) (v := ?_) rfl (by kernel_rfl) (by kernel_rfl) (by kernel_rfl) (fun _ _ _ h => h) (Or.inl ⟨by rfl, ?_⟩) hHeld ?_
  rotate_left
  · intro w hSw
    (try dsimp only at hSw)
    go_simp
    try with_reducible rfl
  try simp only [Act.put, List.setIfInBounds_toArray, List.set_cons_zero, List.set_cons_succ]
  refine wpAnyH_ready (rs := [10]) (by kernel_rfl) (by simp) ?_
  refine AllReadyH.cons (o := ⟨some 78, _, _, _, _, _⟩) rfl (fun K hK => ?_) AllReadyH.nil
  go_simp
  go_at_call 53
  refine (HBT.out _).mono ?_
  rintro e x4 ⟨rfl, hy4⟩
  have r4 := HR4.out _ (drew_c hy4)
  have c4 := cell_row r4 6
  have f4 := frozen_row r4 6
  (try go_wp2_with fail)
  refine hK.out _ _ ?_ (fun hHeld1 => ?_)
  · exact HK2.out _ (drew_c hy4)
  clear hK K
  try simp only [Act.put, List.setIfInBounds_toArray, List.set_cons_zero, List.set_cons_succ]
  refine wpAnyH_take (i := 14) (oi := ⟨some 82, _, _, _, _, _⟩) (v := ?_) rfl (by kernel_rfl) (by kernel_rfl) (by kernel_rfl) (fun _ _ _ h => h) (Or.inl ⟨by rfl, ?_⟩) hHeld1 ?_
  rotate_left
  · intro w hSw
    (try dsimp only at hSw)
    go_simp
    try with_reducible rfl
  try simp only [Act.put, List.setIfInBounds_toArray, List.set_cons_zero, List.set_cons_succ]
  refine wpAnyH_ready (rs := [15]) (by kernel_rfl) (by simp) ?_
  refine AllReadyH.cons (o := ⟨none, _, _, _, _, _⟩) rfl (fun K hK => ?_) AllReadyH.nil
  go_simp
  refine hK.out _ _ ?_ (fun hHeld2 => ?_)
  · exact HKS.out _ (HK2.out _ (drew_c hy4))
  clear hK K
  try simp only [Act.put, List.setIfInBounds_toArray, List.set_cons_zero, List.set_cons_succ]
  refine wpAnyH_done (by kernel_rfl) ?_ _
  have hy5 : Below y3.heap.size y3 x4 := drew_c hy4
  have HB5 : Hid (x4.heap[w.heap.size]? = _) := (hy5.block _ (block_lt HB3.out)).trans HB3.out
  have HN5 : Hid (x4.heap[b]? = _) := (hy5.block _ (block_lt HN3.out)).trans HN3.out
  have HB6 : Hid ((x4.setCell ⟨x3.heap.size, 6, none⟩ (.pointer (some ⟨b, 0, none⟩))).heap[w.heap.size]? = _) := (set_other (by omega) _ _).trans HB5.out
  obtain ⟨e0, e1, e2⟩ := (row3 HB6.out).1
  have hx5 : Below w.heap.size w (x4.setCell ⟨x3.heap.size, 6, none⟩ (.pointer (some ⟨b, 0, none⟩))) := (below_chain7 hx4 hy5).setCell (Nat.le_of_lt hw3) _
  have HAI : Hid (HT.In (x4.setCell ⟨x3.heap.size, 6, none⟩ (.pointer (some ⟨b, 0, none⟩))) (.node x3.heap.size (ofW P m) m 0 false .nil (.node b W n u h l r))) := by
    have hc : HT.In (x4.setCell ⟨x3.heap.size, 6, none⟩ (.pointer (some ⟨b, 0, none⟩))) (.node b W n u h l r) := HT.in_below HIN.out hx5
    refine ⟨?_, HOK.out, trivial, hc⟩
    rw [HAROW.out, set_row r4]; rfl
  have HAD : Hid ((HT.blocks (.node x3.heap.size (ofW P m) m 0 false .nil (.node b W n u h l r))).Nodup) := by
    refine nodup_mk (by intro g; cases g) (fun g => absurd (HBX.out _ g) (by omega)) List.nodup_nil HD.out (fun x g _ => by cases g)
  have HAS : Hid (∀ x ∈ (HT.blocks (.node x3.heap.size (ofW P m) m 0 false .nil (.node b W n u h l r))), x ∈ (HT.node b W n u h l r).blocks ∨ w.heap.size ≤ x) := fun x hx => by
    rcases List.mem_cons.1 hx with g | g
    · exact .inr (by rw [g]; omega)
    · rcases List.mem_append.1 g with g | g
      · cases g
      · exact .inl g
  clear hy4 r4 c4 f4
  go_wp2_with fail
  refine (HA.out _ _ HAI.out HAD.out).mono ?_
  rintro e x7 ⟨T', rfl, hw, ht⟩
  go_wp2
  go_ret
  exact ⟨T', rfl, wrote_above hw hx5 HAS.out, ht⟩

theorem with_any (P k : Nat) (v : Int) (hP : P < 2 ^ 128) (hk : k ≤ 128) (hr : rt P k) : ∀ (T : HT) (w : World), T.In w → T.blocks.Nodup →
    Calls Tryz.prog 85 #[T.ptr, pfW P (k : Nat), .int .i64 v] w (RetT w T (T.pt.put P k v))
  | .nil, w, _, _ => with_nil P k v w hP hk hr
  | .node b W n u h l r, w, hin, hd => by
    obtain ⟨d1, d2, d3, d4, d5⟩ := nodup_node hd
    show Calls Tryz.prog 85 #[(HT.node b W n u h l r).ptr, pfW P (k : Nat), .int .i64 v] w (RetT w _ ((PT.node W n u h l.pt r.pt).put P k v))
    unfold PT.put
    by_cases e : W = P ∧ n = k
    · rw [if_pos e]
      obtain ⟨rfl, rfl⟩ := e
      exact with_own b W n u v h l r w hin hd
    rw [if_neg e]
    by_cases c : coversB W n P k = true
    · rw [if_pos c]
      rcases bitZ_two P n with b0 | b0
      · rw [if_pos b0]
        exact with_left b W n P k u v h l r _ w hin hd hP e c b0 (fun X hX => with_any P k v hP hk hr l X (HT.in_below hin.2.2.1 hX) d3)
      · rw [if_neg (by omega)]
        exact with_right b W n P k u v h l r _ w hin hd hP e c b0 (fun X hX => with_any P k v hP hk hr r X (HT.in_below hin.2.2.2 hX) d4)
    · rw [if_neg c]
      have c' : coversB W n P k = false := by simpa using c
      have hW := hin.2.1
      have hq : qt W 0 = qt P 0 := by rw [qt_lt hW.1, qt_lt hP]
      obtain ⟨p1, p2, p3, p4⟩ := part_is hq hW.2.1 hW.2.2 hk hr c
      obtain ⟨m, hm⟩ : ∃ m, common W n P k = m := ⟨_, rfl⟩
      rw [hm] at p1 p2 p3 p4 ⊢
      have hm8 : m < 128 := by omega
      have hbW := bitZ_nat W m hm8
      have hbP := bitZ_nat P m hm8
      have b2 := bitW_two W m
      have b3 := bitW_two P m
      by_cases e2 : m = k
      · rw [if_pos e2]
        have hS : ofW P m = P := by rw [e2]; exact right_of ⟨hk, hr⟩
        rcases bitZ_two W k with b0 | b0
        · rw [if_pos b0]
          refine with_part0 b W n P k m u v h l r _ w hin hd hP hk e c' hm (by omega) (by rw [e2]; exact b0) (fun ga X h1 h2 => ?_)
          rw [hS, e2] at h1 h2 ⊢
          exact with_own ga P k 0 v false _ _ X h1 h2
        · rw [if_neg (by omega)]
          refine with_part1 b W n P k m u v h l r _ w hin hd hP hk e c' hm (by omega) (by rw [e2]; exact b0) (fun ga X h1 h2 => ?_)
          rw [hS, e2] at h1 h2 ⊢
          exact with_own ga P k 0 v false _ _ X h1 h2
      · rw [if_neg e2]
        have hne := p4 (by omega)
        have hcS : coversB (ofW P m) m P k = true := coversB_nat.2 ⟨⟨by omega, rt_of _ _⟩, ⟨hk, hr⟩, by omega, qt_of _ _⟩
        rcases bitZ_two W m with b0 | b0
        · rw [if_pos b0]
          refine with_part0 b W n P k m u v h l r _ w hin hd hP hk e c' hm (by omega) b0 (fun ga X h1 h2 => ?_)
          exact with_right ga (ofW P m) m P k 0 v false _ .nil (PT.leaf P k v) X h1 h2 hP (fun q => e2 q.2) hcS (by omega) (fun Y _ => with_nil P k v Y hP hk hr)
        · rw [if_neg (by omega)]
          refine with_part1 b W n P k m u v h l r _ w hin hd hP hk e c' hm (by omega) b0 (fun ga X h1 h2 => ?_)
          exact with_left ga (ofW P m) m P k 0 v false .nil _ (PT.leaf P k v) X h1 h2 hP (fun q => e2 q.2) hcS (by omega) (fun Y _ => with_nil P k v Y hP hk hr)
end Go.Proofs.YtoobiaifogackaaGreatDoor
