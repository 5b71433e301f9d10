/-
  Layer 8: New, Len, Put: what they come to.
-/
import Derived.Test.YtoobiaifogackaaGreatDoorTriK
namespace Go.Proofs.YtoobiaifogackaaGreatDoor
open Go.RowKit


/-- a trie that was written into -/
structure Moved (w w' : World) (g : Nat) (T T' : HT) : Prop where
  trie : IsTrie w' g T'
  only : Only (g :: T.blocks) w w'
  sub : ∀ b ∈ T'.blocks, b ∈ T.blocks ∨ w.heap.size ≤ b
theorem IsTrie.keep {w w' : World} {g : Nat} {T : HT} (h : IsTrie w g T) (hb : Below w.heap.size w w') : IsTrie w' g T :=
  ⟨(hb.block g (block_lt h.own)).trans h.own, HT.in_below h.lies hb, h.once, h.inv⟩
theorem IsTrie.keepO {w w' : World} {g : Nat} {T : HT} {F : List Nat} (h : IsTrie w g T) (hb : Only F w w') (hn : ∀ b ∈ g :: T.blocks, b ∉ F) : IsTrie w' g T :=
  ⟨(hb.block g (block_lt h.own) (hn g (List.mem_cons_self ..))).trans h.own, HT.in_only h.lies hb (fun b q => hn b (List.mem_cons_of_mem _ q)), h.once, h.inv⟩
theorem IsTrie.lt {w : World} {g : Nat} {T : HT} (h : IsTrie w g T) : ∀ b ∈ g :: T.blocks, b < w.heap.size := fun b hb => by
  rcases List.mem_cons.1 hb with q | q
  · rw [q]; exact block_lt h.own
  · exact HT.in_lt h.lies b q
theorem Moved.refl {w w' : World} {g : Nat} {T : HT} (h : IsTrie w g T) (hb : Below w.heap.size w w') : Moved w w' g T T := ⟨h.keep hb, Only.of_below hb, fun _ hx => .inl hx⟩
theorem row2_set0 {w : World} {b : Nat} {x y x' : Value} {t : TypeId} (h : w.heap[b]? = some (.cells #[x, y] t)) : (w.setCell ⟨b, 0, none⟩ x').heap[b]? = some (.cells #[x', y] t) := set_row h 0 x'
theorem row2_set1 {w : World} {b : Nat} {x y y' : Value} {t : TypeId} (h : w.heap[b]? = some (.cells #[x, y] t)) : (w.setCell ⟨b, 1, none⟩ y').heap[b]? = some (.cells #[x, y'] t) := set_row h 1 y'

set_option maxHeartbeats 1000000 in
theorem new_any (w : World) : Calls Tryz.prog 16 #[] w fun e w' => e = .returned (.pointer (some ⟨w.heap.size, 0, none⟩)) ∧ Below w.heap.size w w' ∧ IsTrie w' w.heap.size .nil := by
  go_enter Tryz.func16, Tryz.ntmps16
  go_wp2
  go_ret
  exact ⟨rfl, (Below.refl _ _).alloc (Nat.le_refl _) _, ⟨Go.Deep.blk_alloc_new _ _, trivial, by simp [HT.blocks], trivial⟩⟩
set_option maxHeartbeats 1000000 in
theorem len_any (g : Nat) (T : HT) (w : World) (ht : IsTrie w g T) : Calls Tryz.prog 20 #[.pointer (some ⟨g, 0, none⟩)] w fun e w' => e = .returned (.int .i64 (T.pt.list.length : Nat)) ∧ w = w' := by
  have c1 := cell_row ht.own 1
  simp at c1
  clear ht
  go_enter Tryz.func20, Tryz.ntmps20
  go_wp2
  go_ret
  exact ⟨rfl, rfl⟩
set_option maxHeartbeats 1000000 in
theorem len_nil (w : World) : Calls Tryz.prog 20 #[.pointer none] w fun e w' => e = .returned (.int .i64 0) ∧ w = w' := by
  go_enter Tryz.func20, Tryz.ntmps20
  go_wp2
  go_ret
  exact ⟨rfl, rfl⟩
set_option maxHeartbeats 1000000 in
theorem get_nil (v : Array Value) (w : World) : Calls Tryz.prog 84 #[.pointer none, .agg v] w (RetG w none) := by
  go_enter Tryz.func84, Tryz.ntmps84
  go_wp2
  go_ret2
  exact ⟨rfl, (Below.refl _ _).alloc (Nat.le_refl _) _⟩
set_option maxHeartbeats 1000000 in
theorem put_nil (v : Array Value) (x : Int) (w : World) : Calls Tryz.prog 51 #[.pointer none, .agg v, .int .i64 x] w fun e w' => e = .returned (.bool false) ∧ Below w.heap.size w w' := by
  go_enter Tryz.func51, Tryz.ntmps51
  go_wp2
  go_ret
  exact ⟨rfl, (Below.refl _ _).alloc (Nat.le_refl _) _⟩
set_option maxRecDepth 100000 in
set_option maxHeartbeats 1000000 in
theorem put_wrong (g : Nat) (hi lo : Nat) (k v : Int) (w : World) (h1 : hi < 18446744073709551616) (h2 : lo < 18446744073709551616) (hr : pRightB (wideN hi lo) k = false) :
    Calls Tryz.prog 51 #[.pointer (some ⟨g, 0, none⟩), .agg #[.int .u64 (hi : Nat), .int .u64 (lo : Nat), .int .i64 k], .int .i64 v] w fun e w' => e = .returned (.bool false) ∧ Below w.heap.size w w' := by
  have HR : Hid (∀ X, Calls Tryz.prog 25 #[.agg #[.int .u64 (hi : Nat), .int .u64 (lo : Nat), .int .i64 k]] X fun e w' => e = .returned (.bool false) ∧ Below X.heap.size X w') := fun X => by
    have := pRight_any hi lo k X h1 h2; rwa [hr] at this
  clear hr
  go_enter Tryz.func51, Tryz.ntmps51
  go_wp2_with fail
  refine (HR.out _).mono ?_
  rintro e x1 ⟨rfl, hb1⟩
  go_wp2
  go_ret
  exact ⟨rfl, alloc_then hb1⟩
/-- the tree that was written into, and its trie's own block -/
theorem put_moved {w X x4 : World} {g c : Nat} {T T' : HT} (ht : IsTrie w g T) (hx : Only [g] w X) (hown : X.heap[g]? = some (.cells #[T.ptr, .int .i64 (c : Nat)] 109)) (hw : Wrote X x4 T T') (hc : c = T'.pt.list.length) (hi : T'.pt.Inv 0 0) :
    Moved w (x4.setCell ⟨g, 0, none⟩ T'.ptr) g T T' ∧ x4.heap[g]? = some (.cells #[T.ptr, .int .i64 (c : Nat)] 109) := by
  have hg := (List.nodup_cons.1 ht.once).1
  have hgl := block_lt hown
  have hb : x4.heap[g]? = some (.cells #[T.ptr, .int .i64 (c : Nat)] 109) := (hw.only.block g hgl hg).trans hown
  have hT' : ∀ b ∈ T'.blocks, b ≠ g := fun b q e => by
    subst e
    rcases hw.sub _ q with s | s
    · exact hg s
    · omega
  refine ⟨⟨⟨?_, HT.in_same hw.lies (fun b q => set_other (hT' b q) _ _), List.nodup_cons.2 ⟨fun q => hT' g q rfl, hw.once⟩, hi⟩, ?_, fun b q => (hw.sub b q).imp id (fun s => Nat.le_trans hx.size s)⟩, hb⟩
  · rw [row2_set0 hb, hc]
  · refine ((hx.mono (G := g :: T.blocks) (fun x q => by rw [List.mem_singleton.1 q]; exact List.mem_cons_self ..)).trans hw.only (fun x q => .inl (List.mem_cons_of_mem _ q))).setCell (p := ⟨g, 0, none⟩) (.inl (List.mem_cons_self ..)) _

set_option maxRecDepth 100000 in
set_option maxHeartbeats 8000000 in
theorem put_elder (g : Nat) (T : HT) (hi lo k : Nat) (v : Int) (w : World) (ht : IsTrie w g T) (h1 : hi < 18446744073709551616) (h2 : lo < 18446744073709551616) (hk : k ≤ 128) (hr : rt (wideN hi lo) k) (_ : T.pt.list.length < 1000000)
    (hel : (T.pt.get (wideN hi lo) k).isSome = true) :
    Calls Tryz.prog 51 #[.pointer (some ⟨g, 0, none⟩), .agg #[.int .u64 (hi : Nat), .int .u64 (lo : Nat), .int .i64 (k : Nat)], .int .i64 v] w fun e w' => ∃ T', e = .returned (.bool true) ∧ Moved w w' g T T' ∧ T'.pt = T.pt.put (wideN hi lo) k v := by
  have hPl := wide_lt h1 h2
  have HRT : Hid (∀ X, Calls Tryz.prog 25 #[.agg #[.int .u64 (hi : Nat), .int .u64 (lo : Nat), .int .i64 (k : Nat)]] X fun e w' => e = .returned (.bool true) ∧ Below X.heap.size X w') := fun X => by
    have := pRight_any hi lo k X h1 h2; rwa [pRightB_nat.2 ⟨hk, hr⟩] at this
  obtain ⟨xv, hxv⟩ : ∃ y, (T.pt.get (wideN hi lo) k).getD 0 = y := ⟨_, rfl⟩
  have HGT : Hid (∀ X, Below w.heap.size w X → Calls Tryz.prog 84 #[.pointer (some ⟨g, 0, none⟩), .agg #[.int .u64 (hi : Nat), .int .u64 (lo : Nat), .int .i64 (k : Nat)]] X fun e w' => e = .returned (.tuple #[.int .i64 xv, .bool true]) ∧ Below X.heap.size X w') := fun X hX => by
    have := get_any g T hi lo k X (ht.keep hX) h1 h2
    unfold RetG at this
    rw [hxv, hel] at this
    exact this
  have hcnt : ((T.pt.put (wideN hi lo) k v).list.length) = T.pt.list.length := by
    rw [PT.put_list ht.inv hk hr hPl, putL_len (PT.sorted ht.inv), ← PT.get_list ht.inv, hel]; rfl
  have hinv : (T.pt.put (wideN hi lo) k v).Inv 0 0 := PT.put_inv ht.inv hk hr (qt_lt hPl) (Nat.zero_le _)
  have HCNT := Lib.hid hcnt
  have HINV := Lib.hid hinv
  have HTR := Lib.hid ht
  have hgl := block_lt ht.own
  obtain ⟨uT, huT⟩ := HT.ptr_form T
  have HUT := Lib.hid huT
  obtain ⟨q0, q1⟩ : w.cell? ⟨g, 0, none⟩ = some T.ptr ∧ w.cell? ⟨g, 1, none⟩ = some (.int .i64 (T.pt.list.length : Nat)) := ⟨cell_row ht.own 0, cell_row ht.own 1⟩
  have HWITH : Hid (∀ X, T.In X → Calls Tryz.prog 85 #[T.ptr, .agg #[.int .u64 (hi : Nat), .int .u64 (lo : Nat), .int .i64 (k : Nat)], .int .i64 v] X (RetT X T (T.pt.put (wideN hi lo) k v))) := fun X hX => by
    have := with_any (wideN hi lo) k v hPl hk hr T X hX (List.nodup_cons.1 ht.once).2
    rwa [pfW_wide h2] at this
  have HBX := Lib.hid (HT.in_lt ht.lies)
  rw [huT] at q0
  clear ht hel hxv hcnt hinv huT hr hPl
  go_enter Tryz.func51, Tryz.ntmps51
  go_wp2_with fail
  refine (HRT.out _).mono ?_
  rintro e x1 ⟨rfl, hb1⟩
  have hx1 := alloc_then hb1
  have HB1 : Hid (x1.heap[w.heap.size]? = some (.cells #[.int .u64 (hi : Nat), .int .u64 (lo : Nat), .int .i64 (k : Nat)] 37)) := (hb1.block _ (by simp)).trans (Go.Deep.blk_alloc_new _ _)
  obtain ⟨p0, p1, p2⟩ := (row3 HB1.out).1
  clear hb1
  go_wp2_with fail
  refine (HGT.out _ hx1).mono ?_
  rintro e x2 ⟨rfl, hb2⟩
  have hx2 := below_chain7 hx1 hb2
  have HB2 : Hid (x2.heap[w.heap.size]? = _) := (hb2.block _ (block_lt HB1.out)).trans HB1.out
  clear p0 p1 p2 q0 q1 hb2
  obtain ⟨p0, p1, p2⟩ := (row3 HB2.out).1
  have HO2 : Hid (x2.heap[g]? = _) := (hx2.block g hgl).trans HTR.out.own
  have q0 : x2.cell? ⟨g, 0, none⟩ = some (.pointer uT) := by have := cell_row HO2.out 0; rw [HUT.out] at this; exact this
  have q1 : x2.cell? ⟨g, 1, none⟩ = some (.int .i64 (T.pt.list.length : Nat)) := cell_row HO2.out 1
  have f1 := frozen_row HO2.out 1
  have hg2 := block_lt HO2.out
  have hne : g ≠ w.heap.size := by omega
  go_wp2
  have hxo : Only [g] w x2 := Only.of_below hx2
  have HOX := HO2
  have HBX2 := HB2
  generalize x2 = X at *
  have HIX : Hid (T.In X) := HT.in_only HTR.out.lies hxo (fun b hb q => (List.nodup_cons.1 HTR.out.once).1 (by rw [← List.mem_singleton.1 q]; exact hb))
  have HMV : Hid (∀ Y T', Wrote X.drew Y T T' → T'.pt = T.pt.put (wideN hi lo) k v → Moved w (Y.setCell ⟨g, 0, none⟩ T'.ptr) g T T' ∧ Y.heap[g]? = _) := fun Y T' hw hpt =>
    put_moved HTR.out hxo HOX.out (hw.before (Below.refl _ _).drew HIX.out) (by rw [hpt, HCNT.out]) (by rw [hpt]; exact HINV.out)
  have HK9 : Hid (∀ Y T', Wrote X.drew Y T T' → (fun W => (W.cell? ⟨w.heap.size, 0, none⟩ = some (.int .u64 (hi : Nat)) ∧ W.cell? ⟨w.heap.size, 1, none⟩ = some (.int .u64 (lo : Nat)) ∧ W.cell? ⟨w.heap.size, 2, none⟩ = some (.int .i64 (k : Nat)))) Y) := fun Y T' hw =>
    (row3 ((hw.only.block w.heap.size (block_lt HBX2.out) (fun q => Nat.lt_irrefl _ (HBX.out _ q))).trans HBX2.out)).1
  have HKS : Hid (∀ (Y : World) {v : Value}, (fun W => (W.cell? ⟨w.heap.size, 0, none⟩ = some (.int .u64 (hi : Nat)) ∧ W.cell? ⟨w.heap.size, 1, none⟩ = some (.int .u64 (lo : Nat)) ∧ W.cell? ⟨w.heap.size, 2, none⟩ = some (.int .i64 (k : Nat)))) Y → (fun W => (W.cell? ⟨w.heap.size, 0, none⟩ = some (.int .u64 (hi : Nat)) ∧ W.cell? ⟨w.heap.size, 1, none⟩ = some (.int .u64 (lo : Nat)) ∧ W.cell? ⟨w.heap.size, 2, none⟩ = some (.int .i64 (k : Nat)))) (Y.setCell ⟨g, 0, none⟩ v)) := fun Y v hY => by
    have e : ∀ i, (Y.setCell ⟨g, 0, none⟩ v).cell? ⟨w.heap.size, i, none⟩ = Y.cell? ⟨w.heap.size, i, none⟩ := fun i => World.cell?_of_block (w := Y) (set_other (fun e => hne e.symm) _ _)
    show ((Y.setCell ⟨g, 0, none⟩ v).cell? ⟨w.heap.size, 0, none⟩ = some (.int .u64 (hi : Nat)) ∧ (Y.setCell ⟨g, 0, none⟩ v).cell? ⟨w.heap.size, 1, none⟩ = some (.int .u64 (lo : Nat)) ∧ (Y.setCell ⟨g, 0, none⟩ v).cell? ⟨w.heap.size, 2, none⟩ = some (.int .i64 (k : Nat)))
    rw [e, e, e]; exact hY
  have HKD : Hid ((fun W => (W.cell? ⟨w.heap.size, 0, none⟩ = some (.int .u64 (hi : Nat)) ∧ W.cell? ⟨w.heap.size, 1, none⟩ = some (.int .u64 (lo : Nat)) ∧ W.cell? ⟨w.heap.size, 2, none⟩ = some (.int .i64 (k : Nat)))) X.drew) := (row3 HBX2.out).1
  have HWI : Hid (Calls Tryz.prog 85 #[.pointer uT, .agg #[.int .u64 (hi : Nat), .int .u64 (lo : Nat), .int .i64 (k : Nat)], .int .i64 v] X.drew (RetT X.drew T (T.pt.put (wideN hi lo) k v))) := by
    have := HWITH.out X.drew (HT.in_below HIX.out (Below.refl _ _).drew); rwa [HUT.out] at this
  clear p0 p1 p2 q0 q1 f1
  have q0 : X.cell? ⟨g, 0, none⟩ = some (.pointer uT) := by have := cell_row HOX.out 0; rw [HUT.out] at this; exact this
  refine wp_region_held_drew (S := fun W => (W.cell? ⟨w.heap.size, 0, none⟩ = some (.int .u64 (hi : Nat)) ∧ W.cell? ⟨w.heap.size, 1, none⟩ = some (.int .u64 (lo : Nat)) ∧ W.cell? ⟨w.heap.size, 2, none⟩ = some (.int .i64 (k : Nat)))) (by kernel_rfl) ?_ (fun hHeld => ?_)
  · exact HKD.out
  refine wpAnyH_take (i := 0) (oi := ⟨some 31, _, _, _, _, _⟩) (v := ?_) rfl (by kernel_rfl) (by kernel_rfl) (by kernel_rfl) (fun _ _ _ h => h) (Or.inl ⟨by rfl, ?_⟩) hHeld ?_
  rotate_left
  · intro w hSw
    (try dsimp only at hSw)
    go_simp
    try with_reducible rfl
  try simp only [Act.put, List.setIfInBounds_toArray, List.set_cons_zero, List.set_cons_succ]
  refine wpAnyH_take (i := 1) (oi := ⟨some 32, _, _, _, _, _⟩) (v := ?_) rfl (by kernel_rfl) (by kernel_rfl) (by kernel_rfl) (fun _ _ _ h => h) (Or.inl ⟨by rfl, ?_⟩) hHeld ?_
  rotate_left
  · intro w hSw
    (try dsimp only at hSw)
    go_simp
    try with_reducible rfl
  try simp only [Act.put, List.setIfInBounds_toArray, List.set_cons_zero, List.set_cons_succ]
  refine wpAnyH_take (i := 2) (oi := ⟨some 33, _, _, _, _, _⟩) (v := ?_) rfl (by kernel_rfl) (by kernel_rfl) (by kernel_rfl) (fun _ _ _ h => h) (Or.inl ⟨by rfl, ?_⟩) hHeld ?_
  rotate_left
  · intro w hSw
    (try dsimp only at hSw)
    go_simp
    try with_reducible rfl
  try simp only [Act.put, List.setIfInBounds_toArray, List.set_cons_zero, List.set_cons_succ]
  refine wpAnyH_take (i := 3) (oi := ⟨some 34, _, _, _, _, _⟩) (v := ?_) rfl (by kernel_rfl) (by kernel_rfl) (by kernel_rfl) (fun _ _ _ h => h) (Or.inl ⟨by rfl, ?_⟩) hHeld ?_
  rotate_left
  · intro w hSw
    (try dsimp only at hSw)
    go_simp
    try with_reducible rfl
  try simp only [Act.put, List.setIfInBounds_toArray, List.set_cons_zero, List.set_cons_succ]
  refine wpAnyH_take (i := 5) (oi := ⟨some 36, _, _, _, _, _⟩) (v := ?_) rfl (by kernel_rfl) (by kernel_rfl) (by kernel_rfl) (fun _ _ _ h => h) (Or.inl ⟨by rfl, ?_⟩) hHeld ?_
  rotate_left
  · intro w hSw
    (try dsimp only at hSw)
    go_simp
    try with_reducible rfl
  try simp only [Act.put, List.setIfInBounds_toArray, List.set_cons_zero, List.set_cons_succ]
  refine wpAnyH_take (i := 6) (oi := ⟨some 37, _, _, _, _, _⟩) (v := ?_) rfl (by kernel_rfl) (by kernel_rfl) (by kernel_rfl) (fun _ _ _ h => h) (Or.inl ⟨by rfl, ?_⟩) hHeld ?_
  rotate_left
  · intro w hSw
    (try dsimp only at hSw)
    go_simp
    try with_reducible rfl
  try simp only [Act.put, List.setIfInBounds_toArray, List.set_cons_zero, List.set_cons_succ]
  refine wpAnyH_ready (rs := [4]) (by kernel_rfl) (by simp) ?_
  refine AllReadyH.cons (o := ⟨some 35, _, _, _, _, _⟩) rfl (fun K hK => ?_) AllReadyH.nil
  go_simp
  refine hK.out _ _ ?_ (fun hHeld1 => ?_)
  · exact HKD.out
  clear hK K
  try simp only [Act.put, List.setIfInBounds_toArray, List.set_cons_zero, List.set_cons_succ]
  refine wpAnyH_ready (rs := [7]) (by kernel_rfl) (by simp) ?_
  refine AllReadyH.cons (o := ⟨some 38, _, _, _, _, _⟩) rfl (fun K hK => ?_) AllReadyH.nil
  go_simp
  go_at_call 85
  refine (HWI.out).mono ?_
  rintro e x4 ⟨T', rfl, hw, hpt⟩
  obtain ⟨hmv, hrow⟩ := HMV.out _ _ hw hpt
  have q5 := cell_row hrow 0
  have g5 := frozen_row hrow 0
  obtain ⟨ut, hut⟩ := HT.ptr_form T'
  rw [hut] at hmv ⊢
  simp at q5
  (try go_wp2_with fail)
  refine hK.out _ _ ?_ (fun hHeld2 => ?_)
  · exact HK9.out _ _ hw
  clear hK K
  try simp only [Act.put, List.setIfInBounds_toArray, List.set_cons_zero, List.set_cons_succ]
  refine wpAnyH_take (i := 8) (oi := ⟨some 39, _, _, _, _, _⟩) (v := ?_) rfl (by kernel_rfl) (by kernel_rfl) (by kernel_rfl) (fun _ _ _ h => h) (Or.inl ⟨by rfl, ?_⟩) hHeld2 ?_
  rotate_left
  · intro w hSw
    (try dsimp only at hSw)
    go_simp
    try with_reducible rfl
  try simp only [Act.put, List.setIfInBounds_toArray, List.set_cons_zero, List.set_cons_succ]
  refine wpAnyH_take (i := 9) (oi := ⟨some 40, _, _, _, _, _⟩) (v := ?_) rfl (by kernel_rfl) (by kernel_rfl) (by kernel_rfl) (fun _ _ _ h => h) (Or.inl ⟨by rfl, ?_⟩) hHeld2 ?_
  rotate_left
  · intro w hSw
    (try dsimp only at hSw)
    go_simp
    try with_reducible rfl
  try simp only [Act.put, List.setIfInBounds_toArray, List.set_cons_zero, List.set_cons_succ]
  refine wpAnyH_ready (rs := [10]) (by kernel_rfl) (by simp) ?_
  refine AllReadyH.cons (o := ⟨none, _, _, _, _, _⟩) rfl (fun K hK => ?_) AllReadyH.nil
  go_simp
  refine hK.out _ _ ?_ (fun hHeld3 => ?_)
  · exact HKS.out _ (HK9.out _ _ hw)
  clear hK K
  try simp only [Act.put, List.setIfInBounds_toArray, List.set_cons_zero, List.set_cons_succ]
  refine wpAnyH_done (by kernel_rfl) ?_ _
  go_wp2
  go_ret
  exact ⟨T', rfl, hmv, hpt⟩

set_option maxRecDepth 100000 in
set_option maxHeartbeats 8000000 in
theorem put_fresh (g : Nat) (T : HT) (hi lo k : Nat) (v : Int) (w : World) (ht : IsTrie w g T) (h1 : hi < 18446744073709551616) (h2 : lo < 18446744073709551616) (hk : k ≤ 128) (hr : rt (wideN hi lo) k) (hlen : T.pt.list.length < 1000000)
    (hel : (T.pt.get (wideN hi lo) k).isSome = false) :
    Calls Tryz.prog 51 #[.pointer (some ⟨g, 0, none⟩), .agg #[.int .u64 (hi : Nat), .int .u64 (lo : Nat), .int .i64 (k : Nat)], .int .i64 v] w fun e w' => ∃ T', e = .returned (.bool true) ∧ Moved w w' g T T' ∧ T'.pt = T.pt.put (wideN hi lo) k v := by
  have hPl := wide_lt h1 h2
  have HRT : Hid (∀ X, Calls Tryz.prog 25 #[.agg #[.int .u64 (hi : Nat), .int .u64 (lo : Nat), .int .i64 (k : Nat)]] X fun e w' => e = .returned (.bool true) ∧ Below X.heap.size X w') := fun X => by
    have := pRight_any hi lo k X h1 h2; rwa [pRightB_nat.2 ⟨hk, hr⟩] at this
  obtain ⟨xv, hxv⟩ : ∃ y, (T.pt.get (wideN hi lo) k).getD 0 = y := ⟨_, rfl⟩
  have HGT : Hid (∀ X, Below w.heap.size w X → Calls Tryz.prog 84 #[.pointer (some ⟨g, 0, none⟩), .agg #[.int .u64 (hi : Nat), .int .u64 (lo : Nat), .int .i64 (k : Nat)]] X fun e w' => e = .returned (.tuple #[.int .i64 xv, .bool false]) ∧ Below X.heap.size X w') := fun X hX => by
    have := get_any g T hi lo k X (ht.keep hX) h1 h2
    unfold RetG at this
    rw [hxv, hel] at this
    exact this
  have hcnt : ((T.pt.put (wideN hi lo) k v).list.length) = (T.pt.list.length + 1) := by
    rw [PT.put_list ht.inv hk hr hPl, putL_len (PT.sorted ht.inv), ← PT.get_list ht.inv, hel]; rfl
  have hinv : (T.pt.put (wideN hi lo) k v).Inv 0 0 := PT.put_inv ht.inv hk hr (qt_lt hPl) (Nat.zero_le _)
  have HCNT := Lib.hid hcnt
  have HINV := Lib.hid hinv
  have HTR := Lib.hid ht
  have hgl := block_lt ht.own
  obtain ⟨uT, huT⟩ := HT.ptr_form T
  have HUT := Lib.hid huT
  obtain ⟨q0, q1⟩ : w.cell? ⟨g, 0, none⟩ = some T.ptr ∧ w.cell? ⟨g, 1, none⟩ = some (.int .i64 (T.pt.list.length : Nat)) := ⟨cell_row ht.own 0, cell_row ht.own 1⟩
  have HWITH : Hid (∀ X, T.In X → Calls Tryz.prog 85 #[T.ptr, .agg #[.int .u64 (hi : Nat), .int .u64 (lo : Nat), .int .i64 (k : Nat)], .int .i64 v] X (RetT X T (T.pt.put (wideN hi lo) k v))) := fun X hX => by
    have := with_any (wideN hi lo) k v hPl hk hr T X hX (List.nodup_cons.1 ht.once).2
    rwa [pfW_wide h2] at this
  have HBX := Lib.hid (HT.in_lt ht.lies)
  rw [huT] at q0
  clear ht hel hxv hcnt hinv huT hr hPl
  go_enter Tryz.func51, Tryz.ntmps51
  go_wp2_with fail
  refine (HRT.out _).mono ?_
  rintro e x1 ⟨rfl, hb1⟩
  have hx1 := alloc_then hb1
  have HB1 : Hid (x1.heap[w.heap.size]? = some (.cells #[.int .u64 (hi : Nat), .int .u64 (lo : Nat), .int .i64 (k : Nat)] 37)) := (hb1.block _ (by simp)).trans (Go.Deep.blk_alloc_new _ _)
  obtain ⟨p0, p1, p2⟩ := (row3 HB1.out).1
  clear hb1
  go_wp2_with fail
  refine (HGT.out _ hx1).mono ?_
  rintro e x2 ⟨rfl, hb2⟩
  have hx2 := below_chain7 hx1 hb2
  have HB2 : Hid (x2.heap[w.heap.size]? = _) := (hb2.block _ (block_lt HB1.out)).trans HB1.out
  clear p0 p1 p2 q0 q1 hb2
  obtain ⟨p0, p1, p2⟩ := (row3 HB2.out).1
  have HO2 : Hid (x2.heap[g]? = _) := (hx2.block g hgl).trans HTR.out.own
  have q0 : x2.cell? ⟨g, 0, none⟩ = some (.pointer uT) := by have := cell_row HO2.out 0; rw [HUT.out] at this; exact this
  have q1 : x2.cell? ⟨g, 1, none⟩ = some (.int .i64 (T.pt.list.length : Nat)) := cell_row HO2.out 1
  have f1 := frozen_row HO2.out 1
  have hg2 := block_lt HO2.out
  have hne : g ≠ w.heap.size := by omega
  go_wp2
  have hxo : Only [g] w (x2.setCell ⟨g, 1, none⟩ (.int .i64 ((T.pt.list.length : Int) + 1))) := (Only.of_below hx2).setCell (p := ⟨g, 1, none⟩) (.inl (List.mem_singleton.2 rfl)) _
  have HOX : Hid ((x2.setCell ⟨g, 1, none⟩ (.int .i64 ((T.pt.list.length : Int) + 1))).heap[g]? = some (.cells #[T.ptr, .int .i64 (((T.pt.list.length + 1) : Nat) : Int)] 109)) := by
    show _ = _
    rw [row2_set1 HO2.out]; simp
  have HBX2 : Hid ((x2.setCell ⟨g, 1, none⟩ (.int .i64 ((T.pt.list.length : Int) + 1))).heap[w.heap.size]? = _) := (set_other (fun e => hne e.symm) _ _).trans HB2.out
  generalize (x2.setCell ⟨g, 1, none⟩ (.int .i64 ((T.pt.list.length : Int) + 1))) = X at *
  have HIX : Hid (T.In X) := HT.in_only HTR.out.lies hxo (fun b hb q => (List.nodup_cons.1 HTR.out.once).1 (by rw [← List.mem_singleton.1 q]; exact hb))
  have HMV : Hid (∀ Y T', Wrote X.drew Y T T' → T'.pt = T.pt.put (wideN hi lo) k v → Moved w (Y.setCell ⟨g, 0, none⟩ T'.ptr) g T T' ∧ Y.heap[g]? = _) := fun Y T' hw hpt =>
    put_moved HTR.out hxo HOX.out (hw.before (Below.refl _ _).drew HIX.out) (by rw [hpt, HCNT.out]) (by rw [hpt]; exact HINV.out)
  have HK9 : Hid (∀ Y T', Wrote X.drew Y T T' → (fun W => (W.cell? ⟨w.heap.size, 0, none⟩ = some (.int .u64 (hi : Nat)) ∧ W.cell? ⟨w.heap.size, 1, none⟩ = some (.int .u64 (lo : Nat)) ∧ W.cell? ⟨w.heap.size, 2, none⟩ = some (.int .i64 (k : Nat)))) Y) := fun Y T' hw =>
    (row3 ((hw.only.block w.heap.size (block_lt HBX2.out) (fun q => Nat.lt_irrefl _ (HBX.out _ q))).trans HBX2.out)).1
  have HKS : Hid (∀ (Y : World) {v : Value}, (fun W => (W.cell? ⟨w.heap.size, 0, none⟩ = some (.int .u64 (hi : Nat)) ∧ W.cell? ⟨w.heap.size, 1, none⟩ = some (.int .u64 (lo : Nat)) ∧ W.cell? ⟨w.heap.size, 2, none⟩ = some (.int .i64 (k : Nat)))) Y → (fun W => (W.cell? ⟨w.heap.size, 0, none⟩ = some (.int .u64 (hi : Nat)) ∧ W.cell? ⟨w.heap.size, 1, none⟩ = some (.int .u64 (lo : Nat)) ∧ W.cell? ⟨w.heap.size, 2, none⟩ = some (.int .i64 (k : Nat)))) (Y.setCell ⟨g, 0, none⟩ v)) := fun Y v hY => by
    have e : ∀ i, (Y.setCell ⟨g, 0, none⟩ v).cell? ⟨w.heap.size, i, none⟩ = Y.cell? ⟨w.heap.size, i, none⟩ := fun i => World.cell?_of_block (w := Y) (set_other (fun e => hne e.symm) _ _)
    show ((Y.setCell ⟨g, 0, none⟩ v).cell? ⟨w.heap.size, 0, none⟩ = some (.int .u64 (hi : Nat)) ∧ (Y.setCell ⟨g, 0, none⟩ v).cell? ⟨w.heap.size, 1, none⟩ = some (.int .u64 (lo : Nat)) ∧ (Y.setCell ⟨g, 0, none⟩ v).cell? ⟨w.heap.size, 2, none⟩ = some (.int .i64 (k : Nat)))
    rw [e, e, e]; exact hY
  have HKD : Hid ((fun W => (W.cell? ⟨w.heap.size, 0, none⟩ = some (.int .u64 (hi : Nat)) ∧ W.cell? ⟨w.heap.size, 1, none⟩ = some (.int .u64 (lo : Nat)) ∧ W.cell? ⟨w.heap.size, 2, none⟩ = some (.int .i64 (k : Nat)))) X.drew) := (row3 HBX2.out).1
  have HWI : Hid (Calls Tryz.prog 85 #[.pointer uT, .agg #[.int .u64 (hi : Nat), .int .u64 (lo : Nat), .int .i64 (k : Nat)], .int .i64 v] X.drew (RetT X.drew T (T.pt.put (wideN hi lo) k v))) := by
    have := HWITH.out X.drew (HT.in_below HIX.out (Below.refl _ _).drew); rwa [HUT.out] at this
  clear p0 p1 p2 q0 q1 f1
  have q0 : X.cell? ⟨g, 0, none⟩ = some (.pointer uT) := by have := cell_row HOX.out 0; rw [HUT.out] at this; exact this
  refine wp_region_held_drew (S := fun W => (W.cell? ⟨w.heap.size, 0, none⟩ = some (.int .u64 (hi : Nat)) ∧ W.cell? ⟨w.heap.size, 1, none⟩ = some (.int .u64 (lo : Nat)) ∧ W.cell? ⟨w.heap.size, 2, none⟩ = some (.int .i64 (k : Nat)))) (by kernel_rfl) ?_ (fun hHeld => ?_)
  · exact HKD.out
  refine wpAnyH_take (i := 0) (oi := ⟨some 31, _, _, _, _, _⟩) (v := ?_) rfl (by kernel_rfl) (by kernel_rfl) (by kernel_rfl) (fun _ _ _ h => h) (Or.inl ⟨by rfl, ?_⟩) hHeld ?_
  rotate_left
  · intro w hSw
    (try dsimp only at hSw)
    go_simp
    try with_reducible rfl
  try simp only [Act.put, List.setIfInBounds_toArray, List.set_cons_zero, List.set_cons_succ]
  refine wpAnyH_take (i := 1) (oi := ⟨some 32, _, _, _, _, _⟩) (v := ?_) rfl (by kernel_rfl) (by kernel_rfl) (by kernel_rfl) (fun _ _ _ h => h) (Or.inl ⟨by rfl, ?_⟩) hHeld ?_
  rotate_left
  · intro w hSw
    (try dsimp only at hSw)
    go_simp
    try with_reducible rfl
  try simp only [Act.put, List.setIfInBounds_toArray, List.set_cons_zero, List.set_cons_succ]
  refine wpAnyH_take (i := 2) (oi := ⟨some 33, _, _, _, _, _⟩) (v := ?_) rfl (by kernel_rfl) (by kernel_rfl) (by kernel_rfl) (fun _ _ _ h => h) (Or.inl ⟨by rfl, ?_⟩) hHeld ?_
  rotate_left
  · intro w hSw
    (try dsimp only at hSw)
    go_simp
    try with_reducible rfl
  try simp only [Act.put, List.setIfInBounds_toArray, List.set_cons_zero, List.set_cons_succ]
  refine wpAnyH_take (i := 3) (oi := ⟨some 34, _, _, _, _, _⟩) (v := ?_) rfl (by kernel_rfl) (by kernel_rfl) (by kernel_rfl) (fun _ _ _ h => h) (Or.inl ⟨by rfl, ?_⟩) hHeld ?_
  rotate_left
  · intro w hSw
    (try dsimp only at hSw)
    go_simp
    try with_reducible rfl
  try simp only [Act.put, List.setIfInBounds_toArray, List.set_cons_zero, List.set_cons_succ]
  refine wpAnyH_take (i := 5) (oi := ⟨some 36, _, _, _, _, _⟩) (v := ?_) rfl (by kernel_rfl) (by kernel_rfl) (by kernel_rfl) (fun _ _ _ h => h) (Or.inl ⟨by rfl, ?_⟩) hHeld ?_
  rotate_left
  · intro w hSw
    (try dsimp only at hSw)
    go_simp
    try with_reducible rfl
  try simp only [Act.put, List.setIfInBounds_toArray, List.set_cons_zero, List.set_cons_succ]
  refine wpAnyH_take (i := 6) (oi := ⟨some 37, _, _, _, _, _⟩) (v := ?_) rfl (by kernel_rfl) (by kernel_rfl) (by kernel_rfl) (fun _ _ _ h => h) (Or.inl ⟨by rfl, ?_⟩) hHeld ?_
  rotate_left
  · intro w hSw
    (try dsimp only at hSw)
    go_simp
    try with_reducible rfl
  try simp only [Act.put, List.setIfInBounds_toArray, List.set_cons_zero, List.set_cons_succ]
  refine wpAnyH_ready (rs := [4]) (by kernel_rfl) (by simp) ?_
  refine AllReadyH.cons (o := ⟨some 35, _, _, _, _, _⟩) rfl (fun K hK => ?_) AllReadyH.nil
  go_simp
  refine hK.out _ _ ?_ (fun hHeld1 => ?_)
  · exact HKD.out
  clear hK K
  try simp only [Act.put, List.setIfInBounds_toArray, List.set_cons_zero, List.set_cons_succ]
  refine wpAnyH_ready (rs := [7]) (by kernel_rfl) (by simp) ?_
  refine AllReadyH.cons (o := ⟨some 38, _, _, _, _, _⟩) rfl (fun K hK => ?_) AllReadyH.nil
  go_simp
  go_at_call 85
  refine (HWI.out).mono ?_
  rintro e x4 ⟨T', rfl, hw, hpt⟩
  obtain ⟨hmv, hrow⟩ := HMV.out _ _ hw hpt
  have q5 := cell_row hrow 0
  have g5 := frozen_row hrow 0
  obtain ⟨ut, hut⟩ := HT.ptr_form T'
  rw [hut] at hmv ⊢
  simp at q5
  (try go_wp2_with fail)
  refine hK.out _ _ ?_ (fun hHeld2 => ?_)
  · exact HK9.out _ _ hw
  clear hK K
  try simp only [Act.put, List.setIfInBounds_toArray, List.set_cons_zero, List.set_cons_succ]
  refine wpAnyH_take (i := 8) (oi := ⟨some 39, _, _, _, _, _⟩) (v := ?_) rfl (by kernel_rfl) (by kernel_rfl) (by kernel_rfl) (fun _ _ _ h => h) (Or.inl ⟨by rfl, ?_⟩) hHeld2 ?_
  rotate_left
  · intro w hSw
    (try dsimp only at hSw)
    go_simp
    try with_reducible rfl
  try simp only [Act.put, List.setIfInBounds_toArray, List.set_cons_zero, List.set_cons_succ]
  refine wpAnyH_take (i := 9) (oi := ⟨some 40, _, _, _, _, _⟩) (v := ?_) rfl (by kernel_rfl) (by kernel_rfl) (by kernel_rfl) (fun _ _ _ h => h) (Or.inl ⟨by rfl, ?_⟩) hHeld2 ?_
  rotate_left
  · intro w hSw
    (try dsimp only at hSw)
    go_simp
    try with_reducible rfl
  try simp only [Act.put, List.setIfInBounds_toArray, List.set_cons_zero, List.set_cons_succ]
  refine wpAnyH_ready (rs := [10]) (by kernel_rfl) (by simp) ?_
  refine AllReadyH.cons (o := ⟨none, _, _, _, _, _⟩) rfl (fun K hK => ?_) AllReadyH.nil
  go_simp
  refine hK.out _ _ ?_ (fun hHeld3 => ?_)
  · exact HKS.out _ (HK9.out _ _ hw)
  clear hK K
  try simp only [Act.put, List.setIfInBounds_toArray, List.set_cons_zero, List.set_cons_succ]
  refine wpAnyH_done (by kernel_rfl) ?_ _
  go_wp2
  go_ret
  exact ⟨T', rfl, hmv, hpt⟩

theorem put_any (g : Nat) (T : HT) (hi lo k : Nat) (v : Int) (w : World) (ht : IsTrie w g T) (h1 : hi < 18446744073709551616) (h2 : lo < 18446744073709551616) (hk : k ≤ 128) (hr : rt (wideN hi lo) k) (hlen : T.pt.list.length < 1000000) :
    Calls Tryz.prog 51 #[.pointer (some ⟨g, 0, none⟩), .agg #[.int .u64 (hi : Nat), .int .u64 (lo : Nat), .int .i64 (k : Nat)], .int .i64 v] w fun e w' => ∃ T', e = .returned (.bool true) ∧ Moved w w' g T T' ∧ T'.pt = T.pt.put (wideN hi lo) k v := by
  cases hel : (T.pt.get (wideN hi lo) k).isSome with
  | true => exact put_elder g T hi lo k v w ht h1 h2 hk hr hlen hel
  | false => exact put_fresh g T hi lo k v w ht h1 h2 hk hr hlen hel
end Go.Proofs.YtoobiaifogackaaGreatDoor
