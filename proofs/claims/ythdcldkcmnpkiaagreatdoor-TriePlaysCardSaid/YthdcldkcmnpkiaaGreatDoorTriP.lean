/-
  Layer 8: Drop: what it comes to.
-/
import Derived.Test.YthdcldkcmnpkiaaGreatDoorTriO
import Derived.Test.YthdcldkcmnpkiaaGreatDoorTriL
namespace Go.Proofs.YthdcldkcmnpkiaaGreatDoor
open Go.RowKit


theorem PT.get_right : ∀ {t : PT} {Q k0 : Nat}, t.Inv Q k0 → ∀ {P : Nat} {k v : Int}, t.get P k = some v → ∃ m : Nat, k = m ∧ m ≤ 128 ∧ rt P m
  | .nil, _, _, _, _, _, _, h => by cases h
  | .node W n u h l r, Q, k0, ⟨⟨_, h2, h3, _⟩, hl, hr, _⟩, P, k, v, hg => by
    unfold PT.get at hg
    by_cases e : W = P ∧ (n : Int) = k
    · obtain ⟨rfl, rfl⟩ := e
      exact ⟨n, rfl, h2, h3⟩
    rw [if_neg e] at hg
    by_cases c : coversB W n P k = true
    · rw [if_pos c] at hg
      by_cases b : bitZ P n = 0
      · rw [if_pos b] at hg; exact PT.get_right hl hg
      · rw [if_neg b] at hg; exact PT.get_right hr hg
    · rw [if_neg c] at hg; cases hg

set_option maxRecDepth 100000 in
set_option maxHeartbeats 1000000 in
theorem drop_none (g : Nat) (T : HT) (hi lo : Nat) (k : Int) (w : World) (ht : IsTrie w g T) (h1 : hi < 18446744073709551616) (h2 : lo < 18446744073709551616) (hg : T.pt.get (wideN hi lo) k = none) :
    Calls Tryz.prog 28 #[.pointer (some ⟨g, 0, none⟩), .agg #[.int .u64 (hi : Nat), .int .u64 (lo : Nat), .int .i64 k]] w fun e w' => e = .returned (.bool false) ∧ Below w.heap.size w w' := by
  have HGT : Hid (∀ X, Below w.heap.size w X → Calls Tryz.prog 37 #[.pointer (some ⟨g, 0, none⟩), .agg #[.int .u64 (hi : Nat), .int .u64 (lo : Nat), .int .i64 k]] X fun e w' => e = .returned (.tuple #[.int .i64 0, .bool false]) ∧ Below X.heap.size X w') := fun X hX => by
    have := get_any g T hi lo k X (ht.keep hX) h1 h2
    unfold RetG at this
    rw [hg] at this
    exact this
  clear ht hg
  go_enter Tryz.func28, Tryz.ntmps28
  go_wp2_with fail
  refine (HGT.out _ ((Below.refl _ _).alloc (Nat.le_refl _) _)).mono ?_
  rintro e x1 ⟨rfl, hb1⟩
  go_wp2
  go_ret
  exact ⟨rfl, alloc_then hb1⟩

theorem drop_moved {w X x4 : World} {g c : Nat} {T T' : HT} (ht : IsTrie w g T) (hx : Below w.heap.size w X) (hw : Wrote X x4 T T') (hc : c = T'.pt.list.length) (hi : T'.pt.Inv 0 0) :
    Moved w ((x4.setCell ⟨g, 0, none⟩ T'.ptr).setCell ⟨g, 1, none⟩ (.int .i64 (c : Nat))) g T T' ∧ x4.heap[g]? = some (.cells #[T.ptr, .int .i64 (T.pt.list.length : Nat)] 98) := by
  have hg := (List.nodup_cons.1 ht.once).1
  have hown := (hx.block g (block_lt ht.own)).trans ht.own
  have hgl := block_lt hown
  have hb : x4.heap[g]? = some (.cells #[T.ptr, .int .i64 (T.pt.list.length : Nat)] 98) := (hw.only.block g hgl hg).trans hown
  have hT' : ∀ b ∈ T'.blocks, b ≠ g := fun b q e => by
    subst e
    rcases hw.sub _ q with s | s
    · exact hg s
    · omega
  refine ⟨⟨⟨?_, HT.in_same hw.lies (fun b q => (set_other (hT' b q) _ _).trans (set_other (hT' b q) _ _)), List.nodup_cons.2 ⟨fun q => hT' g q rfl, hw.once⟩, hi⟩, ?_, fun b q => (hw.sub b q).imp id (fun s => Nat.le_trans hx.size s)⟩, hb⟩
  · rw [row2_set1 (row2_set0 hb), hc]
  · refine ((((Only.of_below (F := g :: T.blocks) hx)).trans hw.only (fun x q => .inl (List.mem_cons_of_mem _ q))).setCell (p := ⟨g, 0, none⟩) (.inl (List.mem_cons_self ..)) _).setCell (p := ⟨g, 1, none⟩) (.inl (List.mem_cons_self ..)) _

set_option maxRecDepth 100000 in
set_option maxHeartbeats 8000000 in
theorem drop_some (g : Nat) (T : HT) (hi lo k : Nat) (v : Int) (w : World) (ht : IsTrie w g T) (h1 : hi < 18446744073709551616) (h2 : lo < 18446744073709551616) (hk : k ≤ 128) (hr : rt (wideN hi lo) k) (hlen : T.pt.list.length < 1000000)
    (hel : T.pt.get (wideN hi lo) k = some v) :
    Calls Tryz.prog 28 #[.pointer (some ⟨g, 0, none⟩), .agg #[.int .u64 (hi : Nat), .int .u64 (lo : Nat), .int .i64 (k : Nat)]] w fun e w' => ∃ T', e = .returned (.bool true) ∧ Moved w w' g T T' ∧ T'.pt = T.pt.drop (wideN hi lo) k := by
  have hPl := wide_lt h1 h2
  have HGT : Hid (∀ X, Below w.heap.size w X → Calls Tryz.prog 37 #[.pointer (some ⟨g, 0, none⟩), .agg #[.int .u64 (hi : Nat), .int .u64 (lo : Nat), .int .i64 (k : Nat)]] X fun e w' => e = .returned (.tuple #[.int .i64 v, .bool true]) ∧ Below X.heap.size X w') := fun X hX => by
    have := get_any g T hi lo k X (ht.keep hX) h1 h2
    unfold RetG at this
    rw [hel] at this
    exact this
  have hcnt : (T.pt.drop (wideN hi lo) k).list.length + 1 = T.pt.list.length := by
    rw [PT.drop_list ht.inv hk hr ((PT.get_mem ht.inv hk hr v).1 hel)]
    exact dropL_len (PT.sorted ht.inv) (by rw [← PT.get_list ht.inv]; exact hel)
  have hinv : (T.pt.drop (wideN hi lo) k).Inv 0 0 := PT.drop_inv ht.inv
  obtain ⟨c, hc⟩ : ∃ c, (T.pt.drop (wideN hi lo) k).list.length = c := ⟨_, rfl⟩
  have hc2 : T.pt.list.length = c + 1 := by omega
  have hc3 : c < 1000000 := by omega
  have HCNT := Lib.hid hc
  have HLEN := Lib.hid hc2
  have HINV := Lib.hid hinv
  have HTR := Lib.hid ht
  have hgl := block_lt ht.own
  obtain ⟨uT, huT⟩ := HT.ptr_form T
  have HUT := Lib.hid huT
  have HWITH : Hid (∀ X, T.In X → Calls Tryz.prog 54 #[T.ptr, .agg #[.int .u64 (hi : Nat), .int .u64 (lo : Nat), .int .i64 (k : Nat)]] X (RetT X T (T.pt.drop (wideN hi lo) k))) := fun X hX => by
    have := without_any (wideN hi lo) k hPl v T X hX (List.nodup_cons.1 ht.once).2 hel
    rwa [pfW_wide h2] at this
  have HBX := Lib.hid (HT.in_lt ht.lies)
  clear ht hel hcnt hinv huT hr hPl hlen hc hc2
  go_enter Tryz.func28, Tryz.ntmps28
  go_wp2_with fail
  refine (HGT.out _ ((Below.refl _ _).alloc (Nat.le_refl _) _)).mono ?_
  rintro e X ⟨rfl, hb1⟩
  have hx1 := alloc_then hb1
  have HB1 : Hid (X.heap[w.heap.size]? = some (.cells #[.int .u64 (hi : Nat), .int .u64 (lo : Nat), .int .i64 (k : Nat)] 24)) := (hb1.block _ (by simp)).trans (Go.Deep.blk_alloc_new _ _)
  clear hb1
  have HOX : Hid (X.heap[g]? = _) := (hx1.block g hgl).trans HTR.out.own
  have hg2 := block_lt HOX.out
  have hne : g ≠ w.heap.size := by omega
  go_wp2
  have HIX : Hid (T.In X) := HT.in_below HTR.out.lies hx1
  have HMV : Hid (∀ Y T', Wrote X.drew Y T T' → T'.pt = T.pt.drop (wideN hi lo) k → Moved w ((Y.setCell ⟨g, 0, none⟩ T'.ptr).setCell ⟨g, 1, none⟩ (.int .i64 (c : Nat))) g T T' ∧ Y.heap[g]? = _) := fun Y T' hw hpt =>
    drop_moved HTR.out hx1 (hw.before (Below.refl _ _).drew HIX.out) (by rw [hpt, HCNT.out]) (by rw [hpt]; exact HINV.out)
  have HK9 : Hid (∀ Y T', Wrote X.drew Y T T' → (fun W => (W.cell? ⟨w.heap.size, 0, none⟩ = some (.int .u64 (hi : Nat)) ∧ W.cell? ⟨w.heap.size, 1, none⟩ = some (.int .u64 (lo : Nat)) ∧ W.cell? ⟨w.heap.size, 2, none⟩ = some (.int .i64 (k : Nat)))) Y) := fun Y T' hw =>
    (row3 ((hw.only.block w.heap.size (block_lt HB1.out) (fun q => Nat.lt_irrefl _ (HBX.out _ q))).trans HB1.out)).1
  have HKS : Hid (∀ (Y : World) {v : Value}, (fun W => (W.cell? ⟨w.heap.size, 0, none⟩ = some (.int .u64 (hi : Nat)) ∧ W.cell? ⟨w.heap.size, 1, none⟩ = some (.int .u64 (lo : Nat)) ∧ W.cell? ⟨w.heap.size, 2, none⟩ = some (.int .i64 (k : Nat)))) Y → (fun W => (W.cell? ⟨w.heap.size, 0, none⟩ = some (.int .u64 (hi : Nat)) ∧ W.cell? ⟨w.heap.size, 1, none⟩ = some (.int .u64 (lo : Nat)) ∧ W.cell? ⟨w.heap.size, 2, none⟩ = some (.int .i64 (k : Nat)))) (Y.setCell ⟨g, 0, none⟩ v)) := fun Y v hY => by
    have e : ∀ i, (Y.setCell ⟨g, 0, none⟩ v).cell? ⟨w.heap.size, i, none⟩ = Y.cell? ⟨w.heap.size, i, none⟩ := fun i => World.cell?_of_block (w := Y) (set_other (fun e => hne e.symm) _ _)
    show ((Y.setCell ⟨g, 0, none⟩ v).cell? ⟨w.heap.size, 0, none⟩ = some (.int .u64 (hi : Nat)) ∧ (Y.setCell ⟨g, 0, none⟩ v).cell? ⟨w.heap.size, 1, none⟩ = some (.int .u64 (lo : Nat)) ∧ (Y.setCell ⟨g, 0, none⟩ v).cell? ⟨w.heap.size, 2, none⟩ = some (.int .i64 (k : Nat)))
    rw [e, e, e]; exact hY
  have HKD : Hid ((fun W => (W.cell? ⟨w.heap.size, 0, none⟩ = some (.int .u64 (hi : Nat)) ∧ W.cell? ⟨w.heap.size, 1, none⟩ = some (.int .u64 (lo : Nat)) ∧ W.cell? ⟨w.heap.size, 2, none⟩ = some (.int .i64 (k : Nat)))) X.drew) := (row3 HB1.out).1
  have HWI : Hid (Calls Tryz.prog 54 #[.pointer uT, .agg #[.int .u64 (hi : Nat), .int .u64 (lo : Nat), .int .i64 (k : Nat)]] X.drew (RetT X.drew T (T.pt.drop (wideN hi lo) k))) := by
    have := HWITH.out X.drew (HT.in_below HIX.out (Below.refl _ _).drew); rwa [HUT.out] at this
  have q0 : X.cell? ⟨g, 0, none⟩ = some (.pointer uT) := by have := cell_row HOX.out 0; rw [HUT.out] at this; exact this
  refine wp_region_held_drew (S := fun W => (W.cell? ⟨w.heap.size, 0, none⟩ = some (.int .u64 (hi : Nat)) ∧ W.cell? ⟨w.heap.size, 1, none⟩ = some (.int .u64 (lo : Nat)) ∧ W.cell? ⟨w.heap.size, 2, none⟩ = some (.int .i64 (k : Nat)))) (by kernel_rfl) ?_ (fun hHeld => ?_)
  · exact HKD.out
  refine wpAnyH_take (i := 0) (oi := ⟨some 15, _, _, _, _, _⟩) (v := ?_) rfl (by kernel_rfl) (by kernel_rfl) (by kernel_rfl) (fun _ _ _ h => h) (Or.inl ⟨by rfl, ?_⟩) hHeld ?_
  rotate_left
  · intro w hSw
    (try dsimp only at hSw)
    go_simp
    try with_reducible rfl
  try simp only [Act.put, List.setIfInBounds_toArray, List.set_cons_zero, List.set_cons_succ]
  refine wpAnyH_take (i := 1) (oi := ⟨some 16, _, _, _, _, _⟩) (v := ?_) rfl (by kernel_rfl) (by kernel_rfl) (by kernel_rfl) (fun _ _ _ h => h) (Or.inl ⟨by rfl, ?_⟩) hHeld ?_
  rotate_left
  · intro w hSw
    (try dsimp only at hSw)
    go_simp
    try with_reducible rfl
  try simp only [Act.put, List.setIfInBounds_toArray, List.set_cons_zero, List.set_cons_succ]
  refine wpAnyH_take (i := 2) (oi := ⟨some 17, _, _, _, _, _⟩) (v := ?_) rfl (by kernel_rfl) (by kernel_rfl) (by kernel_rfl) (fun _ _ _ h => h) (Or.inl ⟨by rfl, ?_⟩) hHeld ?_
  rotate_left
  · intro w hSw
    (try dsimp only at hSw)
    go_simp
    try with_reducible rfl
  try simp only [Act.put, List.setIfInBounds_toArray, List.set_cons_zero, List.set_cons_succ]
  refine wpAnyH_take (i := 3) (oi := ⟨some 18, _, _, _, _, _⟩) (v := ?_) rfl (by kernel_rfl) (by kernel_rfl) (by kernel_rfl) (fun _ _ _ h => h) (Or.inl ⟨by rfl, ?_⟩) hHeld ?_
  rotate_left
  · intro w hSw
    (try dsimp only at hSw)
    go_simp
    try with_reducible rfl
  try simp only [Act.put, List.setIfInBounds_toArray, List.set_cons_zero, List.set_cons_succ]
  refine wpAnyH_take (i := 5) (oi := ⟨some 20, _, _, _, _, _⟩) (v := ?_) rfl (by kernel_rfl) (by kernel_rfl) (by kernel_rfl) (fun _ _ _ h => h) (Or.inl ⟨by rfl, ?_⟩) hHeld ?_
  rotate_left
  · intro w hSw
    (try dsimp only at hSw)
    go_simp
    try with_reducible rfl
  try simp only [Act.put, List.setIfInBounds_toArray, List.set_cons_zero, List.set_cons_succ]
  refine wpAnyH_ready (rs := [4]) (by kernel_rfl) (by simp) ?_
  refine AllReadyH.cons (o := ⟨some 19, _, _, _, _, _⟩) rfl (fun K hK => ?_) AllReadyH.nil
  go_simp
  refine hK.out _ _ ?_ (fun hHeld1 => ?_)
  · exact HKD.out
  clear hK K
  try simp only [Act.put, List.setIfInBounds_toArray, List.set_cons_zero, List.set_cons_succ]
  refine wpAnyH_ready (rs := [6]) (by kernel_rfl) (by simp) ?_
  refine AllReadyH.cons (o := ⟨some 21, _, _, _, _, _⟩) rfl (fun K hK => ?_) AllReadyH.nil
  go_simp
  go_at_call 54
  refine (HWI.out).mono ?_
  rintro e x4 ⟨T', rfl, hw, hpt⟩
  obtain ⟨hmv, hrow⟩ := HMV.out _ _ hw hpt
  have q5 := cell_row hrow 0
  have g5 := frozen_row hrow 0
  obtain ⟨ut, hut⟩ := HT.ptr_form T'
  rw [hut] at hmv ⊢
  simp at q5
  (try go_wp2_with fail)
  refine hK.out _ _ ?_ (fun hHeld2 => ?_)
  · exact HK9.out _ _ hw
  clear hK K
  try simp only [Act.put, List.setIfInBounds_toArray, List.set_cons_zero, List.set_cons_succ]
  refine wpAnyH_take (i := 7) (oi := ⟨some 22, _, _, _, _, _⟩) (v := ?_) rfl (by kernel_rfl) (by kernel_rfl) (by kernel_rfl) (fun _ _ _ h => h) (Or.inl ⟨by rfl, ?_⟩) hHeld2 ?_
  rotate_left
  · intro w hSw
    (try dsimp only at hSw)
    go_simp
    try with_reducible rfl
  try simp only [Act.put, List.setIfInBounds_toArray, List.set_cons_zero, List.set_cons_succ]
  refine wpAnyH_take (i := 8) (oi := ⟨some 23, _, _, _, _, _⟩) (v := ?_) rfl (by kernel_rfl) (by kernel_rfl) (by kernel_rfl) (fun _ _ _ h => h) (Or.inl ⟨by rfl, ?_⟩) hHeld2 ?_
  rotate_left
  · intro w hSw
    (try dsimp only at hSw)
    go_simp
    try with_reducible rfl
  try simp only [Act.put, List.setIfInBounds_toArray, List.set_cons_zero, List.set_cons_succ]
  refine wpAnyH_ready (rs := [9]) (by kernel_rfl) (by simp) ?_
  refine AllReadyH.cons (o := ⟨none, _, _, _, _, _⟩) rfl (fun K hK => ?_) AllReadyH.nil
  go_simp
  refine hK.out _ _ ?_ (fun hHeld3 => ?_)
  · exact HKS.out _ (HK9.out _ _ hw)
  clear hK K
  try simp only [Act.put, List.setIfInBounds_toArray, List.set_cons_zero, List.set_cons_succ]
  refine wpAnyH_done (by kernel_rfl) ?_ _
  have HR5 : Hid ((x4.setCell ⟨g, 0, none⟩ (.pointer ut)).heap[g]? = some (.cells #[.pointer ut, .int .i64 (c + 1 : Nat)] 98)) := by
    have := row2_set0 (x' := .pointer ut) hrow
    rw [HLEN.out] at this; exact this
  have HMV5 := Lib.hid hmv
  clear hmv hrow q5 g5 hut q0 hw HWI HKD HKS HK9 HMV HIX HOX HB1
  generalize x4.setCell ⟨g, 0, none⟩ (.pointer ut) = y at *
  have q1 : y.cell? ⟨g, 1, none⟩ = some (.int .i64 ((c : Int) + 1)) := cell_row HR5.out 1
  have f1 := frozen_row HR5.out 1
  have hg5 := block_lt HR5.out
  go_wp2
  go_ret
  refine ⟨T', rfl, ?_, hpt⟩
  exact HMV5.out
theorem drop_any (g : Nat) (T : HT) (hi lo : Nat) (k : Int) (w : World) (ht : IsTrie w g T) (h1 : hi < 18446744073709551616) (h2 : lo < 18446744073709551616) (hlen : T.pt.list.length < 1000000) :
    Calls Tryz.prog 28 #[.pointer (some ⟨g, 0, none⟩), .agg #[.int .u64 (hi : Nat), .int .u64 (lo : Nat), .int .i64 k]] w fun e w' => ∃ T', e = .returned (.bool (T.pt.get (wideN hi lo) k).isSome) ∧ Moved w w' g T T' ∧ ((T.pt.get (wideN hi lo) k = none ∧ T' = T) ∨ ∃ m : Nat, k = m ∧ m ≤ 128 ∧ rt (wideN hi lo) m ∧ T'.pt = T.pt.drop (wideN hi lo) m) := by
  cases e : T.pt.get (wideN hi lo) k with
  | none => exact (drop_none g T hi lo k w ht h1 h2 e).mono fun e w' ⟨h, hb⟩ => ⟨T, h, Moved.refl ht hb, .inl ⟨rfl, rfl⟩⟩
  | some v =>
    obtain ⟨m, rfl, h3, h4⟩ := PT.get_right ht.inv e
    exact (drop_some g T hi lo m v w ht h1 h2 h3 h4 hlen e).mono fun e w' ⟨T', h, hm, hp⟩ => ⟨T', h, hm, .inr ⟨m, rfl, h3, h4, hp⟩⟩
end Go.Proofs.YthdcldkcmnpkiaaGreatDoor
