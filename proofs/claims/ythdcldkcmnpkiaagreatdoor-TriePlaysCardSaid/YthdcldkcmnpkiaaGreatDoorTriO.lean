/-
  Layer 8: without: what it comes to at a tree that holds the prefix.
-/
import Derived.Test.YthdcldkcmnpkiaaGreatDoorTriJ
namespace Go.Proofs.YthdcldkcmnpkiaaGreatDoor
open Go.RowKit


theorem HT.isNil_some {T : HT} {p : Addr} (h : T.ptr = .pointer (some p)) : T.pt.isNil = false := by
  cases T with
  | nil => cases h
  | node => rfl
theorem HT.isNil_none {T : HT} (h : T.ptr = .pointer none) : T.pt.isNil = true := by
  cases T with
  | nil => rfl
  | node => cases h
theorem join_cases (h : Bool) (l r : HT) : h = true ∨ (h = false ∧ ∃ p q, l.ptr = .pointer (some p) ∧ r.ptr = .pointer (some q)) ∨ (h = false ∧ (∃ p, l.ptr = .pointer (some p)) ∧ r.ptr = .pointer none) ∨ (h = false ∧ l.ptr = .pointer none) := by
  cases h with
  | true => exact .inl rfl
  | false =>
    cases l with
    | nil => exact .inr (.inr (.inr ⟨rfl, rfl⟩))
    | node =>
      cases r with
      | nil => exact .inr (.inr (.inl ⟨rfl, ⟨_, rfl⟩, rfl⟩))
      | node => exact .inr (.inl ⟨rfl, _, _, rfl, rfl⟩)
theorem Wrote.left {w w' : World} {T l r : HT} {b W n : Nat} {u : Int} {h : Bool} (hw : Wrote w w' T (.node b W n u h l r)) : Wrote w w' T l :=
  ⟨hw.lies.2.2.1, (nodup_node hw.once).2.2.1, fun x hx => hw.sub x (List.mem_cons_of_mem _ (List.mem_append_left _ hx)), hw.only⟩
theorem Wrote.right {w w' : World} {T l r : HT} {b W n : Nat} {u : Int} {h : Bool} (hw : Wrote w w' T (.node b W n u h l r)) : Wrote w w' T r :=
  ⟨hw.lies.2.2.2, (nodup_node hw.once).2.2.2.1, fun x hx => hw.sub x (List.mem_cons_of_mem _ (List.mem_append_right _ hx)), hw.only⟩
theorem pickA {w w' : World} {T l r : HT} {b W n : Nat} {u : Int} (hw : Wrote w w' T (.node b W n u true l r)) : RetT w T (PT.join W n u true l.pt r.pt) (.returned (.pointer (some ⟨b, 0, none⟩))) w' :=
  ⟨_, rfl, hw, by simp [PT.join, HT.pt]⟩
theorem pickB {w w' : World} {T l r : HT} {b W n : Nat} {u : Int} {p q : Addr} (hw : Wrote w w' T (.node b W n u false l r)) (e1 : l.ptr = .pointer (some p)) (e2 : r.ptr = .pointer (some q)) : RetT w T (PT.join W n u false l.pt r.pt) (.returned (.pointer (some ⟨b, 0, none⟩))) w' :=
  ⟨_, rfl, hw, by simp [PT.join, HT.pt, HT.isNil_some e1, HT.isNil_some e2]⟩
theorem pickC {w w' : World} {T l r : HT} {b W n : Nat} {u : Int} {p : Addr} (hw : Wrote w w' T (.node b W n u false l r)) (e1 : l.ptr = .pointer (some p)) (e2 : r.ptr = .pointer none) : RetT w T (PT.join W n u false l.pt r.pt) (.returned (.pointer (some p))) w' :=
  ⟨l, by rw [e1], hw.left, by simp [PT.join, HT.isNil_some e1, HT.isNil_none e2]⟩
theorem pickD {w w' : World} {T l r : HT} {b W n : Nat} {u : Int} {q : Option Addr} (hw : Wrote w w' T (.node b W n u false l r)) (e1 : l.ptr = .pointer none) (e2 : r.ptr = .pointer q) : RetT w T (PT.join W n u false l.pt r.pt) (.returned (.pointer q)) w' :=
  ⟨r, by rw [e2], hw.right, by simp [PT.join, HT.isNil_none e1]⟩

set_option maxRecDepth 100000 in
set_option maxHeartbeats 4000000 in
theorem without_own (b P k : Nat) (u : Int) (h : Bool) (l r : HT) (w : World) (hin : (HT.node b P k u h l r).In w) (hd : (HT.node b P k u h l r).blocks.Nodup) :
    Calls Tryz.prog 54 #[(HT.node b P k u h l r).ptr, pfW P (k : Nat)] w (RetT w (.node b P k u h l r) (PT.join P k 0 false l.pt r.pt)) := by
  show Calls Tryz.prog 54 #[.pointer (some ⟨b, 0, none⟩), .agg #[.int .u64 (hiN P : Nat), .int .u64 (loN P : Nat), .int .i64 (k : Nat)]] w _
  have HW := Lib.hid (fun w1 (hb : Below w.heap.size w w1) => wrote_own (v := 0) (h' := false) hin hd hb)
  obtain ⟨⟨c0, c1, c2⟩, c3, c4, c5, c6⟩ := node_cells hin.1
  have f3 := frozen_row hin.1 3
  have f4 := frozen_row hin.1 4
  have hlt := block_lt hin.1
  have heq : ∀ W : World, (binOp .eql 24 (.agg #[.int .u64 (hiN P : Nat), .int .u64 (loN P : Nat), .int .i64 (k : Nat)]) (.agg #[.int .u64 (hiN P : Nat), .int .u64 (loN P : Nat), .int .i64 (k : Nat)])).run Tryz.prog W = .ok (.bool true) W := fun W => by rw [eqPf]; simp
  have hg := eqPf_guard
  obtain ⟨ur, hur⟩ := HT.ptr_form r
  clear hin hd
  generalize hiN P = ph at *
  generalize loN P = pl at *
  rcases join_cases false l r with e0 | ⟨-, p, q, e1, e2⟩ | ⟨-, ⟨p, e1⟩, e2⟩ | ⟨-, e1⟩
  · cases e0
  · have E1 := Lib.hid e1
    have E2 := Lib.hid e2
    rw [e1] at c5
    rw [e2] at c6
    clear e1 e2 hur
    go_enter Tryz.func54, Tryz.ntmps54
    go_wp2
    go_quiet (fail)
    go_wp2
    go_ret
    exact pickB (HW.out _ (((Below.refl _ _).alloc (Nat.le_refl _) _).trans drew_n)) E1.out E2.out
  · have E1 := Lib.hid e1
    have E2 := Lib.hid e2
    rw [e1] at c5
    rw [e2] at c6
    clear e1 e2 hur
    go_enter Tryz.func54, Tryz.ntmps54
    go_wp2
    go_quiet (fail)
    go_wp2
    go_ret
    exact pickC (HW.out _ (((Below.refl _ _).alloc (Nat.le_refl _) _).trans drew_n)) E1.out E2.out
  · have E1 := Lib.hid e1
    have E2 := Lib.hid hur
    rw [e1] at c5
    rw [hur] at c6
    clear e1 hur
    go_enter Tryz.func54, Tryz.ntmps54
    go_wp2
    go_quiet (fail)
    go_wp2
    go_ret
    exact pickD (HW.out _ (((Below.refl _ _).alloc (Nat.le_refl _) _).trans drew_n)) E1.out E2.out

set_option maxRecDepth 100000 in
set_option maxHeartbeats 8000000 in
theorem without_left (b W n P k : Nat) (u : Int) (h : Bool) (l r : HT) (tc : PT) (w : World) (hin : (HT.node b W n u h l r).In w) (hd : (HT.node b W n u h l r).blocks.Nodup) (hP : P < 2 ^ 128)
    (hne : ¬ (W = P ∧ n = k)) (hbit : bitZ P n = 0) (HC : Hid (∀ X, Below w.heap.size w X → Calls Tryz.prog 54 #[l.ptr, pfW P (k : Nat)] X (RetT X l tc))) :
    Calls Tryz.prog 54 #[(HT.node b W n u h l r).ptr, pfW P (k : Nat)] w (RetT w (.node b W n u h l r) (PT.join W n u h tc r.pt)) := by
  obtain ⟨wh, ewh⟩ : ∃ x, hiN W = x := ⟨_, rfl⟩
  obtain ⟨wl, ewl⟩ : ∃ x, loN W = x := ⟨_, rfl⟩
  obtain ⟨ph, eph⟩ : ∃ x, hiN P = x := ⟨_, rfl⟩
  obtain ⟨pl, epl⟩ : ∃ x, loN P = x := ⟨_, rfl⟩
  have hne2 : ((wh : Int) == ph && ((wl : Int) == pl && (n : Int) == k)) = false := by
    rw [Bool.eq_false_iff]
    intro g
    simp only [Bool.and_eq_true, beq_iff_eq] at g
    exact hne ⟨wide_inj (by rw [ewh, eph]; omega) (by rw [ewl, epl]; omega), by omega⟩
  have heq := eqPf wh wl n ph pl k
  rw [hne2] at heq
  have hg := eqPf_guard
  have HBT : Hid (∀ X, Calls Tryz.prog 23 #[.agg #[.int .u64 (ph : Nat), .int .u64 (pl : Nat), .int .i64 (k : Nat)], .int .i64 (n : Nat)] X fun e w' => e = .returned (.int .i64 0) ∧ Below X.heap.size X w') := fun X => by
    have := bit_any ph pl k n X (eph ▸ hiN_lt hP) (epl ▸ loN_lt P)
    rw [← eph, ← epl, wide_split, hbit] at this
    rw [← eph, ← epl]; exact this
  have HROW : Hid (w.heap[b]? = some (.cells #[.int .u64 (wh : Nat), .int .u64 (wl : Nat), .int .i64 (n : Nat), .int .i64 u, .bool h, l.ptr, r.ptr] 109)) := by
    have := hin.1; unfold rowOf at this; rw [ewh, ewl] at this; exact this
  have HIN := Lib.hid hin
  have HD := Lib.hid hd
  have hlt := block_lt hin.1
  have hbx : ∀ x ∈ (HT.node b W n u h l r).blocks, x < w.heap.size := HT.in_lt hin
  have HBX := Lib.hid hbx
  show Calls Tryz.prog 54 #[.pointer (some ⟨b, 0, none⟩), .agg #[.int .u64 (hiN P : Nat), .int .u64 (loN P : Nat), .int .i64 (k : Nat)]] w _
  have HC' : Hid (∀ X, Below w.heap.size w X → Calls Tryz.prog 54 #[l.ptr, .agg #[.int .u64 (ph : Nat), .int .u64 (pl : Nat), .int .i64 (k : Nat)]] X (RetT X l tc)) := by
    have := HC.out
    rw [show pfW P (k : Nat) = .agg #[.int .u64 (ph : Nat), .int .u64 (pl : Nat), .int .i64 (k : Nat)] from by unfold pfW pfV; rw [eph, epl]] at this
    exact this
  rw [eph, epl]
  clear HC
  have HC := Lib.hid HC'.out
  obtain ⟨uc, huc⟩ := HT.ptr_form l
  have hcells : ∀ X : World, X.heap[b]? = some (.cells #[.int .u64 (wh : Nat), .int .u64 (wl : Nat), .int .i64 (n : Nat), .int .i64 u, .bool h, l.ptr, r.ptr] 109) → (X.cell? ⟨b, 0, none⟩ = some (.int .u64 (wh : Nat)) ∧ X.cell? ⟨b, 1, none⟩ = some (.int .u64 (wl : Nat)) ∧ X.cell? ⟨b, 2, none⟩ = some (.int .i64 (n : Nat))) ∧ X.cell? ⟨b, 5, none⟩ = some l.ptr := fun X hX => ⟨⟨cell_row hX 0, cell_row hX 1, cell_row hX 2⟩, cell_row hX 5⟩
  have HCELLS := Lib.hid hcells
  obtain ⟨⟨c0, c1, c2⟩, c5⟩ := hcells w HROW.out
  clear hin hd ewh ewl eph epl hne hne2 hbit hbx hP hcells HC'
  go_enter Tryz.func54, Tryz.ntmps54
  go_wp2
  go_quiet (fail)
  go_wp2
  have hx1 : Below w.heap.size w ((w.alloc (.cells #[.int .u64 (ph : Nat), .int .u64 (pl : Nat), .int .i64 (k : Nat)] 24)).drewN nq) := ((Below.refl _ _).alloc (Nat.le_refl _) _).trans drew_n
  have HB1 : Hid (((w.alloc (.cells #[.int .u64 (ph : Nat), .int .u64 (pl : Nat), .int .i64 (k : Nat)] 24)).drewN nq).heap[w.heap.size]? = some (.cells #[.int .u64 (ph : Nat), .int .u64 (pl : Nat), .int .i64 (k : Nat)] 24)) := Go.Deep.blk_alloc_new _ _
  generalize (w.alloc (.cells #[.int .u64 (ph : Nat), .int .u64 (pl : Nat), .int .i64 (k : Nat)] 24)).drewN nq = x1 at *
  have HN1 : Hid (x1.heap[b]? = _) := (hx1.block b hlt).trans HROW.out
  have HK1 : Hid (∀ X, Below x1.heap.size x1 X → (fun W => (W.cell? ⟨b, 0, none⟩ = some (.int .u64 (wh : Nat)) ∧ W.cell? ⟨b, 1, none⟩ = some (.int .u64 (wl : Nat)) ∧ W.cell? ⟨b, 2, none⟩ = some (.int .i64 (n : Nat))) ∧ (W.cell? ⟨w.heap.size, 0, none⟩ = some (.int .u64 (ph : Nat)) ∧ W.cell? ⟨w.heap.size, 1, none⟩ = some (.int .u64 (pl : Nat)) ∧ W.cell? ⟨w.heap.size, 2, none⟩ = some (.int .i64 (k : Nat)))) X) := fun X hX =>
    ⟨(HCELLS.out X ((hX.block b (block_lt HN1.out)).trans HN1.out)).1, (row3 ((hX.block w.heap.size (block_lt HB1.out)).trans HB1.out)).1⟩
  clear c0 c1 c2 c5
  go_region_held3 (fun W => (W.cell? ⟨b, 0, none⟩ = some (.int .u64 (wh : Nat)) ∧ W.cell? ⟨b, 1, none⟩ = some (.int .u64 (wl : Nat)) ∧ W.cell? ⟨b, 2, none⟩ = some (.int .i64 (n : Nat))) ∧ (W.cell? ⟨w.heap.size, 0, none⟩ = some (.int .u64 (ph : Nat)) ∧ W.cell? ⟨w.heap.size, 1, none⟩ = some (.int .u64 (pl : Nat)) ∧ W.cell? ⟨w.heap.size, 2, none⟩ = some (.int .i64 (k : Nat))))
    (first | exact HK1.out _ (Below.refl _ _).drew | exact HK1.out _ (drew_c hy3))
    (first
      | (go_simp; go_at_call 23; ((with_reducible refine (HBT.out _).mono ?_); rintro e x3 ⟨rfl, hy3⟩)))
  go_wp2
  have hk3 : Below x1.heap.size x1 x3 := drew_c hy3
  have hx3 : Below w.heap.size w x3 := below_chain7 hx1 hk3
  have HN3 : Hid (x3.heap[b]? = _) := (hk3.block b (block_lt HN1.out)).trans HN1.out
  have HB3 : Hid (x3.heap[w.heap.size]? = _) := (hk3.block w.heap.size (block_lt HB1.out)).trans HB1.out
  have HK8 : Hid (∀ X, Below x3.heap.size x3 X → (fun W => (W.cell? ⟨w.heap.size, 0, none⟩ = some (.int .u64 (ph : Nat)) ∧ W.cell? ⟨w.heap.size, 1, none⟩ = some (.int .u64 (pl : Nat)) ∧ W.cell? ⟨w.heap.size, 2, none⟩ = some (.int .i64 (k : Nat)))) X) := fun X hX => (row3 ((hX.block w.heap.size (block_lt HB3.out)).trans HB3.out)).1
  have HI3 : Hid ((HT.node b W n u h l r).In x3) := HT.in_below HIN.out hx3
  have HW : Hid (∀ X T', Wrote x3.drew X l T' → Wrote x3 (X.setCell ⟨b, 5, none⟩ T'.ptr) (.node b W n u h l r) (.node b W n u h T' r) ∧ X.heap[b]? = some (.cells (rowOf W n u h l.ptr r.ptr) 109)) := fun X T' hw =>
    wrote_left HI3.out HD.out (hw.before (Below.refl _ _).drew (HI3.out.2.2.1))
  have HK9 : Hid (∀ X T', Wrote x3.drew X l T' → (fun W => (W.cell? ⟨w.heap.size, 0, none⟩ = some (.int .u64 (ph : Nat)) ∧ W.cell? ⟨w.heap.size, 1, none⟩ = some (.int .u64 (pl : Nat)) ∧ W.cell? ⟨w.heap.size, 2, none⟩ = some (.int .i64 (k : Nat)))) X) := fun X T' hw =>
    (row3 ((hw.only.block w.heap.size (block_lt HB3.out) (fun g => Nat.lt_irrefl _ (HBX.out _ (List.mem_cons_of_mem _ (List.mem_append_left _ g))))).trans HB3.out)).1
  have HKS : Hid (∀ (X : World) {v : Value}, (fun W => (W.cell? ⟨w.heap.size, 0, none⟩ = some (.int .u64 (ph : Nat)) ∧ W.cell? ⟨w.heap.size, 1, none⟩ = some (.int .u64 (pl : Nat)) ∧ W.cell? ⟨w.heap.size, 2, none⟩ = some (.int .i64 (k : Nat)))) X → (fun W => (W.cell? ⟨w.heap.size, 0, none⟩ = some (.int .u64 (ph : Nat)) ∧ W.cell? ⟨w.heap.size, 1, none⟩ = some (.int .u64 (pl : Nat)) ∧ W.cell? ⟨w.heap.size, 2, none⟩ = some (.int .i64 (k : Nat)))) (X.setCell ⟨b, 5, none⟩ v)) := fun X v hX => by
    have e : ∀ i, (X.setCell ⟨b, 5, none⟩ v).cell? ⟨w.heap.size, i, none⟩ = X.cell? ⟨w.heap.size, i, none⟩ := fun i => World.cell?_of_block (w := X) (set_other (by show w.heap.size ≠ b; omega) _ _)
    show ((X.setCell ⟨b, 5, none⟩ v).cell? ⟨w.heap.size, 0, none⟩ = some (.int .u64 (ph : Nat)) ∧ (X.setCell ⟨b, 5, none⟩ v).cell? ⟨w.heap.size, 1, none⟩ = some (.int .u64 (pl : Nat)) ∧ (X.setCell ⟨b, 5, none⟩ v).cell? ⟨w.heap.size, 2, none⟩ = some (.int .i64 (k : Nat)))
    rw [e, e, e]; exact hX
  have c5 : x3.cell? ⟨b, 5, none⟩ = some l.ptr := (HCELLS.out x3 HN3.out).2
  rw [huc] at c5 HC
  clear hk3 hy3
  refine wp_region_held_drew (S := fun W => (W.cell? ⟨w.heap.size, 0, none⟩ = some (.int .u64 (ph : Nat)) ∧ W.cell? ⟨w.heap.size, 1, none⟩ = some (.int .u64 (pl : Nat)) ∧ W.cell? ⟨w.heap.size, 2, none⟩ = some (.int .i64 (k : Nat)))) (by kernel_rfl) ?_ (fun hHeld => ?_)
  · exact HK8.out _ (Below.refl _ _).drew
  refine wpAnyH_take (i := 0) (oi := ⟨some 25, _, _, _, _, _⟩) (v := ?_) rfl (by kernel_rfl) (by kernel_rfl) (by kernel_rfl) (fun _ _ _ h => h) (Or.inl ⟨by rfl, ?_⟩) hHeld ?_
  rotate_left
  · intro w hSw
    (try dsimp only at hSw)
    go_simp
    try with_reducible rfl
  try simp only [Act.put, List.setIfInBounds_toArray, List.set_cons_zero, List.set_cons_succ]
  refine wpAnyH_take (i := 1) (oi := ⟨some 26, _, _, _, _, _⟩) (v := ?_) rfl (by kernel_rfl) (by kernel_rfl) (by kernel_rfl) (fun _ _ _ h => h) (Or.inl ⟨by rfl, ?_⟩) hHeld ?_
  rotate_left
  · intro w hSw
    (try dsimp only at hSw)
    go_simp
    try with_reducible rfl
  try simp only [Act.put, List.setIfInBounds_toArray, List.set_cons_zero, List.set_cons_succ]
  refine wpAnyH_take (i := 2) (oi := ⟨some 27, _, _, _, _, _⟩) (v := ?_) rfl (by kernel_rfl) (by kernel_rfl) (by kernel_rfl) (fun _ _ _ h => h) (Or.inl ⟨by rfl, ?_⟩) hHeld ?_
  rotate_left
  · intro w hSw
    (try dsimp only at hSw)
    go_simp
    try with_reducible rfl
  try simp only [Act.put, List.setIfInBounds_toArray, List.set_cons_zero, List.set_cons_succ]
  refine wpAnyH_take (i := 3) (oi := ⟨some 28, _, _, _, _, _⟩) (v := ?_) rfl (by kernel_rfl) (by kernel_rfl) (by kernel_rfl) (fun _ _ _ h => h) (Or.inl ⟨by rfl, ?_⟩) hHeld ?_
  rotate_left
  · intro w hSw
    (try dsimp only at hSw)
    go_simp
    try with_reducible rfl
  try simp only [Act.put, List.setIfInBounds_toArray, List.set_cons_zero, List.set_cons_succ]
  refine wpAnyH_take (i := 4) (oi := ⟨some 29, _, _, _, _, _⟩) (v := ?_) rfl (by kernel_rfl) (by kernel_rfl) (by kernel_rfl) (fun _ _ _ h => h) (Or.inl ⟨by rfl, ?_⟩) hHeld ?_
  rotate_left
  · intro w hSw
    (try dsimp only at hSw)
    go_simp
    try with_reducible rfl
  try simp only [Act.put, List.setIfInBounds_toArray, List.set_cons_zero, List.set_cons_succ]
  refine wpAnyH_take (i := 5) (oi := ⟨some 30, _, _, _, _, _⟩) (v := ?_) rfl (by kernel_rfl) (by kernel_rfl) (by kernel_rfl) (fun _ _ _ h => h) (Or.inl ⟨by rfl, ?_⟩) hHeld ?_
  rotate_left
  · intro w hSw
    (try dsimp only at hSw)
    go_simp
    try with_reducible rfl
  try simp only [Act.put, List.setIfInBounds_toArray, List.set_cons_zero, List.set_cons_succ]
  refine wpAnyH_take (i := 6) (oi := ⟨some 31, _, _, _, _, _⟩) (v := ?_) rfl (by kernel_rfl) (by kernel_rfl) (by kernel_rfl) (fun _ _ _ h => h) (Or.inl ⟨by rfl, ?_⟩) hHeld ?_
  rotate_left
  · intro w hSw
    (try dsimp only at hSw)
    go_simp
    try with_reducible rfl
  try simp only [Act.put, List.setIfInBounds_toArray, List.set_cons_zero, List.set_cons_succ]
  refine wpAnyH_take (i := 8) (oi := ⟨some 33, _, _, _, _, _⟩) (v := ?_) rfl (by kernel_rfl) (by kernel_rfl) (by kernel_rfl) (fun _ _ _ h => h) (Or.inl ⟨by rfl, ?_⟩) hHeld ?_
  rotate_left
  · intro w hSw
    (try dsimp only at hSw)
    go_simp
    try with_reducible rfl
  try simp only [Act.put, List.setIfInBounds_toArray, List.set_cons_zero, List.set_cons_succ]
  refine wpAnyH_take (i := 10) (oi := ⟨some 35, _, _, _, _, _⟩) (v := ?_) rfl (by kernel_rfl) (by kernel_rfl) (by kernel_rfl) (fun _ _ _ h => h) (Or.inl ⟨by rfl, ?_⟩) hHeld ?_
  rotate_left
  · intro w hSw
    (try dsimp only at hSw)
    go_simp
    try with_reducible rfl
  try simp only [Act.put, List.setIfInBounds_toArray, List.set_cons_zero, List.set_cons_succ]
  refine wpAnyH_take (i := 11) (oi := ⟨some 36, _, _, _, _, _⟩) (v := ?_) rfl (by kernel_rfl) (by kernel_rfl) (by kernel_rfl) (fun _ _ _ h => h) (Or.inl ⟨by rfl, ?_⟩) hHeld ?_
  rotate_left
  · intro w hSw
    (try dsimp only at hSw)
    go_simp
    try with_reducible rfl
  try simp only [Act.put, List.setIfInBounds_toArray, List.set_cons_zero, List.set_cons_succ]
  refine wpAnyH_ready (rs := [7]) (by kernel_rfl) (by simp) ?_
  refine AllReadyH.cons (o := ⟨some 32, _, _, _, _, _⟩) rfl (fun K hK => ?_) AllReadyH.nil
  go_simp
  refine hK.out _ _ ?_ (fun hHeld1 => ?_)
  · exact HK8.out _ (Below.refl _ _).drew
  clear hK K
  try simp only [Act.put, List.setIfInBounds_toArray, List.set_cons_zero, List.set_cons_succ]
  refine wpAnyH_ready (rs := [9]) (by kernel_rfl) (by simp) ?_
  refine AllReadyH.cons (o := ⟨some 34, _, _, _, _, _⟩) rfl (fun K hK => ?_) AllReadyH.nil
  go_simp
  go_at_call 54
  refine (HC.out _ (below_chain7 hx3 drew_o)).mono ?_
  rintro e x4 ⟨T', rfl, hw, ht⟩
  obtain ⟨hw2, hrow⟩ := HW.out _ _ hw
  have q5 := (node_cells hrow).2.2.2.1
  have g5 := frozen_row hrow 5
  obtain ⟨ut, hut⟩ := HT.ptr_form T'
  rw [hut] at hw2 ⊢
  (try go_wp2_with fail)
  refine hK.out _ _ ?_ (fun hHeld2 => ?_)
  · exact HK9.out _ _ hw
  clear hK K
  try simp only [Act.put, List.setIfInBounds_toArray, List.set_cons_zero, List.set_cons_succ]
  refine wpAnyH_take (i := 12) (oi := ⟨some 37, _, _, _, _, _⟩) (v := ?_) rfl (by kernel_rfl) (by kernel_rfl) (by kernel_rfl) (fun _ _ _ h => h) (Or.inl ⟨by rfl, ?_⟩) hHeld2 ?_
  rotate_left
  · intro w hSw
    (try dsimp only at hSw)
    go_simp
    try with_reducible rfl
  try simp only [Act.put, List.setIfInBounds_toArray, List.set_cons_zero, List.set_cons_succ]
  refine wpAnyH_ready (rs := [13]) (by kernel_rfl) (by simp) ?_
  refine AllReadyH.cons (o := ⟨none, _, _, _, _, _⟩) rfl (fun K hK => ?_) AllReadyH.nil
  go_simp
  refine hK.out _ _ ?_ (fun hHeld3 => ?_)
  · exact HKS.out _ (HK9.out _ _ hw)
  clear hK K
  try simp only [Act.put, List.setIfInBounds_toArray, List.set_cons_zero, List.set_cons_succ]
  refine wpAnyH_done (by kernel_rfl) ?_ _
  have HW5 := Lib.hid (hw2.before hx3 HIN.out)
  generalize x4.setCell ⟨b, 5, none⟩ (.pointer ut) = y at *
  obtain ⟨-, -, d4, d5, d6⟩ := node_cells HW5.out.lies.1
  obtain ⟨ul, hul⟩ := HT.ptr_form T'
  obtain ⟨ur, hur⟩ := HT.ptr_form r
  subst ht
  clear hw2 hw hrow q5 g5 hut c5 HC HK8 HK9 HKS HW HI3 HB3 HN3 HK1 HN1 HB1 HBT HCELLS HROW huc HIN HD HBX
  rcases join_cases h T' r with rfl | ⟨rfl, p, q, e1, e2⟩ | ⟨rfl, ⟨p, e1⟩, e2⟩ | ⟨rfl, e1⟩
  · have HZ := Lib.hid (pickA HW5.out)
    rw [hul] at d5
    rw [hur] at d6
    clear HW5 hul hur
    go_wp2
    go_ret
    exact HZ.out
  · have HZ := Lib.hid (pickB HW5.out e1 e2)
    rw [e1] at d5
    rw [e2] at d6
    clear HW5 e1 e2 hul hur
    go_wp2
    go_ret
    exact HZ.out
  · have HZ := Lib.hid (pickC HW5.out e1 e2)
    rw [e1] at d5
    rw [e2] at d6
    clear HW5 e1 e2 hul hur
    go_wp2
    go_ret
    exact HZ.out
  · have HZ := Lib.hid (pickD HW5.out e1 hur)
    rw [e1] at d5
    rw [hur] at d6
    clear HW5 e1 hul hur
    go_wp2
    go_ret
    exact HZ.out

set_option maxRecDepth 100000 in
set_option maxHeartbeats 8000000 in
theorem without_right (b W n P k : Nat) (u : Int) (h : Bool) (l r : HT) (tc : PT) (w : World) (hin : (HT.node b W n u h l r).In w) (hd : (HT.node b W n u h l r).blocks.Nodup) (hP : P < 2 ^ 128)
    (hne : ¬ (W = P ∧ n = k)) (hbit : bitZ P n = 1) (HC : Hid (∀ X, Below w.heap.size w X → Calls Tryz.prog 54 #[r.ptr, pfW P (k : Nat)] X (RetT X r tc))) :
    Calls Tryz.prog 54 #[(HT.node b W n u h l r).ptr, pfW P (k : Nat)] w (RetT w (.node b W n u h l r) (PT.join W n u h l.pt tc)) := by
  obtain ⟨wh, ewh⟩ : ∃ x, hiN W = x := ⟨_, rfl⟩
  obtain ⟨wl, ewl⟩ : ∃ x, loN W = x := ⟨_, rfl⟩
  obtain ⟨ph, eph⟩ : ∃ x, hiN P = x := ⟨_, rfl⟩
  obtain ⟨pl, epl⟩ : ∃ x, loN P = x := ⟨_, rfl⟩
  have hne2 : ((wh : Int) == ph && ((wl : Int) == pl && (n : Int) == k)) = false := by
    rw [Bool.eq_false_iff]
    intro g
    simp only [Bool.and_eq_true, beq_iff_eq] at g
    exact hne ⟨wide_inj (by rw [ewh, eph]; omega) (by rw [ewl, epl]; omega), by omega⟩
  have heq := eqPf wh wl n ph pl k
  rw [hne2] at heq
  have hg := eqPf_guard
  have HBT : Hid (∀ X, Calls Tryz.prog 23 #[.agg #[.int .u64 (ph : Nat), .int .u64 (pl : Nat), .int .i64 (k : Nat)], .int .i64 (n : Nat)] X fun e w' => e = .returned (.int .i64 1) ∧ Below X.heap.size X w') := fun X => by
    have := bit_any ph pl k n X (eph ▸ hiN_lt hP) (epl ▸ loN_lt P)
    rw [← eph, ← epl, wide_split, hbit] at this
    rw [← eph, ← epl]; exact this
  have HROW : Hid (w.heap[b]? = some (.cells #[.int .u64 (wh : Nat), .int .u64 (wl : Nat), .int .i64 (n : Nat), .int .i64 u, .bool h, l.ptr, r.ptr] 109)) := by
    have := hin.1; unfold rowOf at this; rw [ewh, ewl] at this; exact this
  have HIN := Lib.hid hin
  have HD := Lib.hid hd
  have hlt := block_lt hin.1
  have hbx : ∀ x ∈ (HT.node b W n u h l r).blocks, x < w.heap.size := HT.in_lt hin
  have HBX := Lib.hid hbx
  show Calls Tryz.prog 54 #[.pointer (some ⟨b, 0, none⟩), .agg #[.int .u64 (hiN P : Nat), .int .u64 (loN P : Nat), .int .i64 (k : Nat)]] w _
  have HC' : Hid (∀ X, Below w.heap.size w X → Calls Tryz.prog 54 #[r.ptr, .agg #[.int .u64 (ph : Nat), .int .u64 (pl : Nat), .int .i64 (k : Nat)]] X (RetT X r tc)) := by
    have := HC.out
    rw [show pfW P (k : Nat) = .agg #[.int .u64 (ph : Nat), .int .u64 (pl : Nat), .int .i64 (k : Nat)] from by unfold pfW pfV; rw [eph, epl]] at this
    exact this
  rw [eph, epl]
  clear HC
  have HC := Lib.hid HC'.out
  obtain ⟨uc, huc⟩ := HT.ptr_form r
  have hcells : ∀ X : World, X.heap[b]? = some (.cells #[.int .u64 (wh : Nat), .int .u64 (wl : Nat), .int .i64 (n : Nat), .int .i64 u, .bool h, l.ptr, r.ptr] 109) → (X.cell? ⟨b, 0, none⟩ = some (.int .u64 (wh : Nat)) ∧ X.cell? ⟨b, 1, none⟩ = some (.int .u64 (wl : Nat)) ∧ X.cell? ⟨b, 2, none⟩ = some (.int .i64 (n : Nat))) ∧ X.cell? ⟨b, 6, none⟩ = some r.ptr := fun X hX => ⟨⟨cell_row hX 0, cell_row hX 1, cell_row hX 2⟩, cell_row hX 6⟩
  have HCELLS := Lib.hid hcells
  obtain ⟨⟨c0, c1, c2⟩, c5⟩ := hcells w HROW.out
  clear hin hd ewh ewl eph epl hne hne2 hbit hbx hP hcells HC'
  go_enter Tryz.func54, Tryz.ntmps54
  go_wp2
  go_quiet (fail)
  go_wp2
  have hx1 : Below w.heap.size w ((w.alloc (.cells #[.int .u64 (ph : Nat), .int .u64 (pl : Nat), .int .i64 (k : Nat)] 24)).drewN nq) := ((Below.refl _ _).alloc (Nat.le_refl _) _).trans drew_n
  have HB1 : Hid (((w.alloc (.cells #[.int .u64 (ph : Nat), .int .u64 (pl : Nat), .int .i64 (k : Nat)] 24)).drewN nq).heap[w.heap.size]? = some (.cells #[.int .u64 (ph : Nat), .int .u64 (pl : Nat), .int .i64 (k : Nat)] 24)) := Go.Deep.blk_alloc_new _ _
  generalize (w.alloc (.cells #[.int .u64 (ph : Nat), .int .u64 (pl : Nat), .int .i64 (k : Nat)] 24)).drewN nq = x1 at *
  have HN1 : Hid (x1.heap[b]? = _) := (hx1.block b hlt).trans HROW.out
  have HK1 : Hid (∀ X, Below x1.heap.size x1 X → (fun W => (W.cell? ⟨b, 0, none⟩ = some (.int .u64 (wh : Nat)) ∧ W.cell? ⟨b, 1, none⟩ = some (.int .u64 (wl : Nat)) ∧ W.cell? ⟨b, 2, none⟩ = some (.int .i64 (n : Nat))) ∧ (W.cell? ⟨w.heap.size, 0, none⟩ = some (.int .u64 (ph : Nat)) ∧ W.cell? ⟨w.heap.size, 1, none⟩ = some (.int .u64 (pl : Nat)) ∧ W.cell? ⟨w.heap.size, 2, none⟩ = some (.int .i64 (k : Nat)))) X) := fun X hX =>
    ⟨(HCELLS.out X ((hX.block b (block_lt HN1.out)).trans HN1.out)).1, (row3 ((hX.block w.heap.size (block_lt HB1.out)).trans HB1.out)).1⟩
  clear c0 c1 c2 c5
  go_region_held3 (fun W => (W.cell? ⟨b, 0, none⟩ = some (.int .u64 (wh : Nat)) ∧ W.cell? ⟨b, 1, none⟩ = some (.int .u64 (wl : Nat)) ∧ W.cell? ⟨b, 2, none⟩ = some (.int .i64 (n : Nat))) ∧ (W.cell? ⟨w.heap.size, 0, none⟩ = some (.int .u64 (ph : Nat)) ∧ W.cell? ⟨w.heap.size, 1, none⟩ = some (.int .u64 (pl : Nat)) ∧ W.cell? ⟨w.heap.size, 2, none⟩ = some (.int .i64 (k : Nat))))
    (first | exact HK1.out _ (Below.refl _ _).drew | exact HK1.out _ (drew_c hy3))
    (first
      | (go_simp; go_at_call 23; ((with_reducible refine (HBT.out _).mono ?_); rintro e x3 ⟨rfl, hy3⟩)))
  go_wp2
  have hk3 : Below x1.heap.size x1 x3 := drew_c hy3
  have hx3 : Below w.heap.size w x3 := below_chain7 hx1 hk3
  have HN3 : Hid (x3.heap[b]? = _) := (hk3.block b (block_lt HN1.out)).trans HN1.out
  have HB3 : Hid (x3.heap[w.heap.size]? = _) := (hk3.block w.heap.size (block_lt HB1.out)).trans HB1.out
  have HK8 : Hid (∀ X, Below x3.heap.size x3 X → (fun W => (W.cell? ⟨w.heap.size, 0, none⟩ = some (.int .u64 (ph : Nat)) ∧ W.cell? ⟨w.heap.size, 1, none⟩ = some (.int .u64 (pl : Nat)) ∧ W.cell? ⟨w.heap.size, 2, none⟩ = some (.int .i64 (k : Nat)))) X) := fun X hX => (row3 ((hX.block w.heap.size (block_lt HB3.out)).trans HB3.out)).1
  have HI3 : Hid ((HT.node b W n u h l r).In x3) := HT.in_below HIN.out hx3
  have HW : Hid (∀ X T', Wrote x3.drew X r T' → Wrote x3 (X.setCell ⟨b, 6, none⟩ T'.ptr) (.node b W n u h l r) (.node b W n u h l T') ∧ X.heap[b]? = some (.cells (rowOf W n u h l.ptr r.ptr) 109)) := fun X T' hw =>
    wrote_right HI3.out HD.out (hw.before (Below.refl _ _).drew (HI3.out.2.2.2))
  have HK9 : Hid (∀ X T', Wrote x3.drew X r T' → (fun W => (W.cell? ⟨w.heap.size, 0, none⟩ = some (.int .u64 (ph : Nat)) ∧ W.cell? ⟨w.heap.size, 1, none⟩ = some (.int .u64 (pl : Nat)) ∧ W.cell? ⟨w.heap.size, 2, none⟩ = some (.int .i64 (k : Nat)))) X) := fun X T' hw =>
    (row3 ((hw.only.block w.heap.size (block_lt HB3.out) (fun g => Nat.lt_irrefl _ (HBX.out _ (List.mem_cons_of_mem _ (List.mem_append_right _ g))))).trans HB3.out)).1
  have HKS : Hid (∀ (X : World) {v : Value}, (fun W => (W.cell? ⟨w.heap.size, 0, none⟩ = some (.int .u64 (ph : Nat)) ∧ W.cell? ⟨w.heap.size, 1, none⟩ = some (.int .u64 (pl : Nat)) ∧ W.cell? ⟨w.heap.size, 2, none⟩ = some (.int .i64 (k : Nat)))) X → (fun W => (W.cell? ⟨w.heap.size, 0, none⟩ = some (.int .u64 (ph : Nat)) ∧ W.cell? ⟨w.heap.size, 1, none⟩ = some (.int .u64 (pl : Nat)) ∧ W.cell? ⟨w.heap.size, 2, none⟩ = some (.int .i64 (k : Nat)))) (X.setCell ⟨b, 6, none⟩ v)) := fun X v hX => by
    have e : ∀ i, (X.setCell ⟨b, 6, none⟩ v).cell? ⟨w.heap.size, i, none⟩ = X.cell? ⟨w.heap.size, i, none⟩ := fun i => World.cell?_of_block (w := X) (set_other (by show w.heap.size ≠ b; omega) _ _)
    show ((X.setCell ⟨b, 6, none⟩ v).cell? ⟨w.heap.size, 0, none⟩ = some (.int .u64 (ph : Nat)) ∧ (X.setCell ⟨b, 6, none⟩ v).cell? ⟨w.heap.size, 1, none⟩ = some (.int .u64 (pl : Nat)) ∧ (X.setCell ⟨b, 6, none⟩ v).cell? ⟨w.heap.size, 2, none⟩ = some (.int .i64 (k : Nat)))
    rw [e, e, e]; exact hX
  have c5 : x3.cell? ⟨b, 6, none⟩ = some r.ptr := (HCELLS.out x3 HN3.out).2
  rw [huc] at c5 HC
  clear hk3 hy3
  refine wp_region_held_drew (S := fun W => (W.cell? ⟨w.heap.size, 0, none⟩ = some (.int .u64 (ph : Nat)) ∧ W.cell? ⟨w.heap.size, 1, none⟩ = some (.int .u64 (pl : Nat)) ∧ W.cell? ⟨w.heap.size, 2, none⟩ = some (.int .i64 (k : Nat)))) (by kernel_rfl) ?_ (fun hHeld => ?_)
  · exact HK8.out _ (Below.refl _ _).drew
  refine wpAnyH_take (i := 0) (oi := ⟨some 25, _, _, _, _, _⟩) (v := ?_) rfl (by kernel_rfl) (by kernel_rfl) (by kernel_rfl) (fun _ _ _ h => h) (Or.inl ⟨by rfl, ?_⟩) hHeld ?_
  rotate_left
  · intro w hSw
    (try dsimp only at hSw)
    go_simp
    try with_reducible rfl
  try simp only [Act.put, List.setIfInBounds_toArray, List.set_cons_zero, List.set_cons_succ]
  refine wpAnyH_take (i := 1) (oi := ⟨some 26, _, _, _, _, _⟩) (v := ?_) rfl (by kernel_rfl) (by kernel_rfl) (by kernel_rfl) (fun _ _ _ h => h) (Or.inl ⟨by rfl, ?_⟩) hHeld ?_
  rotate_left
  · intro w hSw
    (try dsimp only at hSw)
    go_simp
    try with_reducible rfl
  try simp only [Act.put, List.setIfInBounds_toArray, List.set_cons_zero, List.set_cons_succ]
  refine wpAnyH_take (i := 2) (oi := ⟨some 27, _, _, _, _, _⟩) (v := ?_) rfl (by kernel_rfl) (by kernel_rfl) (by kernel_rfl) (fun _ _ _ h => h) (Or.inl ⟨by rfl, ?_⟩) hHeld ?_
  rotate_left
  · intro w hSw
    (try dsimp only at hSw)
    go_simp
    try with_reducible rfl
  try simp only [Act.put, List.setIfInBounds_toArray, List.set_cons_zero, List.set_cons_succ]
  refine wpAnyH_take (i := 3) (oi := ⟨some 28, _, _, _, _, _⟩) (v := ?_) rfl (by kernel_rfl) (by kernel_rfl) (by kernel_rfl) (fun _ _ _ h => h) (Or.inl ⟨by rfl, ?_⟩) hHeld ?_
  rotate_left
  · intro w hSw
    (try dsimp only at hSw)
    go_simp
    try with_reducible rfl
  try simp only [Act.put, List.setIfInBounds_toArray, List.set_cons_zero, List.set_cons_succ]
  refine wpAnyH_take (i := 4) (oi := ⟨some 29, _, _, _, _, _⟩) (v := ?_) rfl (by kernel_rfl) (by kernel_rfl) (by kernel_rfl) (fun _ _ _ h => h) (Or.inl ⟨by rfl, ?_⟩) hHeld ?_
  rotate_left
  · intro w hSw
    (try dsimp only at hSw)
    go_simp
    try with_reducible rfl
  try simp only [Act.put, List.setIfInBounds_toArray, List.set_cons_zero, List.set_cons_succ]
  refine wpAnyH_take (i := 5) (oi := ⟨some 30, _, _, _, _, _⟩) (v := ?_) rfl (by kernel_rfl) (by kernel_rfl) (by kernel_rfl) (fun _ _ _ h => h) (Or.inl ⟨by rfl, ?_⟩) hHeld ?_
  rotate_left
  · intro w hSw
    (try dsimp only at hSw)
    go_simp
    try with_reducible rfl
  try simp only [Act.put, List.setIfInBounds_toArray, List.set_cons_zero, List.set_cons_succ]
  refine wpAnyH_take (i := 6) (oi := ⟨some 31, _, _, _, _, _⟩) (v := ?_) rfl (by kernel_rfl) (by kernel_rfl) (by kernel_rfl) (fun _ _ _ h => h) (Or.inl ⟨by rfl, ?_⟩) hHeld ?_
  rotate_left
  · intro w hSw
    (try dsimp only at hSw)
    go_simp
    try with_reducible rfl
  try simp only [Act.put, List.setIfInBounds_toArray, List.set_cons_zero, List.set_cons_succ]
  refine wpAnyH_take (i := 8) (oi := ⟨some 33, _, _, _, _, _⟩) (v := ?_) rfl (by kernel_rfl) (by kernel_rfl) (by kernel_rfl) (fun _ _ _ h => h) (Or.inl ⟨by rfl, ?_⟩) hHeld ?_
  rotate_left
  · intro w hSw
    (try dsimp only at hSw)
    go_simp
    try with_reducible rfl
  try simp only [Act.put, List.setIfInBounds_toArray, List.set_cons_zero, List.set_cons_succ]
  refine wpAnyH_take (i := 10) (oi := ⟨some 35, _, _, _, _, _⟩) (v := ?_) rfl (by kernel_rfl) (by kernel_rfl) (by kernel_rfl) (fun _ _ _ h => h) (Or.inl ⟨by rfl, ?_⟩) hHeld ?_
  rotate_left
  · intro w hSw
    (try dsimp only at hSw)
    go_simp
    try with_reducible rfl
  try simp only [Act.put, List.setIfInBounds_toArray, List.set_cons_zero, List.set_cons_succ]
  refine wpAnyH_take (i := 11) (oi := ⟨some 36, _, _, _, _, _⟩) (v := ?_) rfl (by kernel_rfl) (by kernel_rfl) (by kernel_rfl) (fun _ _ _ h => h) (Or.inl ⟨by rfl, ?_⟩) hHeld ?_
  rotate_left
  · intro w hSw
    (try dsimp only at hSw)
    go_simp
    try with_reducible rfl
  try simp only [Act.put, List.setIfInBounds_toArray, List.set_cons_zero, List.set_cons_succ]
  refine wpAnyH_ready (rs := [7]) (by kernel_rfl) (by simp) ?_
  refine AllReadyH.cons (o := ⟨some 32, _, _, _, _, _⟩) rfl (fun K hK => ?_) AllReadyH.nil
  go_simp
  refine hK.out _ _ ?_ (fun hHeld1 => ?_)
  · exact HK8.out _ (Below.refl _ _).drew
  clear hK K
  try simp only [Act.put, List.setIfInBounds_toArray, List.set_cons_zero, List.set_cons_succ]
  refine wpAnyH_ready (rs := [9]) (by kernel_rfl) (by simp) ?_
  refine AllReadyH.cons (o := ⟨some 34, _, _, _, _, _⟩) rfl (fun K hK => ?_) AllReadyH.nil
  go_simp
  go_at_call 54
  refine (HC.out _ (below_chain7 hx3 drew_o)).mono ?_
  rintro e x4 ⟨T', rfl, hw, ht⟩
  obtain ⟨hw2, hrow⟩ := HW.out _ _ hw
  have q5 := (node_cells hrow).2.2.2.2
  have g5 := frozen_row hrow 6
  obtain ⟨ut, hut⟩ := HT.ptr_form T'
  rw [hut] at hw2 ⊢
  (try go_wp2_with fail)
  refine hK.out _ _ ?_ (fun hHeld2 => ?_)
  · exact HK9.out _ _ hw
  clear hK K
  try simp only [Act.put, List.setIfInBounds_toArray, List.set_cons_zero, List.set_cons_succ]
  refine wpAnyH_take (i := 12) (oi := ⟨some 37, _, _, _, _, _⟩) (v := ?_) rfl (by kernel_rfl) (by kernel_rfl) (by kernel_rfl) (fun _ _ _ h => h) (Or.inl ⟨by rfl, ?_⟩) hHeld2 ?_
  rotate_left
  · intro w hSw
    (try dsimp only at hSw)
    go_simp
    try with_reducible rfl
  try simp only [Act.put, List.setIfInBounds_toArray, List.set_cons_zero, List.set_cons_succ]
  refine wpAnyH_ready (rs := [13]) (by kernel_rfl) (by simp) ?_
  refine AllReadyH.cons (o := ⟨none, _, _, _, _, _⟩) rfl (fun K hK => ?_) AllReadyH.nil
  go_simp
  refine hK.out _ _ ?_ (fun hHeld3 => ?_)
  · exact HKS.out _ (HK9.out _ _ hw)
  clear hK K
  try simp only [Act.put, List.setIfInBounds_toArray, List.set_cons_zero, List.set_cons_succ]
  refine wpAnyH_done (by kernel_rfl) ?_ _
  have HW5 := Lib.hid (hw2.before hx3 HIN.out)
  generalize x4.setCell ⟨b, 6, none⟩ (.pointer ut) = y at *
  obtain ⟨-, -, d4, d5, d6⟩ := node_cells HW5.out.lies.1
  obtain ⟨ul, hul⟩ := HT.ptr_form l
  obtain ⟨ur, hur⟩ := HT.ptr_form T'
  subst ht
  clear hw2 hw hrow q5 g5 hut c5 HC HK8 HK9 HKS HW HI3 HB3 HN3 HK1 HN1 HB1 HBT HCELLS HROW huc HIN HD HBX
  rcases join_cases h l T' with rfl | ⟨rfl, p, q, e1, e2⟩ | ⟨rfl, ⟨p, e1⟩, e2⟩ | ⟨rfl, e1⟩
  · have HZ := Lib.hid (pickA HW5.out)
    rw [hul] at d5
    rw [hur] at d6
    clear HW5 hul hur
    go_wp2
    go_ret
    exact HZ.out
  · have HZ := Lib.hid (pickB HW5.out e1 e2)
    rw [e1] at d5
    rw [e2] at d6
    clear HW5 e1 e2 hul hur
    go_wp2
    go_ret
    exact HZ.out
  · have HZ := Lib.hid (pickC HW5.out e1 e2)
    rw [e1] at d5
    rw [e2] at d6
    clear HW5 e1 e2 hul hur
    go_wp2
    go_ret
    exact HZ.out
  · have HZ := Lib.hid (pickD HW5.out e1 hur)
    rw [e1] at d5
    rw [hur] at d6
    clear HW5 e1 hul hur
    go_wp2
    go_ret
    exact HZ.out

theorem without_any (P k : Nat) (hP : P < 2 ^ 128) (v : Int) : ∀ (T : HT) (w : World), T.In w → T.blocks.Nodup → T.pt.get P k = some v →
    Calls Tryz.prog 54 #[T.ptr, pfW P (k : Nat)] w (RetT w T (T.pt.drop P k))
  | .nil, w, _, _, hg => by cases hg
  | .node b W n u h l r, w, hin, hd, hg => by
    obtain ⟨d1, d2, d3, d4, d5⟩ := nodup_node hd
    show Calls Tryz.prog 54 #[(HT.node b W n u h l r).ptr, pfW P (k : Nat)] w (RetT w _ ((PT.node W n u h l.pt r.pt).drop P k))
    have hg' : (PT.node W n u h l.pt r.pt).get P k = some v := hg
    unfold PT.get at hg'
    unfold PT.drop
    by_cases e : W = P ∧ n = k
    · rw [if_pos e]
      obtain ⟨rfl, rfl⟩ := e
      exact without_own b W n u h l r w hin hd
    rw [if_neg e]
    rw [if_neg (by omega)] at hg'
    by_cases c : coversB W n P k = true
    · rw [if_pos c] at hg'
      rcases bitZ_two P n with b0 | b0
      · rw [if_pos b0] at hg' ⊢
        exact without_left b W n P k u h l r _ w hin hd hP e b0 (fun X hX => without_any P k hP v l X (HT.in_below hin.2.2.1 hX) d3 hg')
      · rw [if_neg (by omega)] at hg' ⊢
        exact without_right b W n P k u h l r _ w hin hd hP e b0 (fun X hX => without_any P k hP v r X (HT.in_below hin.2.2.2 hX) d4 hg')
    · rw [if_neg c] at hg'; cases hg'
end Go.Proofs.YthdcldkcmnpkiaaGreatDoor
