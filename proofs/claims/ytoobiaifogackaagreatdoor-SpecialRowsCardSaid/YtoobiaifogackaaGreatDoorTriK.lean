/-
  Layer 8: tries in memory; Get: what it comes to.
-/
import Derived.Test.YtoobiaifogackaaGreatDoorTriJ
namespace Go.Proofs.YtoobiaifogackaaGreatDoor
open Go.RowKit


theorem neqPf_guard (u v : Array Value) : ∀ (p q : Operand) (W : World), (eqGuard .neq 37 p q (.agg u) (.agg v)).run Tryz.prog W = .ok () W := by
  intro p q W; kernel_rfl
theorem neqPf (a b c a' b' c' : Int) : ∀ W : World, (binOp .neq 37 (.agg #[.int .u64 a, .int .u64 b, .int .i64 c]) (.agg #[.int .u64 a', .int .u64 b', .int .i64 c'])).run Tryz.prog W = .ok (.bool (!(a == a' && (b == b' && c == c')))) W := by
  intro W
  have e1 : (Op.equal 37 (.agg #[.int .u64 a, .int .u64 b, .int .i64 c]) (.agg #[.int .u64 a', .int .u64 b', .int .i64 c'])).run Tryz.prog W = .ok (a == a' && (b == b' && c == c')) W := by
    show (Op.equalIn 10000 37 _ _).run Tryz.prog W = _
    rw [run_equalIn_struct W 9999 37 _ _ (by kernel_rfl) (by kernel_rfl)]
    simp [Program.fieldsOf, Tryz.underlying37, Op.eqFields, go_sem, part, Tryz.sizeOf22, Tryz.isAgg22, Tryz.underlying22, Tryz.sizeOf3, Tryz.isAgg3, Tryz.underlying3]
    by_cases g1 : a = a' <;> by_cases g2 : b = b' <;> by_cases g3 : c = c' <;> simp [g1, g2, g3]
  show ((Op.equal _ _ _ >>= fun b => pure (Value.bool (!b))) : Sem Value).run _ _ = _
  rw [Sem.run_bind, e1]; rfl

/-- a trie in memory: its own block, and its tree -/
structure IsTrie (w : World) (g : Nat) (T : HT) : Prop where
  own : w.heap[g]? = some (.cells #[T.ptr, .int .i64 (T.pt.list.length : Nat)] 109)
  lies : T.In w
  once : (g :: T.blocks).Nodup
  inv : T.pt.Inv 0 0
def HT.size : HT → Nat
  | .nil => 0
  | .node _ _ _ _ _ l r => l.size + r.size + 1
def RetG (w : World) (x : Option Int) (e : Ending) (w' : World) : Prop := e = .returned (.tuple #[.int .i64 (x.getD 0), .bool x.isSome]) ∧ Below w.heap.size w w'

set_option maxRecDepth 100000 in
set_option maxHeartbeats 8000000 in
theorem get_any (g : Nat) (T : HT) (hi lo : Nat) (k : Int) (w : World) (ht : IsTrie w g T) (h1 : hi < 18446744073709551616) (h2 : lo < 18446744073709551616) :
    Calls Tryz.prog 84 #[.pointer (some ⟨g, 0, none⟩), .agg #[.int .u64 (hi : Nat), .int .u64 (lo : Nat), .int .i64 k]] w (RetG w (T.pt.get (wideN hi lo) k)) := by
  obtain ⟨x, hx⟩ : ∃ x, T.pt.get (wideN hi lo) k = x := ⟨_, rfl⟩
  rw [hx]
  have HX := Lib.hid hx
  have HTIN := Lib.hid ht.lies
  have g0 : w.cell? ⟨g, 0, none⟩ = some T.ptr := cell_row ht.own 0
  have hgl := block_lt ht.own
  obtain ⟨uT, huT⟩ := HT.ptr_form T
  have HUT := Lib.hid huT
  rw [huT] at g0
  clear ht hx huT
  go_enter Tryz.func84, Tryz.ntmps84
  go_wp2
  go_loopg [6] (T.size) (fun gk p wr => ∃ T' : HT, p = T'.ptr ∧ T'.size = gk ∧ Below w.heap.size w wr ∧ Hid (wr.heap[w.heap.size]? = some (.cells #[.int .u64 (hi : Nat), .int .u64 (lo : Nat), .int .i64 k] 37)) ∧ Hid (T'.In wr) ∧ Hid (T'.pt.get (wideN hi lo) k = x))
  case atStart => exact ⟨T, HUT.out.symm, rfl, (Below.refl _ _).alloc (Nat.le_refl _) _, Go.Deep.blk_alloc_new _ _, HT.in_below HTIN.out ((Below.refl _ _).alloc (Nat.le_refl _) _), HX.out⟩
  case round =>
    clear g0 hgl HTIN HUT HX
    obtain ⟨T', rfl, rfl, hc, HB, HI, HG⟩ := hrel
    obtain ⟨p0, p1, p2⟩ := (row3 HB.out).1
    cases T' with
    | nil =>
      have HE : Hid (x = none) := HG.out.symm
      simp only [HT.ptr]
      go_wp2
      go_quiet (fail)
      go_wp2
      go_quiet (fail)
      go_wp2
      go_ret2
      exact ⟨by rw [HE.out]; rfl, (by first | exact hc.trans drew_n | exact (hc.trans drew_n).trans drew_n)⟩
    | node b W n u h l r =>
      have hok := HI.out.2.1
      obtain ⟨wh, ewh⟩ : ∃ y, hiN W = y := ⟨_, rfl⟩
      obtain ⟨wl, ewl⟩ : ∃ y, loN W = y := ⟨_, rfl⟩
      obtain ⟨⟨c0, c1, c2⟩, c3, c4, c5, c6⟩ := node_cells HI.out.1
      rw [ewh] at c0
      rw [ewl] at c1
      have bw1 : wh < 18446744073709551616 := ewh ▸ hiN_lt hok.1
      have bw2 : wl < 18446744073709551616 := ewl ▸ loN_lt W
      have hWw : wideN wh wl = W := by rw [← ewh, ← ewl, wide_split]
      have hGe : (if W = wideN hi lo ∧ (n : Int) = k then (if h = true then some u else none) else if coversB W n (wideN hi lo) k = true then (if bitZ (wideN hi lo) n = 0 then l.pt.get (wideN hi lo) k else r.pt.get (wideN hi lo) k) else none) = x := HG.out
      by_cases e : W = wideN hi lo ∧ (n : Int) = k
      · have ev : ((wh : Int) == hi && ((wl : Int) == lo && (n : Int) == k)) = true := by
          obtain ⟨q1, q2⟩ := e
          rw [q1, hiN_wide h2] at ewh
          rw [q1, loN_wide h2] at ewl
          simp only [Bool.and_eq_true, beq_iff_eq]
          exact ⟨by omega, by omega, q2⟩
        have hne := neqPf wh wl n hi lo k
        rw [ev] at hne
        simp only [Bool.not_true] at hne
        have hg := neqPf_guard
        rw [if_pos e] at hGe
        have HE := Lib.hid hGe
        clear hGe e ewh ewl ev hok hWw
        simp only [HT.ptr]
        cases h with
        | true =>
          go_wp2
          go_quiet (fail)
          go_wp2
          go_quiet (fail)
          go_wp2
          go_ret2
          exact ⟨by rw [← HE.out]; rfl, (by first | exact hc.trans drew_n | exact (hc.trans drew_n).trans drew_n)⟩
        | false =>
          go_wp2
          go_quiet (fail)
          go_wp2
          go_quiet (fail)
          go_wp2
          go_ret2
          exact ⟨by rw [← HE.out]; rfl, (by first | exact hc.trans drew_n | exact (hc.trans drew_n).trans drew_n)⟩
      · have ev : ((wh : Int) == hi && ((wl : Int) == lo && (n : Int) == k)) = false := by
          rw [Bool.eq_false_iff]
          intro q
          simp only [Bool.and_eq_true, beq_iff_eq] at q
          exact e ⟨by rw [← hWw, show wh = hi from by omega, show wl = lo from by omega], q.2.2⟩
        have hne := neqPf wh wl n hi lo k
        rw [ev] at hne
        simp only [Bool.not_false] at hne
        have hg := neqPf_guard
        rw [if_neg e] at hGe
        obtain ⟨ul, hul⟩ := HT.ptr_form l
        obtain ⟨ur, hur⟩ := HT.ptr_form r
        have HUL := Lib.hid hul
        have HUR := Lib.hid hur
        rw [hul] at c5
        rw [hur] at c6
        have HK : Hid (∀ X, Below wr.heap.size wr X → (fun W => ((W.cell? ⟨b, 0, none⟩ = some (.int .u64 (wh : Nat)) ∧ W.cell? ⟨b, 1, none⟩ = some (.int .u64 (wl : Nat)) ∧ W.cell? ⟨b, 2, none⟩ = some (.int .i64 (n : Nat))) ∧ W.cell? ⟨b, 5, none⟩ = some (.pointer ul) ∧ W.cell? ⟨b, 6, none⟩ = some (.pointer ur)) ∧ (W.cell? ⟨w.heap.size, 0, none⟩ = some (.int .u64 (hi : Nat)) ∧ W.cell? ⟨w.heap.size, 1, none⟩ = some (.int .u64 (lo : Nat)) ∧ W.cell? ⟨w.heap.size, 2, none⟩ = some (.int .i64 k))) X) := fun X hX => by
          have hr1 := (hX.block b (block_lt HI.out.1)).trans HI.out.1
          obtain ⟨⟨q0, q1, q2⟩, q3, q4, q5, q6⟩ := node_cells hr1
          rw [ewh] at q0
          rw [ewl] at q1
          rw [hul] at q5
          rw [hur] at q6
          exact ⟨⟨⟨q0, q1, q2⟩, q5, q6⟩, (row3 ((hX.block w.heap.size (block_lt HB.out)).trans HB.out)).1⟩
        have HCV : Hid (∀ X, Calls Tryz.prog 109 #[.agg #[.int .u64 (wh : Nat), .int .u64 (wl : Nat), .int .i64 (n : Nat)], .agg #[.int .u64 (hi : Nat), .int .u64 (lo : Nat), .int .i64 k]] X fun e w' => e = .returned (.bool (coversB W n (wideN hi lo) k)) ∧ Below X.heap.size X w') := fun X => by
          have := covers_any wh wl hi lo n k X bw1 bw2 h1 h2; rwa [hWw] at this
        have HBT : Hid (∀ X, Calls Tryz.prog 53 #[.agg #[.int .u64 (hi : Nat), .int .u64 (lo : Nat), .int .i64 k], .int .i64 (n : Nat)] X fun e w' => e = .returned (.int .i64 (bitZ (wideN hi lo) n)) ∧ Below X.heap.size X w') := fun X => bit_any hi lo k n X h1 h2
        have hb2 := bitZ_two (wideN hi lo) n
        clear e ewh ewl ev hok hWw hul hur
        simp only [HT.ptr]
        cases hcv : coversB W n (wideN hi lo) k with
        | false =>
          rw [hcv] at HCV hGe
          have HE : Hid (x = none) := by rw [if_neg (by simp)] at hGe; exact hGe.symm
          clear hGe hcv hb2
          go_wp2
          go_region_held3 (fun W => ((W.cell? ⟨b, 0, none⟩ = some (.int .u64 (wh : Nat)) ∧ W.cell? ⟨b, 1, none⟩ = some (.int .u64 (wl : Nat)) ∧ W.cell? ⟨b, 2, none⟩ = some (.int .i64 (n : Nat))) ∧ W.cell? ⟨b, 5, none⟩ = some (.pointer ul) ∧ W.cell? ⟨b, 6, none⟩ = some (.pointer ur)) ∧ (W.cell? ⟨w.heap.size, 0, none⟩ = some (.int .u64 (hi : Nat)) ∧ W.cell? ⟨w.heap.size, 1, none⟩ = some (.int .u64 (lo : Nat)) ∧ W.cell? ⟨w.heap.size, 2, none⟩ = some (.int .i64 k)))
            (first | exact HK.out _ (Below.refl _ _).drew | exact HK.out _ (drew_c hy1))
            (first | (go_simp; go_at_call 109; ((with_reducible refine (HCV.out _).mono ?_); rintro e x1 ⟨rfl, hy1⟩)))
          clear p0 p1 p2 c0 c1 c2 c3 c4 c5 c6
          have hc1 := hc.trans ((drew_c hy1).mono hc.size)
          obtain ⟨⟨⟨c0, c1, c2⟩, c5, c6⟩, p0, p1, p2⟩ := HK.out _ (drew_c hy1)
          go_wp2
          go_quiet (fail)
          go_wp2
          go_ret2
          exact ⟨by rw [HE.out]; rfl, hc1.trans drew_n⟩
        | true =>
          rw [hcv] at HCV hGe
          rw [if_pos rfl] at hGe
          clear hcv
          rcases hb2 with hb2 | hb2
          · rw [hb2] at HBT
            rw [if_pos hb2] at hGe
            have HE := Lib.hid hGe
            clear hGe hb2
            go_wp2
            go_region_held3 (fun W => ((W.cell? ⟨b, 0, none⟩ = some (.int .u64 (wh : Nat)) ∧ W.cell? ⟨b, 1, none⟩ = some (.int .u64 (wl : Nat)) ∧ W.cell? ⟨b, 2, none⟩ = some (.int .i64 (n : Nat))) ∧ W.cell? ⟨b, 5, none⟩ = some (.pointer ul) ∧ W.cell? ⟨b, 6, none⟩ = some (.pointer ur)) ∧ (W.cell? ⟨w.heap.size, 0, none⟩ = some (.int .u64 (hi : Nat)) ∧ W.cell? ⟨w.heap.size, 1, none⟩ = some (.int .u64 (lo : Nat)) ∧ W.cell? ⟨w.heap.size, 2, none⟩ = some (.int .i64 k)))
              (first | exact HK.out _ (Below.refl _ _).drew | exact HK.out _ (drew_c hy1))
              (first | (go_simp; go_at_call 109; ((with_reducible refine (HCV.out _).mono ?_); rintro e x1 ⟨rfl, hy1⟩)))
            clear p0 p1 p2 c0 c1 c2 c3 c4 c5 c6
            have hk1 := drew_c hy1
            clear hy1
            go_wp2
            go_region_held3 (fun W => ((W.cell? ⟨b, 0, none⟩ = some (.int .u64 (wh : Nat)) ∧ W.cell? ⟨b, 1, none⟩ = some (.int .u64 (wl : Nat)) ∧ W.cell? ⟨b, 2, none⟩ = some (.int .i64 (n : Nat))) ∧ W.cell? ⟨b, 5, none⟩ = some (.pointer ul) ∧ W.cell? ⟨b, 6, none⟩ = some (.pointer ur)) ∧ (W.cell? ⟨w.heap.size, 0, none⟩ = some (.int .u64 (hi : Nat)) ∧ W.cell? ⟨w.heap.size, 1, none⟩ = some (.int .u64 (lo : Nat)) ∧ W.cell? ⟨w.heap.size, 2, none⟩ = some (.int .i64 k)))
              (first | exact HK.out _ hk1.drew | exact HK.out _ (below_chain7 hk1 (drew_c hy2)))
              (first | (go_simp; go_at_call 53; ((with_reducible refine (HBT.out _).mono ?_); rintro e x2 ⟨rfl, hy2⟩)))
            have hk2 := below_chain7 hk1 (drew_c hy2)
            have hc2 := hc.trans (hk2.mono hc.size)
            go_wp2
            go_roundg l.size
            case measure => show l.size < l.size + r.size + 1; omega
            case rel => exact ⟨l, HUL.out.symm, rfl, hc2, (hk2.block _ (block_lt HB.out)).trans HB.out, HT.in_below HI.out.2.2.1 hk2, HE.out⟩
          · rw [hb2] at HBT
            rw [if_neg (by omega)] at hGe
            have HE := Lib.hid hGe
            clear hGe hb2
            go_wp2
            go_region_held3 (fun W => ((W.cell? ⟨b, 0, none⟩ = some (.int .u64 (wh : Nat)) ∧ W.cell? ⟨b, 1, none⟩ = some (.int .u64 (wl : Nat)) ∧ W.cell? ⟨b, 2, none⟩ = some (.int .i64 (n : Nat))) ∧ W.cell? ⟨b, 5, none⟩ = some (.pointer ul) ∧ W.cell? ⟨b, 6, none⟩ = some (.pointer ur)) ∧ (W.cell? ⟨w.heap.size, 0, none⟩ = some (.int .u64 (hi : Nat)) ∧ W.cell? ⟨w.heap.size, 1, none⟩ = some (.int .u64 (lo : Nat)) ∧ W.cell? ⟨w.heap.size, 2, none⟩ = some (.int .i64 k)))
              (first | exact HK.out _ (Below.refl _ _).drew | exact HK.out _ (drew_c hy1))
              (first | (go_simp; go_at_call 109; ((with_reducible refine (HCV.out _).mono ?_); rintro e x1 ⟨rfl, hy1⟩)))
            clear p0 p1 p2 c0 c1 c2 c3 c4 c5 c6
            have hk1 := drew_c hy1
            clear hy1
            go_wp2
            go_region_held3 (fun W => ((W.cell? ⟨b, 0, none⟩ = some (.int .u64 (wh : Nat)) ∧ W.cell? ⟨b, 1, none⟩ = some (.int .u64 (wl : Nat)) ∧ W.cell? ⟨b, 2, none⟩ = some (.int .i64 (n : Nat))) ∧ W.cell? ⟨b, 5, none⟩ = some (.pointer ul) ∧ W.cell? ⟨b, 6, none⟩ = some (.pointer ur)) ∧ (W.cell? ⟨w.heap.size, 0, none⟩ = some (.int .u64 (hi : Nat)) ∧ W.cell? ⟨w.heap.size, 1, none⟩ = some (.int .u64 (lo : Nat)) ∧ W.cell? ⟨w.heap.size, 2, none⟩ = some (.int .i64 k)))
              (first | exact HK.out _ hk1.drew | exact HK.out _ (below_chain7 hk1 (drew_c hy2)))
              (first | (go_simp; go_at_call 53; ((with_reducible refine (HBT.out _).mono ?_); rintro e x2 ⟨rfl, hy2⟩)))
            have hk2 := below_chain7 hk1 (drew_c hy2)
            have hc2 := hc.trans (hk2.mono hc.size)
            go_wp2
            go_roundg r.size
            case measure => show r.size < l.size + r.size + 1; omega
            case rel => exact ⟨r, HUR.out.symm, rfl, hc2, (hk2.block _ (block_lt HB.out)).trans HB.out, HT.in_below HI.out.2.2.2 hk2, HE.out⟩
end Go.Proofs.YtoobiaifogackaaGreatDoor
