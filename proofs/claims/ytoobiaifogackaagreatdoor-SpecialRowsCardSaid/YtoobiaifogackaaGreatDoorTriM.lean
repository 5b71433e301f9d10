/-
  Layer 8: Find: what it comes to.
-/
import Derived.Test.YtoobiaifogackaaGreatDoorTriL
namespace Go.Proofs.YtoobiaifogackaaGreatDoor
open Go.RowKit


/-- what was found above -/
def AccIs (w : World) (q : Value) (o : Option En) : Prop :=
  (o = none ∧ q = .pointer none) ∨ ∃ b e x y, o = some e ∧ q = .pointer (some ⟨b, 0, none⟩) ∧ w.heap[b]? = some (.cells (rowOf e.W e.n e.v true x y) 115) ∧ b = b
theorem AccIs.keep {w w' : World} {q : Value} {o : Option En} (h : AccIs w q o) (hb : Below w.heap.size w w') : AccIs w' q o := by
  rcases h with h | ⟨b, e, x, y, h1, h2, h3, h4⟩
  · exact .inl h
  · exact .inr ⟨b, e, x, y, h1, h2, (hb.block b (block_lt h3)).trans h3, h4⟩
def entV : Option En → Value
  | none => .tuple #[.agg #[.int .u64 0, .int .u64 0, .int .i64 0], .int .i64 0, .bool false]
  | some e => .tuple #[.agg #[.int .u64 (hiN e.W : Nat), .int .u64 (loN e.W : Nat), .int .i64 (e.n : Nat)], .int .i64 e.v, .bool true]
def RetF (w : World) (x : Option En) (e : Ending) (w' : World) : Prop := e = .returned (entV x) ∧ Below w.heap.size w w'

set_option maxRecDepth 100000 in
set_option maxHeartbeats 16000000 in
theorem find_any (g : Nat) (T : HT) (a : AZ) (w : World) (ht : IsTrie w g T) (ha : a.Ok) :
    Calls Tryz.prog 18 #[.pointer (some ⟨g, 0, none⟩), a.val] w (RetF w (T.pt.find a.wd none)) := by
  obtain ⟨X, hX⟩ : ∃ x, T.pt.find a.wd none = x := ⟨_, rfl⟩
  rw [hX]
  have hA := AZ.wd_lt ha
  obtain ⟨ah, eah⟩ : ∃ x, hiN a.wd = x := ⟨_, rfl⟩
  obtain ⟨al, eal⟩ : ∃ x, loN a.wd = x := ⟨_, rfl⟩
  have hAe : wideN ah al = a.wd := by rw [← eah, ← eal, wide_split]
  have ba1 : ah < 18446744073709551616 := eah ▸ hiN_lt hA
  have ba2 : al < 18446744073709551616 := eal ▸ loN_lt a.wd
  have HOF : Hid (∀ W, Calls Tryz.prog 52 #[a.val, .int .i64 128] W fun e w' => e = .returned (.tuple #[.agg #[.int .u64 (ah : Nat), .int .u64 (al : Nat), .int .i64 128], .bool true]) ∧ Below W.heap.size W w') := fun W => by
    have := pOf_any a 128 W ha (by omega)
    rw [show ofW a.wd 128 = a.wd from by show a.wd / 2 ^ 0 * 2 ^ 0 = a.wd; simp] at this
    unfold pfW pfV at this
    rw [eah, eal] at this
    exact this
  have HHAS : Hid (∀ (wh wl n : Nat) W, wh < 18446744073709551616 → wl < 18446744073709551616 → Calls Tryz.prog 21 #[.agg #[.int .u64 (wh : Nat), .int .u64 (wl : Nat), .int .i64 (n : Nat)], a.val] W fun e w' => e = .returned (.bool (pHasB (wideN wh wl) n a.wd)) ∧ Below W.heap.size W w') := fun wh wl n W q1 q2 => pHas_any wh wl n a W q1 q2 ha
  have HBT : Hid (∀ (n : Nat) W, Calls Tryz.prog 53 #[.agg #[.int .u64 (ah : Nat), .int .u64 (al : Nat), .int .i64 128], .int .i64 (n : Nat)] W fun e w' => e = .returned (.int .i64 (bitZ a.wd n)) ∧ Below W.heap.size W w') := fun n W => by
    have := bit_any ah al 128 n W ba1 ba2; rwa [hAe] at this
  obtain ⟨A, hAA⟩ : ∃ A, a.wd = A := ⟨_, rfl⟩
  rw [hAA] at HHAS HBT hX
  obtain ⟨va, hva⟩ : ∃ v, a.val = v := ⟨_, rfl⟩
  rw [hva] at HOF HHAS ⊢
  have HX := Lib.hid hX
  have HTR := Lib.hid ht
  have hgl := block_lt ht.own
  obtain ⟨uT, huT⟩ := HT.ptr_form T
  have HUT := Lib.hid huT
  clear ht hX huT hA eah eal hAe ba1 ba2 hAA hva ha
  go_enter Tryz.func18, Tryz.ntmps18
  go_wp2_with fail
  refine (HOF.out _).mono ?_
  rintro e x1 ⟨rfl, hb1⟩
  have hx1 := alloc_then hb1
  have HR1 : Hid (x1.heap[w.heap.size]? = some (.cells #[.int .u64 0, .int .u64 0, .int .i64 0] 37)) := (hb1.block _ (by simp)).trans (Go.Deep.blk_alloc_new _ _)
  have hA1 : Below x1.heap.size x1 (x1.alloc (.cells #[.int .u64 (ah : Nat), .int .u64 (al : Nat), .int .i64 128] 37)) := (Below.refl _ _).alloc (Nat.le_refl _) _
  have hx2 := below_chain7 hx1 hA1
  have HR2 : Hid ((x1.alloc (.cells #[.int .u64 (ah : Nat), .int .u64 (al : Nat), .int .i64 128] 37)).heap[w.heap.size]? = _) := (hA1.block _ (block_lt HR1.out)).trans HR1.out
  have HA2 : Hid ((x1.alloc (.cells #[.int .u64 (ah : Nat), .int .u64 (al : Nat), .int .i64 128] 37)).heap[x1.heap.size]? = some (.cells #[.int .u64 (ah : Nat), .int .u64 (al : Nat), .int .i64 128] 37)) := Go.Deep.blk_alloc_new _ _
  have g1 : x1.cell? ⟨g, 0, none⟩ = some (.pointer uT) := by have := cell_row ((hx1.block g hgl).trans HTR.out.own) 0; rw [HUT.out] at this; exact this
  have hg1 : g < x1.heap.size := Nat.lt_of_lt_of_le hgl hx1.size
  have hwl : w.heap.size < x1.heap.size := block_lt HR1.out
  go_wp2
  have HI2 : Hid (T.In (x1.alloc (.cells #[.int .u64 (ah : Nat), .int .u64 (al : Nat), .int .i64 128] 37))) := HT.in_below HTR.out.lies hx2
  generalize x1.alloc (.cells #[.int .u64 (ah : Nat), .int .u64 (al : Nat), .int .i64 128] 37) = y1 at *
  generalize x1.heap.size = ga at *
  clear hb1 hA1 g1 HR1 hx1
  go_loopg [9, 10] (T.size) (fun gk q p wr => ∃ (T' : HT) (acc : Option En), p = T'.ptr ∧ T'.size = gk ∧ Below w.heap.size w wr ∧ Hid (wr.heap[w.heap.size]? = some (.cells #[.int .u64 0, .int .u64 0, .int .i64 0] 37)) ∧ Hid (wr.heap[ga]? = some (.cells #[.int .u64 (ah : Nat), .int .u64 (al : Nat), .int .i64 128] 37)) ∧ Hid (T'.In wr) ∧ Hid (AccIs wr q acc) ∧ Hid (T'.pt.find A acc = X))
  case atStart => exact ⟨T, none, HUT.out.symm, rfl, hx2, HR2.out, HA2.out, HI2.out, .inl ⟨rfl, rfl⟩, HX.out⟩
  case round =>
    clear HX HUT HTR HI2 hx2 HR2 HA2
    rename_i q9 q10
    obtain ⟨T', acc, hT', rfl, hc, HR, HA, HI, HAC, HG⟩ := hrel
    subst hT'
    cases T' with
    | nil =>
      have HE : Hid (acc = X) := HG.out
      simp only [HT.ptr]
      obtain ⟨⟨z0, z1, z2⟩, y0, y1, y2⟩ := row3 HR.out
      rcases HAC.out with ⟨ea, rfl⟩ | ⟨bl, en, sx, sy, ea, rfl, hrow, hbl⟩
      · have HE2 : Hid (X = none) := HE.out.symm.trans ea
        go_wp2
        refine bodyPost_ret (v := .tuple #[.agg #[.int .u64 0, .int .u64 0, .int .i64 0], .int .i64 0, .bool false]) (by simp [results, Tryz.results18, go_sem, z0, z1, z2]) rfl ⟨by rw [HE2.out]; rfl, ?_⟩
        exact Below.set3 hc (Nat.le_refl _) _ _ _
      · have HE2 : Hid (X = some en) := HE.out.symm.trans ea
        obtain ⟨⟨m0, m1, m2⟩, m3, _⟩ := node_cells hrow
        have hblt := block_lt hrow
        have hbn : bl ≠ w.heap.size := fun q => by
          have q2 := hrow; rw [q, HR.out] at q2; unfold rowOf at q2; simp at q2
        go_wp2
        go_region
        go_wp2
        refine bodyPost_ret (v := .tuple #[.agg #[.int .u64 (hiN en.W : Nat), .int .u64 (loN en.W : Nat), .int .i64 (en.n : Nat)], .int .i64 en.v, .bool true]) (by simp [results, Tryz.results18, go_sem, z0, z1, z2]) rfl ⟨by rw [HE2.out]; rfl, ?_⟩
        first | exact Below.set3 (hc).drew (Nat.le_refl _) _ _ _ | exact (Below.set3 hc (Nat.le_refl _) _ _ _).drew
    | node b W n u h l r =>
      have hok := HI.out.2.1
      obtain ⟨wh, ewh⟩ : ∃ y, hiN W = y := ⟨_, rfl⟩
      obtain ⟨wl, ewl⟩ : ∃ y, loN W = y := ⟨_, rfl⟩
      obtain ⟨⟨c0, c1, c2⟩, c3, c4, c5, c6⟩ := node_cells HI.out.1
      rw [ewh] at c0
      rw [ewl] at c1
      have bw1 : wh < 18446744073709551616 := ewh ▸ hiN_lt hok.1
      have bw2 : wl < 18446744073709551616 := ewl ▸ loN_lt W
      have hWw : wideN wh wl = W := by rw [← ewh, ← ewl, wide_split]
      have hGe : (if pHasB W n A = true then (if bitZ A n = 0 then l.pt.find A (if h = true then some ⟨W, n, u⟩ else acc) else r.pt.find A (if h = true then some ⟨W, n, u⟩ else acc)) else acc) = X := HG.out
      have HHN : Hid (∀ V, Calls Tryz.prog 21 #[.agg #[.int .u64 (wh : Nat), .int .u64 (wl : Nat), .int .i64 (n : Nat)], va] V fun e w' => e = .returned (.bool (pHasB W n A)) ∧ Below V.heap.size V w') := fun V => by
        have := HHAS.out wh wl n V bw1 bw2; rwa [hWw] at this
      have HBN : Hid (∀ V, Calls Tryz.prog 53 #[.agg #[.int .u64 (ah : Nat), .int .u64 (al : Nat), .int .i64 128], .int .i64 (n : Nat)] V fun e w' => e = .returned (.int .i64 (bitZ A n)) ∧ Below V.heap.size V w') := fun V => HBT.out n V
      obtain ⟨ul, hul⟩ := HT.ptr_form l
      obtain ⟨ur, hur⟩ := HT.ptr_form r
      have HUL := Lib.hid hul
      have HUR := Lib.hid hur
      have HK : Hid (∀ V, Below wr.heap.size wr V → (fun W => ((W.cell? ⟨b, 0, none⟩ = some (.int .u64 (wh : Nat)) ∧ W.cell? ⟨b, 1, none⟩ = some (.int .u64 (wl : Nat)) ∧ W.cell? ⟨b, 2, none⟩ = some (.int .i64 (n : Nat))) ∧ W.cell? ⟨b, 5, none⟩ = some (.pointer ul) ∧ W.cell? ⟨b, 6, none⟩ = some (.pointer ur)) ∧ (W.cell? ⟨ga, 0, none⟩ = some (.int .u64 (ah : Nat)) ∧ W.cell? ⟨ga, 1, none⟩ = some (.int .u64 (al : Nat)) ∧ W.cell? ⟨ga, 2, none⟩ = some (.int .i64 128))) V) := fun V hV => by
        have hr1 := (hV.block b (block_lt HI.out.1)).trans HI.out.1
        obtain ⟨⟨q0, q1, q2⟩, q3, q4, q5, q6⟩ := node_cells hr1
        rw [ewh] at q0
        rw [ewl] at q1
        rw [hul] at q5
        rw [hur] at q6
        exact ⟨⟨⟨q0, q1, q2⟩, q5, q6⟩, (row3 ((hV.block ga (block_lt HA.out)).trans HA.out)).1⟩
      have HC4 : Hid (∀ V, Below wr.heap.size wr V → V.cell? ⟨b, 4, none⟩ = some (.bool h)) := fun V hV => (node_cells ((hV.block b (block_lt HI.out.1)).trans HI.out.1)).2.2.1
      have hb2 := bitZ_two A n
      clear ewh ewl hok hWw hul hur c3 c4 c5 c6 HHAS HBT
      simp only [HT.ptr]
      cases hv : pHasB W n A with
      | false =>
        rw [hv] at HHN hGe
        have HE : Hid (acc = X) := by rw [if_neg (by simp)] at hGe; exact hGe
        clear hGe hv hb2
        go_wp2_with fail
        refine (HHN.out _).mono ?_
        rintro e x1 ⟨rfl, hy1⟩
        have hc1 := hc.trans (hy1.mono hc.size)
        have HR1 : Hid (x1.heap[w.heap.size]? = _) := (hy1.block _ (block_lt HR.out)).trans HR.out
        have HAC1 := Lib.hid (HAC.out.keep hy1)
        clear c0 c1 c2
        obtain ⟨⟨z0, z1, z2⟩, y0, y1, y2⟩ := row3 HR1.out
        rcases HAC1.out with ⟨ea, rfl⟩ | ⟨bl, en, sx, sy, ea, rfl, hrow, hbl⟩
        · have HE2 : Hid (X = none) := HE.out.symm.trans ea
          go_wp2
          refine bodyPost_ret (v := .tuple #[.agg #[.int .u64 0, .int .u64 0, .int .i64 0], .int .i64 0, .bool false]) (by simp [results, Tryz.results18, go_sem, z0, z1, z2]) rfl ⟨by rw [HE2.out]; rfl, ?_⟩
          exact Below.set3 hc1 (Nat.le_refl _) _ _ _
        · have HE2 : Hid (X = some en) := HE.out.symm.trans ea
          obtain ⟨⟨m0, m1, m2⟩, m3, _⟩ := node_cells hrow
          have hblt := block_lt hrow
          have hbn : bl ≠ w.heap.size := fun q => by
            have q2 := hrow; rw [q, HR1.out] at q2; unfold rowOf at q2; simp at q2
          go_wp2
          go_region
          go_wp2
          refine bodyPost_ret (v := .tuple #[.agg #[.int .u64 (hiN en.W : Nat), .int .u64 (loN en.W : Nat), .int .i64 (en.n : Nat)], .int .i64 en.v, .bool true]) (by simp [results, Tryz.results18, go_sem, z0, z1, z2]) rfl ⟨by rw [HE2.out]; rfl, ?_⟩
          first | exact Below.set3 (hc1).drew (Nat.le_refl _) _ _ _ | exact (Below.set3 hc1 (Nat.le_refl _) _ _ _).drew
      | true =>
        rw [hv] at HHN hGe
        rw [if_pos rfl] at hGe
        clear hv
        cases h with
        | true =>
          simp only [if_true] at hGe
          rcases hb2 with hb2 | hb2
          · rw [if_pos hb2] at hGe
            rw [hb2] at HBN
            have HE := Lib.hid hGe
            clear hGe hb2
            go_wp2_with fail
            refine (HHN.out _).mono ?_
            rintro e x1 ⟨rfl, hy1⟩
            have c4 := HC4.out _ hy1
            clear c0 c1 c2
            go_wp2
            go_region_held3 (fun W => ((W.cell? ⟨b, 0, none⟩ = some (.int .u64 (wh : Nat)) ∧ W.cell? ⟨b, 1, none⟩ = some (.int .u64 (wl : Nat)) ∧ W.cell? ⟨b, 2, none⟩ = some (.int .i64 (n : Nat))) ∧ W.cell? ⟨b, 5, none⟩ = some (.pointer ul) ∧ W.cell? ⟨b, 6, none⟩ = some (.pointer ur)) ∧ (W.cell? ⟨ga, 0, none⟩ = some (.int .u64 (ah : Nat)) ∧ W.cell? ⟨ga, 1, none⟩ = some (.int .u64 (al : Nat)) ∧ W.cell? ⟨ga, 2, none⟩ = some (.int .i64 128)))
              (first | exact HK.out _ hy1.drew | exact HK.out _ (below_chain7 hy1 (drew_c hy2)))
              (first | (go_simp; go_at_call 53; ((with_reducible refine (HBN.out _).mono ?_); rintro e x2 ⟨rfl, hy2⟩)))
            have hk2 := below_chain7 hy1 (drew_c hy2)
            have hc2 := hc.trans (hk2.mono hc.size)
            go_wp2
            go_roundg l.size
            case measure => show l.size < l.size + r.size + 1; omega
            case rel => exact ⟨l, some ⟨W, n, u⟩, HUL.out.symm, rfl, hc2, (hk2.block _ (block_lt HR.out)).trans HR.out, (hk2.block _ (block_lt HA.out)).trans HA.out, HT.in_below HI.out.2.2.1 hk2, .inr ⟨b, ⟨W, n, u⟩, _, _, rfl, rfl, (hk2.block b (block_lt HI.out.1)).trans HI.out.1, rfl⟩, HE.out⟩
          · rw [if_neg (by omega)] at hGe
            rw [hb2] at HBN
            have HE := Lib.hid hGe
            clear hGe hb2
            go_wp2_with fail
            refine (HHN.out _).mono ?_
            rintro e x1 ⟨rfl, hy1⟩
            have c4 := HC4.out _ hy1
            clear c0 c1 c2
            go_wp2
            go_region_held3 (fun W => ((W.cell? ⟨b, 0, none⟩ = some (.int .u64 (wh : Nat)) ∧ W.cell? ⟨b, 1, none⟩ = some (.int .u64 (wl : Nat)) ∧ W.cell? ⟨b, 2, none⟩ = some (.int .i64 (n : Nat))) ∧ W.cell? ⟨b, 5, none⟩ = some (.pointer ul) ∧ W.cell? ⟨b, 6, none⟩ = some (.pointer ur)) ∧ (W.cell? ⟨ga, 0, none⟩ = some (.int .u64 (ah : Nat)) ∧ W.cell? ⟨ga, 1, none⟩ = some (.int .u64 (al : Nat)) ∧ W.cell? ⟨ga, 2, none⟩ = some (.int .i64 128)))
              (first | exact HK.out _ hy1.drew | exact HK.out _ (below_chain7 hy1 (drew_c hy2)))
              (first | (go_simp; go_at_call 53; ((with_reducible refine (HBN.out _).mono ?_); rintro e x2 ⟨rfl, hy2⟩)))
            have hk2 := below_chain7 hy1 (drew_c hy2)
            have hc2 := hc.trans (hk2.mono hc.size)
            go_wp2
            go_roundg r.size
            case measure => show r.size < l.size + r.size + 1; omega
            case rel => exact ⟨r, some ⟨W, n, u⟩, HUR.out.symm, rfl, hc2, (hk2.block _ (block_lt HR.out)).trans HR.out, (hk2.block _ (block_lt HA.out)).trans HA.out, HT.in_below HI.out.2.2.2 hk2, .inr ⟨b, ⟨W, n, u⟩, _, _, rfl, rfl, (hk2.block b (block_lt HI.out.1)).trans HI.out.1, rfl⟩, HE.out⟩
        | false =>
          simp only [Bool.false_eq_true, if_false] at hGe
          rcases hb2 with hb2 | hb2
          · rw [if_pos hb2] at hGe
            rw [hb2] at HBN
            have HE := Lib.hid hGe
            clear hGe hb2
            go_wp2_with fail
            refine (HHN.out _).mono ?_
            rintro e x1 ⟨rfl, hy1⟩
            have c4 := HC4.out _ hy1
            clear c0 c1 c2
            go_wp2
            go_region_held3 (fun W => ((W.cell? ⟨b, 0, none⟩ = some (.int .u64 (wh : Nat)) ∧ W.cell? ⟨b, 1, none⟩ = some (.int .u64 (wl : Nat)) ∧ W.cell? ⟨b, 2, none⟩ = some (.int .i64 (n : Nat))) ∧ W.cell? ⟨b, 5, none⟩ = some (.pointer ul) ∧ W.cell? ⟨b, 6, none⟩ = some (.pointer ur)) ∧ (W.cell? ⟨ga, 0, none⟩ = some (.int .u64 (ah : Nat)) ∧ W.cell? ⟨ga, 1, none⟩ = some (.int .u64 (al : Nat)) ∧ W.cell? ⟨ga, 2, none⟩ = some (.int .i64 128)))
              (first | exact HK.out _ hy1.drew | exact HK.out _ (below_chain7 hy1 (drew_c hy2)))
              (first | (go_simp; go_at_call 53; ((with_reducible refine (HBN.out _).mono ?_); rintro e x2 ⟨rfl, hy2⟩)))
            have hk2 := below_chain7 hy1 (drew_c hy2)
            have hc2 := hc.trans (hk2.mono hc.size)
            go_wp2
            go_roundg l.size
            case measure => show l.size < l.size + r.size + 1; omega
            case rel => exact ⟨l, acc, HUL.out.symm, rfl, hc2, (hk2.block _ (block_lt HR.out)).trans HR.out, (hk2.block _ (block_lt HA.out)).trans HA.out, HT.in_below HI.out.2.2.1 hk2, HAC.out.keep hk2, HE.out⟩
          · rw [if_neg (by omega)] at hGe
            rw [hb2] at HBN
            have HE := Lib.hid hGe
            clear hGe hb2
            go_wp2_with fail
            refine (HHN.out _).mono ?_
            rintro e x1 ⟨rfl, hy1⟩
            have c4 := HC4.out _ hy1
            clear c0 c1 c2
            go_wp2
            go_region_held3 (fun W => ((W.cell? ⟨b, 0, none⟩ = some (.int .u64 (wh : Nat)) ∧ W.cell? ⟨b, 1, none⟩ = some (.int .u64 (wl : Nat)) ∧ W.cell? ⟨b, 2, none⟩ = some (.int .i64 (n : Nat))) ∧ W.cell? ⟨b, 5, none⟩ = some (.pointer ul) ∧ W.cell? ⟨b, 6, none⟩ = some (.pointer ur)) ∧ (W.cell? ⟨ga, 0, none⟩ = some (.int .u64 (ah : Nat)) ∧ W.cell? ⟨ga, 1, none⟩ = some (.int .u64 (al : Nat)) ∧ W.cell? ⟨ga, 2, none⟩ = some (.int .i64 128)))
              (first | exact HK.out _ hy1.drew | exact HK.out _ (below_chain7 hy1 (drew_c hy2)))
              (first | (go_simp; go_at_call 53; ((with_reducible refine (HBN.out _).mono ?_); rintro e x2 ⟨rfl, hy2⟩)))
            have hk2 := below_chain7 hy1 (drew_c hy2)
            have hc2 := hc.trans (hk2.mono hc.size)
            go_wp2
            go_roundg r.size
            case measure => show r.size < l.size + r.size + 1; omega
            case rel => exact ⟨r, acc, HUR.out.symm, rfl, hc2, (hk2.block _ (block_lt HR.out)).trans HR.out, (hk2.block _ (block_lt HA.out)).trans HA.out, HT.in_below HI.out.2.2.2 hk2, HAC.out.keep hk2, HE.out⟩
end Go.Proofs.YtoobiaifogackaaGreatDoor
