/-
  Layer 5: a row of pieces, the reference's.
-/
import Derived.Test.YtgmfgcpfpopboaaDoorSixC
import Derived.Test.YtgmfgcpfpopboaaDoorMgC
namespace Go.Proofs.YtgmfgcpfpopboaaDoor
open Go.RowKit


set_option maxRecDepth 100000 in
set_option maxHeartbeats 4000000 in
theorem refList_any (s : ByteArray) (last : Bool) (w : World) (hs : s.size ≤ 1073741824) :
    Calls Tryd.prog 38 #[.string s, .bool last] w (RetNums 3 .i64 w (rowZ s.data.toList last)) := by
  by_cases hn : s.size = 0
  · obtain rfl := empty_of_size s hn
    clear hn hs
    have HF : Hid (rowZ (ByteArray.mk #[]).data.toList last = ([], true)) := rfl
    go_enter Tryd.func38, Tryd.ntmps38
    go_wp2
    go_ret2
    exact retNums_of HF.out (Nums.nil _ _ _ _) (Below.refl _ _)
  · have hse := not_isEmpty s hn
    obtain ⟨i0, hi, hz0, hz1, hz2⟩ := info_parts Tryd.infoInt
    have HZ := Lib.hid (rowZ_ne (last := last) (ne_of_size s hn))
    clear hn
    obtain ⟨m, hm⟩ : ∃ m, (colons s.data.toList).length = m := ⟨_, rfl⟩
    have h0 : 0 < (colons s.data.toList).length := splitB_ne _ _
    rw [hm] at h0
    have hmb : m ≤ 1073741825 := by
      have h1 := splitB_len (hasB [58]) s.data.toList
      rw [size_list] at h1
      have h2 := hm
      unfold colons at h2
      omega
    have HM := Lib.hid hm
    clear hm
    go_enter Tryd.func38, Tryd.ntmps38
    go_wp2_with fail
    refine (refSplit_any s _ _ hs (by decide)).mono ?_
    rintro e w1 ⟨v, rfl, hp, hb1⟩
    have hp' : Parts w.heap.size w1 v (colons s.data.toList) := hp
    obtain ⟨g, cap, rfl, hcap, hg, hcell⟩ := hp'.form2 (by rw [HM.out]; exact h0)
    rw [HM.out] at hcap hcell ⊢
    have HCELL := Lib.hid hcell
    clear hp hp' hcell
    have HCAP := Lib.hid hcap
    go_wp2
    go_loopw [6, 8] (fun v i wr => ∃ (k n : Nat) (T : List Int), k ≤ m ∧ n ≤ 2 * k ∧ i = .int .i64 k ∧ wr.ownsRow w1.heap.size 3 1 v n (T.map (Value.int .i64)) ∧ Hid (T.length = n) ∧ Hid (rowP last T ((colons s.data.toList).drop k) = rowZ s.data.toList last) ∧ Below w1.heap.size w1 wr) (fun _ i _ => m - (intOf i).toNat)
    case atStart => exact ⟨0, 0, [], by omega, by omega, rfl, World.ownsRow_nil _ _ _ _, rfl, HZ.out.symm, Below.refl _ _⟩
    case round =>
      obtain ⟨k, n, T, hk, hnk, rfl, hown, HTL, HG, hbw⟩ := hrel
      by_cases hkm : k < m
      · obtain ⟨p, hpk⟩ : ∃ p, (colons s.data.toList).getD k [] = p := ⟨_, rfl⟩
        have hcx := HCELL.out k hkm
        rw [hpk] at hcx
        have hcx2 : wr.cell? ⟨g, k, none⟩ = some (.string ⟨p.toArray⟩) := (hbw.cell (p := ⟨g, k, none⟩) hg).trans hcx
        have hpl : p.length ≤ s.size := by rw [← hpk, ← size_list]; exact part_len _ _ _
        have hdr := drop_part1 k (colons s.data.toList) (by rw [HM.out]; exact hkm)
        rw [hpk] at hdr
        have HDR := Lib.hid hdr
        have HG1 : Hid (rowP last T (p :: (colons s.data.toList).drop (k + 1)) = rowZ s.data.toList last) := by
          show rowP last T (p :: (colons s.data.toList).drop (k + 1)) = rowZ s.data.toList last
          rw [← HDR.out]; exact HG.out
        have HCX := Lib.hid hcx
        clear hdr hcx HDR
        have HP := Lib.hid hpk
        clear hpk
        obtain ⟨x, b, hpz⟩ : ∃ x b, pieceZ p = (x, b) := ⟨_, _, rfl⟩
        have hx : 0 ≤ x ∧ x ≤ 65535 := by have h9 := pieceZ_bounds p; rw [hpz] at h9; exact h9
        obtain ⟨hx0, hx1⟩ := hx
        have HPZ := Lib.hid hpz
        clear hpz
        obtain ⟨y, b4, hsz4⟩ : ∃ x b, strictZ p = (x, b) := ⟨_, _, rfl⟩
        have hy : 0 ≤ y ∧ y ≤ 4294967295 := by have h9 := strictZ_bounds p; rw [hsz4] at h9; exact h9
        obtain ⟨hy0, hy1⟩ := hy
        have HS4 := Lib.hid hsz4
        clear hsz4
        by_cases hlast : k + 1 = m
        · have hq1 : ((k : Int) == (m : Int) - 1) = true := by rw [beq_iff_eq]; omega
          have HLAST := Lib.hid (drop_end1 (k + 1) (colons s.data.toList) (by rw [HM.out]; omega))
          have hlo : m - 1 ≤ k := by omega
          clear hlast
          cases last with
          | true =>
            cases b4 with
            | true =>
              have HF := Lib.hid (HG1.out.symm.trans (rowP_four rfl HLAST.out HS4.out))
              go_wp2_with fail
              refine (refStrict_any ⟨p.toArray⟩ _ (by rw [size_mk]; omega)).mono ?_
              rw [mk_list, HS4.out]
              rintro e w2 ⟨rfl, hb2⟩
              have hc2 : Below w1.heap.size w1 w2 := hbw.trans (hb2.mono hbw.size)
              have hown2 := own_below hown hb2
              have hsz2 := hc2.size
              clear hb2 hown
              clear hcx2
              have HG3 : Hid (rowP true (T ++ [y / 65536, y % 65536]) ((colons s.data.toList).drop (k + 1)) = rowZ s.data.toList true) := by
                show rowP true (T ++ [y / 65536, y % 65536]) ((colons s.data.toList).drop (k + 1)) = rowZ s.data.toList true
                rw [HLAST.out]; exact HF.out.symm
              go_wp2_with (at_builtin; refine wp_append2 _ rfl _ _ 34 rfl w1.heap.size 3 i0 (.int .i64 0) 8 Tryd.underlying34 hi hz0 hz1 hz2 rfl _ _ _ rfl hown2 (.int .i64 (y / 65536)) (.int .i64 (y % 65536)) rfl rfl rfl (by unfold maxLen; omega) (by omega) hsz2 ?_; intro v' w3 hown' hk')
              go_roundw
              case rel => exact ⟨k + 1, n + 2, T ++ [y / 65536, y % 65536], by omega, by omega, by go_num, (by rw [List.map_append]; exact hown'), (by show (T ++ [y / 65536, y % 65536]).length = n + 2; rw [List.length_append, HTL.out]; rfl), HG3, hc2.trans hk'⟩
              case measure => simp [intOf]; omega
            | false =>
              have HNOT : Hid (¬ (true = true ∧ (colons s.data.toList).drop (k + 1) = [] ∧ (strictZ p).2 = true)) := by
                show ¬ _
                rintro ⟨h1, h2, h3⟩
                first | exact HNE.out h2 | exact absurd h1 (by decide) | (rw [HS4.out] at h3; exact absurd (show false = true from h3) (by decide))
              cases b with
              | true =>
                have hgo := HG1.out
                rw [rowP_yes HNOT.out HPZ.out] at hgo
                have HG2 := Lib.hid hgo
                clear hgo
                go_wp2_with fail
                refine (refStrict_any ⟨p.toArray⟩ _ (by rw [size_mk]; omega)).mono ?_
                rw [mk_list, HS4.out]
                rintro e w2 ⟨rfl, hb2⟩
                have hc2 : Below w1.heap.size w1 w2 := hbw.trans (hb2.mono hbw.size)
                have hown2 := own_below hown hb2
                have hsz2 := hc2.size
                clear hb2 hown
                have hcx3 : w2.cell? ⟨g, k, none⟩ = some (.string ⟨p.toArray⟩) := (hc2.cell (p := ⟨g, k, none⟩) hg).trans HCX.out
                clear hcx2
                go_wp2_with fail
                refine (refPiece_any ⟨p.toArray⟩ _ (by rw [size_mk]; omega)).mono ?_
                rw [mk_list, pieceI_yes HPZ.out]
                rintro e w' ⟨rfl, rfl⟩
                go_wp2_with (at_builtin; refine wp_append1 _ rfl _ _ 34 rfl w1.heap.size 3 i0 (.int .i64 0) 8 Tryd.underlying34 hi hz0 hz1 hz2 rfl _ _ _ rfl hown2 (.int .i64 x) rfl rfl (by omega) (by omega) hsz2 ?_; intro v' w4 hown' hk')
                go_roundw
                case rel => exact ⟨k + 1, n + 1, T ++ [x], by omega, by omega, by go_num, (by rw [List.map_append]; exact hown'), (by show (T ++ [x]).length = n + 1; rw [List.length_append, HTL.out]; rfl), HG2, hc2.trans hk'⟩
                case measure => simp [intOf]; omega
              | false =>
                have HF := Lib.hid (HG1.out.symm.trans (rowP_no HNOT.out HPZ.out))
                go_wp2_with fail
                refine (refStrict_any ⟨p.toArray⟩ _ (by rw [size_mk]; omega)).mono ?_
                rw [mk_list, HS4.out]
                rintro e w2 ⟨rfl, hb2⟩
                have hc2 : Below w1.heap.size w1 w2 := hbw.trans (hb2.mono hbw.size)
                have hown2 := own_below hown hb2
                have hsz2 := hc2.size
                clear hb2 hown
                have hcx3 : w2.cell? ⟨g, k, none⟩ = some (.string ⟨p.toArray⟩) := (hc2.cell (p := ⟨g, k, none⟩) hg).trans HCX.out
                clear hcx2
                go_wp2_with fail
                refine (refPiece_any ⟨p.toArray⟩ _ (by rw [size_mk]; omega)).mono ?_
                rw [mk_list, pieceI_no HPZ.out]
                rintro e w' ⟨rfl, rfl⟩
                go_wp2
                go_ret2
                exact retNums_of HF.out (Nums.nil _ _ _ _) (hb1.trans (hc2.mono hb1.size))
          | false =>
            cases b4 with
            | true =>
              have HNOT : Hid (¬ (false = true ∧ (colons s.data.toList).drop (k + 1) = [] ∧ (strictZ p).2 = true)) := by
                show ¬ _
                rintro ⟨h1, h2, h3⟩
                first | exact HNE.out h2 | exact absurd h1 (by decide) | (rw [HS4.out] at h3; exact absurd (show false = true from h3) (by decide))
              cases b with
              | true =>
                have hgo := HG1.out
                rw [rowP_yes HNOT.out HPZ.out] at hgo
                have HG2 := Lib.hid hgo
                clear hgo
                go_wp2_with fail
                refine (refStrict_any ⟨p.toArray⟩ _ (by rw [size_mk]; omega)).mono ?_
                rw [mk_list, HS4.out]
                rintro e w2 ⟨rfl, hb2⟩
                have hc2 : Below w1.heap.size w1 w2 := hbw.trans (hb2.mono hbw.size)
                have hown2 := own_below hown hb2
                have hsz2 := hc2.size
                clear hb2 hown
                have hcx3 : w2.cell? ⟨g, k, none⟩ = some (.string ⟨p.toArray⟩) := (hc2.cell (p := ⟨g, k, none⟩) hg).trans HCX.out
                clear hcx2
                go_wp2_with fail
                refine (refPiece_any ⟨p.toArray⟩ _ (by rw [size_mk]; omega)).mono ?_
                rw [mk_list, pieceI_yes HPZ.out]
                rintro e w' ⟨rfl, rfl⟩
                go_wp2_with (at_builtin; refine wp_append1 _ rfl _ _ 34 rfl w1.heap.size 3 i0 (.int .i64 0) 8 Tryd.underlying34 hi hz0 hz1 hz2 rfl _ _ _ rfl hown2 (.int .i64 x) rfl rfl (by omega) (by omega) hsz2 ?_; intro v' w4 hown' hk')
                go_roundw
                case rel => exact ⟨k + 1, n + 1, T ++ [x], by omega, by omega, by go_num, (by rw [List.map_append]; exact hown'), (by show (T ++ [x]).length = n + 1; rw [List.length_append, HTL.out]; rfl), HG2, hc2.trans hk'⟩
                case measure => simp [intOf]; omega
              | false =>
                have HF := Lib.hid (HG1.out.symm.trans (rowP_no HNOT.out HPZ.out))
                go_wp2_with fail
                refine (refStrict_any ⟨p.toArray⟩ _ (by rw [size_mk]; omega)).mono ?_
                rw [mk_list, HS4.out]
                rintro e w2 ⟨rfl, hb2⟩
                have hc2 : Below w1.heap.size w1 w2 := hbw.trans (hb2.mono hbw.size)
                have hown2 := own_below hown hb2
                have hsz2 := hc2.size
                clear hb2 hown
                have hcx3 : w2.cell? ⟨g, k, none⟩ = some (.string ⟨p.toArray⟩) := (hc2.cell (p := ⟨g, k, none⟩) hg).trans HCX.out
                clear hcx2
                go_wp2_with fail
                refine (refPiece_any ⟨p.toArray⟩ _ (by rw [size_mk]; omega)).mono ?_
                rw [mk_list, pieceI_no HPZ.out]
                rintro e w' ⟨rfl, rfl⟩
                go_wp2
                go_ret2
                exact retNums_of HF.out (Nums.nil _ _ _ _) (hb1.trans (hc2.mono hb1.size))
            | false =>
              have HNOT : Hid (¬ (false = true ∧ (colons s.data.toList).drop (k + 1) = [] ∧ (strictZ p).2 = true)) := by
                show ¬ _
                rintro ⟨h1, h2, h3⟩
                first | exact HNE.out h2 | exact absurd h1 (by decide) | (rw [HS4.out] at h3; exact absurd (show false = true from h3) (by decide))
              cases b with
              | true =>
                have hgo := HG1.out
                rw [rowP_yes HNOT.out HPZ.out] at hgo
                have HG2 := Lib.hid hgo
                clear hgo
                go_wp2_with fail
                refine (refStrict_any ⟨p.toArray⟩ _ (by rw [size_mk]; omega)).mono ?_
                rw [mk_list, HS4.out]
                rintro e w2 ⟨rfl, hb2⟩
                have hc2 : Below w1.heap.size w1 w2 := hbw.trans (hb2.mono hbw.size)
                have hown2 := own_below hown hb2
                have hsz2 := hc2.size
                clear hb2 hown
                have hcx3 : w2.cell? ⟨g, k, none⟩ = some (.string ⟨p.toArray⟩) := (hc2.cell (p := ⟨g, k, none⟩) hg).trans HCX.out
                clear hcx2
                go_wp2_with fail
                refine (refPiece_any ⟨p.toArray⟩ _ (by rw [size_mk]; omega)).mono ?_
                rw [mk_list, pieceI_yes HPZ.out]
                rintro e w' ⟨rfl, rfl⟩
                go_wp2_with (at_builtin; refine wp_append1 _ rfl _ _ 34 rfl w1.heap.size 3 i0 (.int .i64 0) 8 Tryd.underlying34 hi hz0 hz1 hz2 rfl _ _ _ rfl hown2 (.int .i64 x) rfl rfl (by omega) (by omega) hsz2 ?_; intro v' w4 hown' hk')
                go_roundw
                case rel => exact ⟨k + 1, n + 1, T ++ [x], by omega, by omega, by go_num, (by rw [List.map_append]; exact hown'), (by show (T ++ [x]).length = n + 1; rw [List.length_append, HTL.out]; rfl), HG2, hc2.trans hk'⟩
                case measure => simp [intOf]; omega
              | false =>
                have HF := Lib.hid (HG1.out.symm.trans (rowP_no HNOT.out HPZ.out))
                go_wp2_with fail
                refine (refStrict_any ⟨p.toArray⟩ _ (by rw [size_mk]; omega)).mono ?_
                rw [mk_list, HS4.out]
                rintro e w2 ⟨rfl, hb2⟩
                have hc2 : Below w1.heap.size w1 w2 := hbw.trans (hb2.mono hbw.size)
                have hown2 := own_below hown hb2
                have hsz2 := hc2.size
                clear hb2 hown
                have hcx3 : w2.cell? ⟨g, k, none⟩ = some (.string ⟨p.toArray⟩) := (hc2.cell (p := ⟨g, k, none⟩) hg).trans HCX.out
                clear hcx2
                go_wp2_with fail
                refine (refPiece_any ⟨p.toArray⟩ _ (by rw [size_mk]; omega)).mono ?_
                rw [mk_list, pieceI_no HPZ.out]
                rintro e w' ⟨rfl, rfl⟩
                go_wp2
                go_ret2
                exact retNums_of HF.out (Nums.nil _ _ _ _) (hb1.trans (hc2.mono hb1.size))
        · have hq1 : ((k : Int) == (m : Int) - 1) = false := by rw [beq_eq_false_iff_ne]; omega
          have HNE := Lib.hid (drop_more1 (k + 1) (colons s.data.toList) (by rw [HM.out]; omega))
          clear hlast
          cases last with
          | true =>
            cases b4 with
            | true =>
              have HNOT : Hid (¬ (true = true ∧ (colons s.data.toList).drop (k + 1) = [] ∧ (strictZ p).2 = true)) := by
                show ¬ _
                rintro ⟨h1, h2, h3⟩
                first | exact HNE.out h2 | exact absurd h1 (by decide) | (rw [HS4.out] at h3; exact absurd (show false = true from h3) (by decide))
              cases b with
              | true =>
                have hgo := HG1.out
                rw [rowP_yes HNOT.out HPZ.out] at hgo
                have HG2 := Lib.hid hgo
                clear hgo
                go_wp2_with fail
                refine (refStrict_any ⟨p.toArray⟩ _ (by rw [size_mk]; omega)).mono ?_
                rw [mk_list, HS4.out]
                rintro e w2 ⟨rfl, hb2⟩
                have hc2 : Below w1.heap.size w1 w2 := hbw.trans (hb2.mono hbw.size)
                have hown2 := own_below hown hb2
                have hsz2 := hc2.size
                clear hb2 hown
                have hcx3 : w2.cell? ⟨g, k, none⟩ = some (.string ⟨p.toArray⟩) := (hc2.cell (p := ⟨g, k, none⟩) hg).trans HCX.out
                clear hcx2
                go_wp2_with fail
                refine (refPiece_any ⟨p.toArray⟩ _ (by rw [size_mk]; omega)).mono ?_
                rw [mk_list, pieceI_yes HPZ.out]
                rintro e w' ⟨rfl, rfl⟩
                go_wp2_with (at_builtin; refine wp_append1 _ rfl _ _ 34 rfl w1.heap.size 3 i0 (.int .i64 0) 8 Tryd.underlying34 hi hz0 hz1 hz2 rfl _ _ _ rfl hown2 (.int .i64 x) rfl rfl (by omega) (by omega) hsz2 ?_; intro v' w4 hown' hk')
                go_roundw
                case rel => exact ⟨k + 1, n + 1, T ++ [x], by omega, by omega, by go_num, (by rw [List.map_append]; exact hown'), (by show (T ++ [x]).length = n + 1; rw [List.length_append, HTL.out]; rfl), HG2, hc2.trans hk'⟩
                case measure => simp [intOf]; omega
              | false =>
                have HF := Lib.hid (HG1.out.symm.trans (rowP_no HNOT.out HPZ.out))
                go_wp2_with fail
                refine (refStrict_any ⟨p.toArray⟩ _ (by rw [size_mk]; omega)).mono ?_
                rw [mk_list, HS4.out]
                rintro e w2 ⟨rfl, hb2⟩
                have hc2 : Below w1.heap.size w1 w2 := hbw.trans (hb2.mono hbw.size)
                have hown2 := own_below hown hb2
                have hsz2 := hc2.size
                clear hb2 hown
                have hcx3 : w2.cell? ⟨g, k, none⟩ = some (.string ⟨p.toArray⟩) := (hc2.cell (p := ⟨g, k, none⟩) hg).trans HCX.out
                clear hcx2
                go_wp2_with fail
                refine (refPiece_any ⟨p.toArray⟩ _ (by rw [size_mk]; omega)).mono ?_
                rw [mk_list, pieceI_no HPZ.out]
                rintro e w' ⟨rfl, rfl⟩
                go_wp2
                go_ret2
                exact retNums_of HF.out (Nums.nil _ _ _ _) (hb1.trans (hc2.mono hb1.size))
            | false =>
              have HNOT : Hid (¬ (true = true ∧ (colons s.data.toList).drop (k + 1) = [] ∧ (strictZ p).2 = true)) := by
                show ¬ _
                rintro ⟨h1, h2, h3⟩
                first | exact HNE.out h2 | exact absurd h1 (by decide) | (rw [HS4.out] at h3; exact absurd (show false = true from h3) (by decide))
              cases b with
              | true =>
                have hgo := HG1.out
                rw [rowP_yes HNOT.out HPZ.out] at hgo
                have HG2 := Lib.hid hgo
                clear hgo
                go_wp2_with fail
                refine (refStrict_any ⟨p.toArray⟩ _ (by rw [size_mk]; omega)).mono ?_
                rw [mk_list, HS4.out]
                rintro e w2 ⟨rfl, hb2⟩
                have hc2 : Below w1.heap.size w1 w2 := hbw.trans (hb2.mono hbw.size)
                have hown2 := own_below hown hb2
                have hsz2 := hc2.size
                clear hb2 hown
                have hcx3 : w2.cell? ⟨g, k, none⟩ = some (.string ⟨p.toArray⟩) := (hc2.cell (p := ⟨g, k, none⟩) hg).trans HCX.out
                clear hcx2
                go_wp2_with fail
                refine (refPiece_any ⟨p.toArray⟩ _ (by rw [size_mk]; omega)).mono ?_
                rw [mk_list, pieceI_yes HPZ.out]
                rintro e w' ⟨rfl, rfl⟩
                go_wp2_with (at_builtin; refine wp_append1 _ rfl _ _ 34 rfl w1.heap.size 3 i0 (.int .i64 0) 8 Tryd.underlying34 hi hz0 hz1 hz2 rfl _ _ _ rfl hown2 (.int .i64 x) rfl rfl (by omega) (by omega) hsz2 ?_; intro v' w4 hown' hk')
                go_roundw
                case rel => exact ⟨k + 1, n + 1, T ++ [x], by omega, by omega, by go_num, (by rw [List.map_append]; exact hown'), (by show (T ++ [x]).length = n + 1; rw [List.length_append, HTL.out]; rfl), HG2, hc2.trans hk'⟩
                case measure => simp [intOf]; omega
              | false =>
                have HF := Lib.hid (HG1.out.symm.trans (rowP_no HNOT.out HPZ.out))
                go_wp2_with fail
                refine (refStrict_any ⟨p.toArray⟩ _ (by rw [size_mk]; omega)).mono ?_
                rw [mk_list, HS4.out]
                rintro e w2 ⟨rfl, hb2⟩
                have hc2 : Below w1.heap.size w1 w2 := hbw.trans (hb2.mono hbw.size)
                have hown2 := own_below hown hb2
                have hsz2 := hc2.size
                clear hb2 hown
                have hcx3 : w2.cell? ⟨g, k, none⟩ = some (.string ⟨p.toArray⟩) := (hc2.cell (p := ⟨g, k, none⟩) hg).trans HCX.out
                clear hcx2
                go_wp2_with fail
                refine (refPiece_any ⟨p.toArray⟩ _ (by rw [size_mk]; omega)).mono ?_
                rw [mk_list, pieceI_no HPZ.out]
                rintro e w' ⟨rfl, rfl⟩
                go_wp2
                go_ret2
                exact retNums_of HF.out (Nums.nil _ _ _ _) (hb1.trans (hc2.mono hb1.size))
          | false =>
            cases b4 with
            | true =>
              have HNOT : Hid (¬ (false = true ∧ (colons s.data.toList).drop (k + 1) = [] ∧ (strictZ p).2 = true)) := by
                show ¬ _
                rintro ⟨h1, h2, h3⟩
                first | exact HNE.out h2 | exact absurd h1 (by decide) | (rw [HS4.out] at h3; exact absurd (show false = true from h3) (by decide))
              cases b with
              | true =>
                have hgo := HG1.out
                rw [rowP_yes HNOT.out HPZ.out] at hgo
                have HG2 := Lib.hid hgo
                clear hgo
                go_wp2_with fail
                refine (refStrict_any ⟨p.toArray⟩ _ (by rw [size_mk]; omega)).mono ?_
                rw [mk_list, HS4.out]
                rintro e w2 ⟨rfl, hb2⟩
                have hc2 : Below w1.heap.size w1 w2 := hbw.trans (hb2.mono hbw.size)
                have hown2 := own_below hown hb2
                have hsz2 := hc2.size
                clear hb2 hown
                have hcx3 : w2.cell? ⟨g, k, none⟩ = some (.string ⟨p.toArray⟩) := (hc2.cell (p := ⟨g, k, none⟩) hg).trans HCX.out
                clear hcx2
                go_wp2_with fail
                refine (refPiece_any ⟨p.toArray⟩ _ (by rw [size_mk]; omega)).mono ?_
                rw [mk_list, pieceI_yes HPZ.out]
                rintro e w' ⟨rfl, rfl⟩
                go_wp2_with (at_builtin; refine wp_append1 _ rfl _ _ 34 rfl w1.heap.size 3 i0 (.int .i64 0) 8 Tryd.underlying34 hi hz0 hz1 hz2 rfl _ _ _ rfl hown2 (.int .i64 x) rfl rfl (by omega) (by omega) hsz2 ?_; intro v' w4 hown' hk')
                go_roundw
                case rel => exact ⟨k + 1, n + 1, T ++ [x], by omega, by omega, by go_num, (by rw [List.map_append]; exact hown'), (by show (T ++ [x]).length = n + 1; rw [List.length_append, HTL.out]; rfl), HG2, hc2.trans hk'⟩
                case measure => simp [intOf]; omega
              | false =>
                have HF := Lib.hid (HG1.out.symm.trans (rowP_no HNOT.out HPZ.out))
                go_wp2_with fail
                refine (refStrict_any ⟨p.toArray⟩ _ (by rw [size_mk]; omega)).mono ?_
                rw [mk_list, HS4.out]
                rintro e w2 ⟨rfl, hb2⟩
                have hc2 : Below w1.heap.size w1 w2 := hbw.trans (hb2.mono hbw.size)
                have hown2 := own_below hown hb2
                have hsz2 := hc2.size
                clear hb2 hown
                have hcx3 : w2.cell? ⟨g, k, none⟩ = some (.string ⟨p.toArray⟩) := (hc2.cell (p := ⟨g, k, none⟩) hg).trans HCX.out
                clear hcx2
                go_wp2_with fail
                refine (refPiece_any ⟨p.toArray⟩ _ (by rw [size_mk]; omega)).mono ?_
                rw [mk_list, pieceI_no HPZ.out]
                rintro e w' ⟨rfl, rfl⟩
                go_wp2
                go_ret2
                exact retNums_of HF.out (Nums.nil _ _ _ _) (hb1.trans (hc2.mono hb1.size))
            | false =>
              have HNOT : Hid (¬ (false = true ∧ (colons s.data.toList).drop (k + 1) = [] ∧ (strictZ p).2 = true)) := by
                show ¬ _
                rintro ⟨h1, h2, h3⟩
                first | exact HNE.out h2 | exact absurd h1 (by decide) | (rw [HS4.out] at h3; exact absurd (show false = true from h3) (by decide))
              cases b with
              | true =>
                have hgo := HG1.out
                rw [rowP_yes HNOT.out HPZ.out] at hgo
                have HG2 := Lib.hid hgo
                clear hgo
                go_wp2_with fail
                refine (refStrict_any ⟨p.toArray⟩ _ (by rw [size_mk]; omega)).mono ?_
                rw [mk_list, HS4.out]
                rintro e w2 ⟨rfl, hb2⟩
                have hc2 : Below w1.heap.size w1 w2 := hbw.trans (hb2.mono hbw.size)
                have hown2 := own_below hown hb2
                have hsz2 := hc2.size
                clear hb2 hown
                have hcx3 : w2.cell? ⟨g, k, none⟩ = some (.string ⟨p.toArray⟩) := (hc2.cell (p := ⟨g, k, none⟩) hg).trans HCX.out
                clear hcx2
                go_wp2_with fail
                refine (refPiece_any ⟨p.toArray⟩ _ (by rw [size_mk]; omega)).mono ?_
                rw [mk_list, pieceI_yes HPZ.out]
                rintro e w' ⟨rfl, rfl⟩
                go_wp2_with (at_builtin; refine wp_append1 _ rfl _ _ 34 rfl w1.heap.size 3 i0 (.int .i64 0) 8 Tryd.underlying34 hi hz0 hz1 hz2 rfl _ _ _ rfl hown2 (.int .i64 x) rfl rfl (by omega) (by omega) hsz2 ?_; intro v' w4 hown' hk')
                go_roundw
                case rel => exact ⟨k + 1, n + 1, T ++ [x], by omega, by omega, by go_num, (by rw [List.map_append]; exact hown'), (by show (T ++ [x]).length = n + 1; rw [List.length_append, HTL.out]; rfl), HG2, hc2.trans hk'⟩
                case measure => simp [intOf]; omega
              | false =>
                have HF := Lib.hid (HG1.out.symm.trans (rowP_no HNOT.out HPZ.out))
                go_wp2_with fail
                refine (refStrict_any ⟨p.toArray⟩ _ (by rw [size_mk]; omega)).mono ?_
                rw [mk_list, HS4.out]
                rintro e w2 ⟨rfl, hb2⟩
                have hc2 : Below w1.heap.size w1 w2 := hbw.trans (hb2.mono hbw.size)
                have hown2 := own_below hown hb2
                have hsz2 := hc2.size
                clear hb2 hown
                have hcx3 : w2.cell? ⟨g, k, none⟩ = some (.string ⟨p.toArray⟩) := (hc2.cell (p := ⟨g, k, none⟩) hg).trans HCX.out
                clear hcx2
                go_wp2_with fail
                refine (refPiece_any ⟨p.toArray⟩ _ (by rw [size_mk]; omega)).mono ?_
                rw [mk_list, pieceI_no HPZ.out]
                rintro e w' ⟨rfl, rfl⟩
                go_wp2
                go_ret2
                exact retNums_of HF.out (Nums.nil _ _ _ _) (hb1.trans (hc2.mono hb1.size))
      · obtain rfl : k = m := by omega
        have hfin := HG.out
        rw [drop_end1 k _ (by rw [HM.out]; omega), rowP_nil] at hfin
        have HF := Lib.hid hfin.symm
        clear hfin
        go_wp2
        go_ret2
        exact retNums_of HF.out (Nums.mono (show Nums _ _ _ _ _ _ from by unfold Nums; rw [HTL.out]; exact hown) hb1.size) (hb1.trans (hbw.mono hb1.size))
end Go.Proofs.YtgmfgcpfpopboaaDoor
