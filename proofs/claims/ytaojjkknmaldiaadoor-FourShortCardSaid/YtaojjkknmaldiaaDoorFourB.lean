/-
  Layer 4: Parse, walked.
-/
import Derived.Test.YtaojjkknmaldiaaDoorFourA
namespace Go.Proofs.YtaojjkknmaldiaaDoor
open Go.RowKit


set_option maxRecDepth 100000 in
set_option maxHeartbeats 4000000 in
theorem parse4_one (s : ByteArray) (w : World) (hs : s.size ≤ 1073741824) (hl : (dotted s.data.toList).length = 1) :
    Calls Tryd.prog 15 #[.string s] w (RetAddr w (fourZ s.data.toList)) := by
  have HK := Lib.hid (keptN_last 0 _ hl (.inl rfl))
  have HL := Lib.hid hl
  clear hl
  have HZ := Lib.hid (fourZ_of HK.out (by omega))
  go_enter Tryd.func15, Tryd.ntmps15
  go_wp2_with fail
  refine (split_any s _ _ hs).mono ?_
  rintro e w1 ⟨v, rfl, hp, hb1⟩
  have hp' : Parts w.heap.size w1 v (dotted s.data.toList) := hp
  obtain ⟨g, cap, rfl, hcap, hg, hcell⟩ := hp'.form2 (by rw [HL.out]; omega)
  rw [HL.out] at hcap hcell ⊢
  have HCELL := Lib.hid hcell
  clear hp hp' hcell
  go_wp2
  go_loopw [6, 36] (fun v i wr => ∃ (k : Nat) (A : Int), k ≤ 1 ∧ i = .int .i64 k ∧ v = .int .u32 A ∧ 0 ≤ A ∧ A < 4294967296 ∧ Hid (k ≤ 0 → A % 2 ^ (32 - 8 * k) = 0) ∧ Hid (goF 1 k A (((dotted s.data.toList).take 1).drop k) = fourZ s.data.toList) ∧ Below w1.heap.size w1 wr) (fun _ i _ => 1 - (intOf i).toNat)
  case atStart => exact ⟨0, 0, by omega, rfl, rfl, by omega, by omega, fun _ => rfl, HZ.out.symm, Below.refl _ _⟩
  case round =>
    obtain ⟨k, A, hk, rfl, rfl, hA0, hA1, HM, HG, hbw⟩ := hrel
    by_cases hkL : k ≤ 0
    · obtain ⟨p, hpk⟩ : ∃ p, (dotted s.data.toList).getD k [] = p := ⟨_, rfl⟩
      by_cases hLk : k = 0
      · obtain rfl : k = 0 := by omega
        have hp : (dotted s.data.toList).getD 0 [] = p := hpk
        have hcx := HCELL.out 0 (by omega)
        rw [hp] at hcx
        have hcx2 : wr.cell? ⟨g, 0, none⟩ = some (.string ⟨p.toArray⟩) := (hbw.cell (p := ⟨g, 0, none⟩) hg).trans hcx
        obtain ⟨x, b, hpz⟩ : ∃ x b, parseZ p = (x, b) := ⟨_, _, rfl⟩
        have hx0 : 0 ≤ x ∧ x ≤ 1099511627776 := by have h9 := parseZ_bounds p; rw [hpz] at h9; exact h9
        obtain ⟨hx0, hx1⟩ := hx0
        have hpl : p.length ≤ s.size := by rw [← hp, ← size_list]; exact part_len _ _ _
        have hlim : limZ 1 0 = 4294967296 := by first | rfl | (subst hLk; rfl)
        have hwt : wtZ 1 0 = 1 := by first | rfl | (subst hLk; rfl)
        have hA : A % 2 ^ 32 = 0 := HM.out (by omega)
        have HP := Lib.hid hp
        have HPZ := Lib.hid hpz
        have HLIM := Lib.hid hlim
        have HWT := Lib.hid hwt
        have hLk1 : 0 ≤ 0 := by omega
        clear hp hpz hlim hwt hcx hpk hLk
        try rw [show ((0 : Nat) : Int) = 0 from rfl]
        by_cases hok : b = true ∧ x < 4294967296
        · obtain ⟨rfl, hxl⟩ := hok
          have hor : bits .or .u32 A x = A + x := u32_join 32 A _ hA0 hA hA1 (by omega) (by omega) (by omega)
          have hgo := HG.out
          rw [goF_yes 1 0 A _ p x (by omega) (by rw [HL.out]; omega) HP.out HPZ.out (by rw [HLIM.out]; exact hxl), HWT.out] at hgo
          have HG2 := Lib.hid hgo
          have HA := Lib.hid hA
          clear hgo hA
          go_wp2_with fail
          refine (parse_any ⟨p.toArray⟩ _ (by rw [size_mk]; omega)).mono ?_
          rw [mk_list, HPZ.out]
          rintro e w2 ⟨rfl, hb2⟩
          have hc2 : Below w1.heap.size w1 w2 := hbw.trans (hb2.mono hbw.size)
          clear hb2

          go_wp2
          go_roundw
          case rel =>
            refine ⟨1, A + x, by omega, (by first | rfl | go_num), rfl, by omega, ?_, ?_, ?_, hc2⟩
            · have := HA.out; omega
            · exact Lib.hid (fun h => by omega)
            · rw [Int.mul_one] at HG2; exact HG2
          case measure => first | (simp [intOf]; done) | (simp [intOf]; omega)
        · have HN := Lib.hid (HG.out.symm.trans (goF_no 1 0 A _ p x b (by omega) (by rw [HL.out]; omega) HP.out HPZ.out (by rw [HLIM.out]; cases b with | false => exact .inl rfl | true => exact .inr (by have h8 : ¬ x < 4294967296 := fun h => hok ⟨rfl, h⟩; omega))))
          have HOK := Lib.hid hok
          clear hok
          cases b with
          | false =>
            go_wp2_with fail
            refine (parse_any ⟨p.toArray⟩ _ (by rw [size_mk]; omega)).mono ?_
            rw [mk_list, HPZ.out]
            rintro e w2 ⟨rfl, hb2⟩
            have hc2 : Below w1.heap.size w1 w2 := hbw.trans (hb2.mono hbw.size)
            clear hb2

            go_wp2
            go_ret2
            exact retAddr_of HN.out (hb1.trans (hc2.mono hb1.size))
          | true =>
            have hxl : 4294967296 ≤ x := by have h8 : ¬ x < 4294967296 := fun h => HOK.out ⟨rfl, h⟩; omega
            go_wp2_with fail
            refine (parse_any ⟨p.toArray⟩ _ (by rw [size_mk]; omega)).mono ?_
            rw [mk_list, HPZ.out]
            rintro e w2 ⟨rfl, hb2⟩
            have hc2 : Below w1.heap.size w1 w2 := hbw.trans (hb2.mono hbw.size)
            clear hb2

            go_wp2
            go_ret2
            exact retAddr_of HN.out (hb1.trans (hc2.mono hb1.size))
      · omega
    · obtain rfl : k = 1 := by omega
      have hfin := HG.out
      rw [goF_end 1 1 A _ (Nat.le_refl _)] at hfin
      have HF := Lib.hid hfin.symm
      clear hfin
      go_wp2
      go_ret2
      exact retAddr_of HF.out (hb1.trans (hbw.mono hb1.size))

set_option maxRecDepth 100000 in
set_option maxHeartbeats 4000000 in
theorem parse4_last2 (s : ByteArray) (w : World) (hs : s.size ≤ 1073741824) (L : Nat) (hL0 : 1 ≤ L) (hl : (dotted s.data.toList).length = L + 1) (x : List UInt8) (hx : (dotted s.data.toList).getD L [] = x) (hne : x ≠ []) (hL3 : L ≤ 3) :
    Calls Tryd.prog 15 #[.string s] w (RetAddr w (fourZ s.data.toList)) := by
  have HK := Lib.hid (keptN_last L _ hl (.inr (by rw [hx]; exact hne)))
  have HX := Lib.hid hx
  have hxe : x.isEmpty = false := isEmpty_false hne
  clear hx hne
  have HL := Lib.hid hl
  clear hl
  have HZ := Lib.hid (fourZ_of HK.out (by omega))
  go_enter Tryd.func15, Tryd.ntmps15
  go_wp2_with fail
  refine (split_any s _ _ hs).mono ?_
  rintro e w1 ⟨v, rfl, hp, hb1⟩
  have hp' : Parts w.heap.size w1 v (dotted s.data.toList) := hp
  obtain ⟨g, cap, rfl, hcap, hg, hcell⟩ := hp'.form2 (by rw [HL.out]; omega)
  rw [HL.out] at hcap hcell ⊢
  have hcy := hcell L (by omega)
  rw [HX.out] at hcy
  have HCELL := Lib.hid hcell
  clear hp hp' hcell
  go_wp2
  go_loopw [6, 36] (fun v i wr => ∃ (k : Nat) (A : Int), k ≤ L + 1 ∧ i = .int .i64 k ∧ v = .int .u32 A ∧ 0 ≤ A ∧ A < 4294967296 ∧ Hid (k ≤ L → A % 2 ^ (32 - 8 * k) = 0) ∧ Hid (goF (L + 1) k A (((dotted s.data.toList).take (L + 1)).drop k) = fourZ s.data.toList) ∧ Below w1.heap.size w1 wr) (fun _ i _ => L + 1 - (intOf i).toNat)
  case atStart => exact ⟨0, 0, by omega, rfl, rfl, by omega, by omega, fun _ => rfl, HZ.out.symm, Below.refl _ _⟩
  case round =>
    obtain ⟨k, A, hk, rfl, rfl, hA0, hA1, HM, HG, hbw⟩ := hrel
    by_cases hkL : k ≤ L
    · obtain ⟨p, hpk⟩ : ∃ p, (dotted s.data.toList).getD k [] = p := ⟨_, rfl⟩
      by_cases hLk : k = L
      · rcases (show k = 0 ∨ k = 1 ∨ k = 2 ∨ k = 3 from by omega) with rfl | rfl | rfl | rfl
        · omega
        · have hp : (dotted s.data.toList).getD 1 [] = p := hpk
          have hcx := HCELL.out 1 (by omega)
          rw [hp] at hcx
          have hcx2 : wr.cell? ⟨g, 1, none⟩ = some (.string ⟨p.toArray⟩) := (hbw.cell (p := ⟨g, 1, none⟩) hg).trans hcx
          obtain ⟨x, b, hpz⟩ : ∃ x b, parseZ p = (x, b) := ⟨_, _, rfl⟩
          have hx0 : 0 ≤ x ∧ x ≤ 1099511627776 := by have h9 := parseZ_bounds p; rw [hpz] at h9; exact h9
          obtain ⟨hx0, hx1⟩ := hx0
          have hpl : p.length ≤ s.size := by rw [← hp, ← size_list]; exact part_len _ _ _
          have hlim : limZ (L + 1) 1 = 16777216 := by first | rfl | (subst hLk; rfl)
          have hwt : wtZ (L + 1) 1 = 1 := by first | rfl | (subst hLk; rfl)
          have hA : A % 2 ^ 24 = 0 := HM.out (by omega)
          have HP := Lib.hid hp
          have HPZ := Lib.hid hpz
          have HLIM := Lib.hid hlim
          have HWT := Lib.hid hwt
          have hLk1 : L ≤ 1 := by omega
          clear hp hpz hlim hwt hcx hpk hLk
          try rw [show ((1 : Nat) : Int) = 1 from rfl]
          by_cases hok : b = true ∧ x < 16777216
          · obtain ⟨rfl, hxl⟩ := hok
            have hor : bits .or .u32 A x = A + x := u32_join 24 A _ hA0 hA hA1 (by omega) (by omega) (by omega)
            have hgo := HG.out
            rw [goF_yes (L + 1) 1 A _ p x (by omega) (by rw [HL.out]; omega) HP.out HPZ.out (by rw [HLIM.out]; exact hxl), HWT.out] at hgo
            have HG2 := Lib.hid hgo
            have HA := Lib.hid hA
            clear hgo hA
            go_wp2_with fail
            refine (parse_any ⟨p.toArray⟩ _ (by rw [size_mk]; omega)).mono ?_
            rw [mk_list, HPZ.out]
            rintro e w2 ⟨rfl, hb2⟩
            have hc2 : Below w1.heap.size w1 w2 := hbw.trans (hb2.mono hbw.size)
            clear hb2

            go_wp2
            go_roundw
            case rel =>
              refine ⟨2, A + x, by omega, (by first | rfl | go_num), rfl, by omega, ?_, ?_, ?_, hc2⟩
              · have := HA.out; omega
              · exact Lib.hid (fun h => by omega)
              · rw [Int.mul_one] at HG2; exact HG2
            case measure => first | (simp [intOf]; done) | (simp [intOf]; omega)
          · have HN := Lib.hid (HG.out.symm.trans (goF_no (L + 1) 1 A _ p x b (by omega) (by rw [HL.out]; omega) HP.out HPZ.out (by rw [HLIM.out]; cases b with | false => exact .inl rfl | true => exact .inr (by have h8 : ¬ x < 16777216 := fun h => hok ⟨rfl, h⟩; omega))))
            have HOK := Lib.hid hok
            clear hok
            cases b with
            | false =>
              go_wp2_with fail
              refine (parse_any ⟨p.toArray⟩ _ (by rw [size_mk]; omega)).mono ?_
              rw [mk_list, HPZ.out]
              rintro e w2 ⟨rfl, hb2⟩
              have hc2 : Below w1.heap.size w1 w2 := hbw.trans (hb2.mono hbw.size)
              clear hb2

              go_wp2
              go_ret2
              exact retAddr_of HN.out (hb1.trans (hc2.mono hb1.size))
            | true =>
              have hxl : 16777216 ≤ x := by have h8 : ¬ x < 16777216 := fun h => HOK.out ⟨rfl, h⟩; omega
              go_wp2_with fail
              refine (parse_any ⟨p.toArray⟩ _ (by rw [size_mk]; omega)).mono ?_
              rw [mk_list, HPZ.out]
              rintro e w2 ⟨rfl, hb2⟩
              have hc2 : Below w1.heap.size w1 w2 := hbw.trans (hb2.mono hbw.size)
              clear hb2

              go_wp2
              go_ret2
              exact retAddr_of HN.out (hb1.trans (hc2.mono hb1.size))
        · have hp : (dotted s.data.toList).getD 2 [] = p := hpk
          have hcx := HCELL.out 2 (by omega)
          rw [hp] at hcx
          have hcx2 : wr.cell? ⟨g, 2, none⟩ = some (.string ⟨p.toArray⟩) := (hbw.cell (p := ⟨g, 2, none⟩) hg).trans hcx
          obtain ⟨x, b, hpz⟩ : ∃ x b, parseZ p = (x, b) := ⟨_, _, rfl⟩
          have hx0 : 0 ≤ x ∧ x ≤ 1099511627776 := by have h9 := parseZ_bounds p; rw [hpz] at h9; exact h9
          obtain ⟨hx0, hx1⟩ := hx0
          have hpl : p.length ≤ s.size := by rw [← hp, ← size_list]; exact part_len _ _ _
          have hlim : limZ (L + 1) 2 = 65536 := by first | rfl | (subst hLk; rfl)
          have hwt : wtZ (L + 1) 2 = 1 := by first | rfl | (subst hLk; rfl)
          have hA : A % 2 ^ 16 = 0 := HM.out (by omega)
          have HP := Lib.hid hp
          have HPZ := Lib.hid hpz
          have HLIM := Lib.hid hlim
          have HWT := Lib.hid hwt
          have hLk1 : L ≤ 2 := by omega
          clear hp hpz hlim hwt hcx hpk hLk
          try rw [show ((2 : Nat) : Int) = 2 from rfl]
          by_cases hok : b = true ∧ x < 65536
          · obtain ⟨rfl, hxl⟩ := hok
            have hor : bits .or .u32 A x = A + x := u32_join 16 A _ hA0 hA hA1 (by omega) (by omega) (by omega)
            have hgo := HG.out
            rw [goF_yes (L + 1) 2 A _ p x (by omega) (by rw [HL.out]; omega) HP.out HPZ.out (by rw [HLIM.out]; exact hxl), HWT.out] at hgo
            have HG2 := Lib.hid hgo
            have HA := Lib.hid hA
            clear hgo hA
            go_wp2_with fail
            refine (parse_any ⟨p.toArray⟩ _ (by rw [size_mk]; omega)).mono ?_
            rw [mk_list, HPZ.out]
            rintro e w2 ⟨rfl, hb2⟩
            have hc2 : Below w1.heap.size w1 w2 := hbw.trans (hb2.mono hbw.size)
            clear hb2

            go_wp2
            go_roundw
            case rel =>
              refine ⟨3, A + x, by omega, (by first | rfl | go_num), rfl, by omega, ?_, ?_, ?_, hc2⟩
              · have := HA.out; omega
              · exact Lib.hid (fun h => by omega)
              · rw [Int.mul_one] at HG2; exact HG2
            case measure => first | (simp [intOf]; done) | (simp [intOf]; omega)
          · have HN := Lib.hid (HG.out.symm.trans (goF_no (L + 1) 2 A _ p x b (by omega) (by rw [HL.out]; omega) HP.out HPZ.out (by rw [HLIM.out]; cases b with | false => exact .inl rfl | true => exact .inr (by have h8 : ¬ x < 65536 := fun h => hok ⟨rfl, h⟩; omega))))
            have HOK := Lib.hid hok
            clear hok
            cases b with
            | false =>
              go_wp2_with fail
              refine (parse_any ⟨p.toArray⟩ _ (by rw [size_mk]; omega)).mono ?_
              rw [mk_list, HPZ.out]
              rintro e w2 ⟨rfl, hb2⟩
              have hc2 : Below w1.heap.size w1 w2 := hbw.trans (hb2.mono hbw.size)
              clear hb2

              go_wp2
              go_ret2
              exact retAddr_of HN.out (hb1.trans (hc2.mono hb1.size))
            | true =>
              have hxl : 65536 ≤ x := by have h8 : ¬ x < 65536 := fun h => HOK.out ⟨rfl, h⟩; omega
              go_wp2_with fail
              refine (parse_any ⟨p.toArray⟩ _ (by rw [size_mk]; omega)).mono ?_
              rw [mk_list, HPZ.out]
              rintro e w2 ⟨rfl, hb2⟩
              have hc2 : Below w1.heap.size w1 w2 := hbw.trans (hb2.mono hbw.size)
              clear hb2

              go_wp2
              go_ret2
              exact retAddr_of HN.out (hb1.trans (hc2.mono hb1.size))
        · have hp : (dotted s.data.toList).getD 3 [] = p := hpk
          have hcx := HCELL.out 3 (by omega)
          rw [hp] at hcx
          have hcx2 : wr.cell? ⟨g, 3, none⟩ = some (.string ⟨p.toArray⟩) := (hbw.cell (p := ⟨g, 3, none⟩) hg).trans hcx
          obtain ⟨x, b, hpz⟩ : ∃ x b, parseZ p = (x, b) := ⟨_, _, rfl⟩
          have hx0 : 0 ≤ x ∧ x ≤ 1099511627776 := by have h9 := parseZ_bounds p; rw [hpz] at h9; exact h9
          obtain ⟨hx0, hx1⟩ := hx0
          have hpl : p.length ≤ s.size := by rw [← hp, ← size_list]; exact part_len _ _ _
          have hlim : limZ (L + 1) 3 = 256 := by first | rfl | (subst hLk; rfl)
          have hwt : wtZ (L + 1) 3 = 1 := by first | rfl | (subst hLk; rfl)
          have hA : A % 2 ^ 8 = 0 := HM.out (by omega)
          have HP := Lib.hid hp
          have HPZ := Lib.hid hpz
          have HLIM := Lib.hid hlim
          have HWT := Lib.hid hwt
          have hLk1 : L ≤ 3 := by omega
          clear hp hpz hlim hwt hcx hpk hLk
          try rw [show ((3 : Nat) : Int) = 3 from rfl]
          by_cases hok : b = true ∧ x < 256
          · obtain ⟨rfl, hxl⟩ := hok
            have hor : bits .or .u32 A x = A + x := u32_join 8 A _ hA0 hA hA1 (by omega) (by omega) (by omega)
            have hgo := HG.out
            rw [goF_yes (L + 1) 3 A _ p x (by omega) (by rw [HL.out]; omega) HP.out HPZ.out (by rw [HLIM.out]; exact hxl), HWT.out] at hgo
            have HG2 := Lib.hid hgo
            have HA := Lib.hid hA
            clear hgo hA
            go_wp2_with fail
            refine (parse_any ⟨p.toArray⟩ _ (by rw [size_mk]; omega)).mono ?_
            rw [mk_list, HPZ.out]
            rintro e w2 ⟨rfl, hb2⟩
            have hc2 : Below w1.heap.size w1 w2 := hbw.trans (hb2.mono hbw.size)
            clear hb2

            go_wp2
            go_roundw
            case rel =>
              refine ⟨4, A + x, by omega, (by first | rfl | go_num), rfl, by omega, ?_, ?_, ?_, hc2⟩
              · have := HA.out; omega
              · exact Lib.hid (fun h => by omega)
              · rw [Int.mul_one] at HG2; exact HG2
            case measure => first | (simp [intOf]; done) | (simp [intOf]; omega)
          · have HN := Lib.hid (HG.out.symm.trans (goF_no (L + 1) 3 A _ p x b (by omega) (by rw [HL.out]; omega) HP.out HPZ.out (by rw [HLIM.out]; cases b with | false => exact .inl rfl | true => exact .inr (by have h8 : ¬ x < 256 := fun h => hok ⟨rfl, h⟩; omega))))
            have HOK := Lib.hid hok
            clear hok
            cases b with
            | false =>
              go_wp2_with fail
              refine (parse_any ⟨p.toArray⟩ _ (by rw [size_mk]; omega)).mono ?_
              rw [mk_list, HPZ.out]
              rintro e w2 ⟨rfl, hb2⟩
              have hc2 : Below w1.heap.size w1 w2 := hbw.trans (hb2.mono hbw.size)
              clear hb2

              go_wp2
              go_ret2
              exact retAddr_of HN.out (hb1.trans (hc2.mono hb1.size))
            | true =>
              have hxl : 256 ≤ x := by have h8 : ¬ x < 256 := fun h => HOK.out ⟨rfl, h⟩; omega
              go_wp2_with fail
              refine (parse_any ⟨p.toArray⟩ _ (by rw [size_mk]; omega)).mono ?_
              rw [mk_list, HPZ.out]
              rintro e w2 ⟨rfl, hb2⟩
              have hc2 : Below w1.heap.size w1 w2 := hbw.trans (hb2.mono hbw.size)
              clear hb2

              go_wp2
              go_ret2
              exact retAddr_of HN.out (hb1.trans (hc2.mono hb1.size))
      · rcases (show k = 0 ∨ k = 1 ∨ k = 2 from by omega) with rfl | rfl | rfl
        · have hp : (dotted s.data.toList).getD 0 [] = p := hpk
          have hcx := HCELL.out 0 (by omega)
          rw [hp] at hcx
          have hcx2 : wr.cell? ⟨g, 0, none⟩ = some (.string ⟨p.toArray⟩) := (hbw.cell (p := ⟨g, 0, none⟩) hg).trans hcx
          obtain ⟨x, b, hpz⟩ : ∃ x b, parseZ p = (x, b) := ⟨_, _, rfl⟩
          have hx0 : 0 ≤ x ∧ x ≤ 1099511627776 := by have h9 := parseZ_bounds p; rw [hpz] at h9; exact h9
          obtain ⟨hx0, hx1⟩ := hx0
          have hpl : p.length ≤ s.size := by rw [← hp, ← size_list]; exact part_len _ _ _
          have hlim : limZ (L + 1) 0 = 256 := by unfold limZ; rw [if_neg (by omega)]
          have hwt : wtZ (L + 1) 0 = 16777216 := by unfold wtZ; rw [if_neg (by omega)]; rfl
          have hA : A % 2 ^ 32 = 0 := HM.out (by omega)
          have HP := Lib.hid hp
          have HPZ := Lib.hid hpz
          have HLIM := Lib.hid hlim
          have HWT := Lib.hid hwt
          have hLk1 : 1 ≤ L := by omega
          clear hp hpz hlim hwt hcx hpk hLk
          try rw [show ((0 : Nat) : Int) = 0 from rfl]
          by_cases hok : b = true ∧ x < 256
          · obtain ⟨rfl, hxl⟩ := hok
            have hor : bits .or .u32 A (x * 16777216) = A + x * 16777216 := u32_join 32 A _ hA0 hA hA1 (by omega) (by omega) (by omega)
            have hgo := HG.out
            rw [goF_yes (L + 1) 0 A _ p x (by omega) (by rw [HL.out]; omega) HP.out HPZ.out (by rw [HLIM.out]; exact hxl), HWT.out] at hgo
            have HG2 := Lib.hid hgo
            have HA := Lib.hid hA
            clear hgo hA
            go_wp2_with fail
            refine (parse_any ⟨p.toArray⟩ _ (by rw [size_mk]; omega)).mono ?_
            rw [mk_list, HPZ.out]
            rintro e w2 ⟨rfl, hb2⟩
            have hc2 : Below w1.heap.size w1 w2 := hbw.trans (hb2.mono hbw.size)
            clear hb2

            go_wp2
            go_roundw
            case rel =>
              refine ⟨1, A + x * 16777216, by omega, (by first | rfl | go_num), rfl, by omega, ?_, ?_, ?_, hc2⟩
              · have := HA.out; omega
              · refine Lib.hid (fun _ => ?_); have := HA.out; omega
              · exact HG2
            case measure => first | (simp [intOf]; done) | (simp [intOf]; omega)
          · have HN := Lib.hid (HG.out.symm.trans (goF_no (L + 1) 0 A _ p x b (by omega) (by rw [HL.out]; omega) HP.out HPZ.out (by rw [HLIM.out]; cases b with | false => exact .inl rfl | true => exact .inr (by have h8 : ¬ x < 256 := fun h => hok ⟨rfl, h⟩; omega))))
            have HOK := Lib.hid hok
            clear hok
            cases b with
            | false =>
              go_wp2_with fail
              refine (parse_any ⟨p.toArray⟩ _ (by rw [size_mk]; omega)).mono ?_
              rw [mk_list, HPZ.out]
              rintro e w2 ⟨rfl, hb2⟩
              have hc2 : Below w1.heap.size w1 w2 := hbw.trans (hb2.mono hbw.size)
              clear hb2

              go_wp2
              go_ret2
              exact retAddr_of HN.out (hb1.trans (hc2.mono hb1.size))
            | true =>
              have hxl : 256 ≤ x := by have h8 : ¬ x < 256 := fun h => HOK.out ⟨rfl, h⟩; omega
              go_wp2_with fail
              refine (parse_any ⟨p.toArray⟩ _ (by rw [size_mk]; omega)).mono ?_
              rw [mk_list, HPZ.out]
              rintro e w2 ⟨rfl, hb2⟩
              have hc2 : Below w1.heap.size w1 w2 := hbw.trans (hb2.mono hbw.size)
              clear hb2

              go_wp2
              go_ret2
              exact retAddr_of HN.out (hb1.trans (hc2.mono hb1.size))
        · have hp : (dotted s.data.toList).getD 1 [] = p := hpk
          have hcx := HCELL.out 1 (by omega)
          rw [hp] at hcx
          have hcx2 : wr.cell? ⟨g, 1, none⟩ = some (.string ⟨p.toArray⟩) := (hbw.cell (p := ⟨g, 1, none⟩) hg).trans hcx
          obtain ⟨x, b, hpz⟩ : ∃ x b, parseZ p = (x, b) := ⟨_, _, rfl⟩
          have hx0 : 0 ≤ x ∧ x ≤ 1099511627776 := by have h9 := parseZ_bounds p; rw [hpz] at h9; exact h9
          obtain ⟨hx0, hx1⟩ := hx0
          have hpl : p.length ≤ s.size := by rw [← hp, ← size_list]; exact part_len _ _ _
          have hlim : limZ (L + 1) 1 = 256 := by unfold limZ; rw [if_neg (by omega)]
          have hwt : wtZ (L + 1) 1 = 65536 := by unfold wtZ; rw [if_neg (by omega)]; rfl
          have hA : A % 2 ^ 24 = 0 := HM.out (by omega)
          have HP := Lib.hid hp
          have HPZ := Lib.hid hpz
          have HLIM := Lib.hid hlim
          have HWT := Lib.hid hwt
          have hLk1 : 2 ≤ L := by omega
          clear hp hpz hlim hwt hcx hpk hLk
          try rw [show ((1 : Nat) : Int) = 1 from rfl]
          by_cases hok : b = true ∧ x < 256
          · obtain ⟨rfl, hxl⟩ := hok
            have hor : bits .or .u32 A (x * 65536) = A + x * 65536 := u32_join 24 A _ hA0 hA hA1 (by omega) (by omega) (by omega)
            have hgo := HG.out
            rw [goF_yes (L + 1) 1 A _ p x (by omega) (by rw [HL.out]; omega) HP.out HPZ.out (by rw [HLIM.out]; exact hxl), HWT.out] at hgo
            have HG2 := Lib.hid hgo
            have HA := Lib.hid hA
            clear hgo hA
            go_wp2_with fail
            refine (parse_any ⟨p.toArray⟩ _ (by rw [size_mk]; omega)).mono ?_
            rw [mk_list, HPZ.out]
            rintro e w2 ⟨rfl, hb2⟩
            have hc2 : Below w1.heap.size w1 w2 := hbw.trans (hb2.mono hbw.size)
            clear hb2

            go_wp2
            go_roundw
            case rel =>
              refine ⟨2, A + x * 65536, by omega, (by first | rfl | go_num), rfl, by omega, ?_, ?_, ?_, hc2⟩
              · have := HA.out; omega
              · refine Lib.hid (fun _ => ?_); have := HA.out; omega
              · exact HG2
            case measure => first | (simp [intOf]; done) | (simp [intOf]; omega)
          · have HN := Lib.hid (HG.out.symm.trans (goF_no (L + 1) 1 A _ p x b (by omega) (by rw [HL.out]; omega) HP.out HPZ.out (by rw [HLIM.out]; cases b with | false => exact .inl rfl | true => exact .inr (by have h8 : ¬ x < 256 := fun h => hok ⟨rfl, h⟩; omega))))
            have HOK := Lib.hid hok
            clear hok
            cases b with
            | false =>
              go_wp2_with fail
              refine (parse_any ⟨p.toArray⟩ _ (by rw [size_mk]; omega)).mono ?_
              rw [mk_list, HPZ.out]
              rintro e w2 ⟨rfl, hb2⟩
              have hc2 : Below w1.heap.size w1 w2 := hbw.trans (hb2.mono hbw.size)
              clear hb2

              go_wp2
              go_ret2
              exact retAddr_of HN.out (hb1.trans (hc2.mono hb1.size))
            | true =>
              have hxl : 256 ≤ x := by have h8 : ¬ x < 256 := fun h => HOK.out ⟨rfl, h⟩; omega
              go_wp2_with fail
              refine (parse_any ⟨p.toArray⟩ _ (by rw [size_mk]; omega)).mono ?_
              rw [mk_list, HPZ.out]
              rintro e w2 ⟨rfl, hb2⟩
              have hc2 : Below w1.heap.size w1 w2 := hbw.trans (hb2.mono hbw.size)
              clear hb2

              go_wp2
              go_ret2
              exact retAddr_of HN.out (hb1.trans (hc2.mono hb1.size))
        · have hp : (dotted s.data.toList).getD 2 [] = p := hpk
          have hcx := HCELL.out 2 (by omega)
          rw [hp] at hcx
          have hcx2 : wr.cell? ⟨g, 2, none⟩ = some (.string ⟨p.toArray⟩) := (hbw.cell (p := ⟨g, 2, none⟩) hg).trans hcx
          obtain ⟨x, b, hpz⟩ : ∃ x b, parseZ p = (x, b) := ⟨_, _, rfl⟩
          have hx0 : 0 ≤ x ∧ x ≤ 1099511627776 := by have h9 := parseZ_bounds p; rw [hpz] at h9; exact h9
          obtain ⟨hx0, hx1⟩ := hx0
          have hpl : p.length ≤ s.size := by rw [← hp, ← size_list]; exact part_len _ _ _
          have hlim : limZ (L + 1) 2 = 256 := by unfold limZ; rw [if_neg (by omega)]
          have hwt : wtZ (L + 1) 2 = 256 := by unfold wtZ; rw [if_neg (by omega)]; rfl
          have hA : A % 2 ^ 16 = 0 := HM.out (by omega)
          have HP := Lib.hid hp
          have HPZ := Lib.hid hpz
          have HLIM := Lib.hid hlim
          have HWT := Lib.hid hwt
          have hLk1 : 3 ≤ L := by omega
          clear hp hpz hlim hwt hcx hpk hLk
          try rw [show ((2 : Nat) : Int) = 2 from rfl]
          by_cases hok : b = true ∧ x < 256
          · obtain ⟨rfl, hxl⟩ := hok
            have hor : bits .or .u32 A (x * 256) = A + x * 256 := u32_join 16 A _ hA0 hA hA1 (by omega) (by omega) (by omega)
            have hgo := HG.out
            rw [goF_yes (L + 1) 2 A _ p x (by omega) (by rw [HL.out]; omega) HP.out HPZ.out (by rw [HLIM.out]; exact hxl), HWT.out] at hgo
            have HG2 := Lib.hid hgo
            have HA := Lib.hid hA
            clear hgo hA
            go_wp2_with fail
            refine (parse_any ⟨p.toArray⟩ _ (by rw [size_mk]; omega)).mono ?_
            rw [mk_list, HPZ.out]
            rintro e w2 ⟨rfl, hb2⟩
            have hc2 : Below w1.heap.size w1 w2 := hbw.trans (hb2.mono hbw.size)
            clear hb2

            go_wp2
            go_roundw
            case rel =>
              refine ⟨3, A + x * 256, by omega, (by first | rfl | go_num), rfl, by omega, ?_, ?_, ?_, hc2⟩
              · have := HA.out; omega
              · refine Lib.hid (fun _ => ?_); have := HA.out; omega
              · exact HG2
            case measure => first | (simp [intOf]; done) | (simp [intOf]; omega)
          · have HN := Lib.hid (HG.out.symm.trans (goF_no (L + 1) 2 A _ p x b (by omega) (by rw [HL.out]; omega) HP.out HPZ.out (by rw [HLIM.out]; cases b with | false => exact .inl rfl | true => exact .inr (by have h8 : ¬ x < 256 := fun h => hok ⟨rfl, h⟩; omega))))
            have HOK := Lib.hid hok
            clear hok
            cases b with
            | false =>
              go_wp2_with fail
              refine (parse_any ⟨p.toArray⟩ _ (by rw [size_mk]; omega)).mono ?_
              rw [mk_list, HPZ.out]
              rintro e w2 ⟨rfl, hb2⟩
              have hc2 : Below w1.heap.size w1 w2 := hbw.trans (hb2.mono hbw.size)
              clear hb2

              go_wp2
              go_ret2
              exact retAddr_of HN.out (hb1.trans (hc2.mono hb1.size))
            | true =>
              have hxl : 256 ≤ x := by have h8 : ¬ x < 256 := fun h => HOK.out ⟨rfl, h⟩; omega
              go_wp2_with fail
              refine (parse_any ⟨p.toArray⟩ _ (by rw [size_mk]; omega)).mono ?_
              rw [mk_list, HPZ.out]
              rintro e w2 ⟨rfl, hb2⟩
              have hc2 : Below w1.heap.size w1 w2 := hbw.trans (hb2.mono hbw.size)
              clear hb2

              go_wp2
              go_ret2
              exact retAddr_of HN.out (hb1.trans (hc2.mono hb1.size))
    · obtain rfl : k = L + 1 := by omega
      have hfin := HG.out
      rw [goF_end (L + 1) (L + 1) A _ (Nat.le_refl _)] at hfin
      have HF := Lib.hid hfin.symm
      clear hfin
      go_wp2
      go_ret2
      exact retAddr_of HF.out (hb1.trans (hbw.mono hb1.size))

set_option maxRecDepth 100000 in
set_option maxHeartbeats 4000000 in
theorem parse4_last2_many (s : ByteArray) (w : World) (hs : s.size ≤ 1073741824) (L : Nat) (hL0 : 1 ≤ L) (hl : (dotted s.data.toList).length = L + 1) (x : List UInt8) (hx : (dotted s.data.toList).getD L [] = x) (hne : x ≠ []) (hL3 : 3 < L) :
    Calls Tryd.prog 15 #[.string s] w (RetAddr w (fourZ s.data.toList)) := by
  have HK := Lib.hid (keptN_last L _ hl (.inr (by rw [hx]; exact hne)))
  have HX := Lib.hid hx
  have hxe : x.isEmpty = false := isEmpty_false hne
  clear hx hne
  have HL := Lib.hid hl
  clear hl
  have HZ := Lib.hid (fourZ_many HK.out (by omega))
  have hnb : L ≤ 1073741824 := by
    have h1 := splitB_len (hasB [46]) s.data.toList
    rw [size_list] at h1
    have h2 := HL.out
    unfold dotted at h2
    omega
  go_enter Tryd.func15, Tryd.ntmps15
  go_wp2_with fail
  refine (split_any s _ _ hs).mono ?_
  rintro e w1 ⟨v, rfl, hp, hb1⟩
  have hp' : Parts w.heap.size w1 v (dotted s.data.toList) := hp
  obtain ⟨g, cap, rfl, hcap, hg, hcell⟩ := hp'.form2 (by rw [HL.out]; omega)
  rw [HL.out] at hcap hcell ⊢
  have hcy := hcell L (by omega)
  rw [HX.out] at hcy
  have HCELL := Lib.hid hcell
  clear hp hp' hcell
  go_wp2
  go_ret2
  exact retAddr_of HZ.out hb1

end Go.Proofs.YtaojjkknmaldiaaDoor
