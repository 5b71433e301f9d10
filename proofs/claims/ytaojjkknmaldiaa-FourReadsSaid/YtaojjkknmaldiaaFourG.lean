/-
  Layer 4: the reference's Strict.
-/
import Derived.Test.YtaojjkknmaldiaaFourF
import Derived.Test.YtaojjkknmaldiaaNumD
namespace Go.Proofs.Ytaojjkknmaldiaa
open Go.RowKit


set_option maxRecDepth 100000 in
set_option maxHeartbeats 4000000 in
theorem refStrict_any (s : ByteArray) (w : World) (hs : s.size ≤ 1073741824) :
    Calls Try.prog 17 #[.string s] w (RetAddr w (strictZ s.data.toList)) := by
  by_cases hl : (dotted s.data.toList).length = 4
  · have HL := Lib.hid hl
    have HZ := Lib.hid (strictZ_four hl)
    clear hl
    go_enter Try.func17, Try.ntmps17
    go_wp2_with fail
    refine (refSplit_any s _ _ hs (by decide)).mono ?_
    rintro e w1 ⟨v, rfl, hp, hb1⟩
    have hp' : Parts w.heap.size w1 v (dotted s.data.toList) := hp
    obtain ⟨g, cap, rfl, hcap, hg, hcell⟩ := hp'.form2 (by rw [HL.out]; omega)
    rw [HL.out] at hcap hcell ⊢
    have HCELL := Lib.hid hcell
    clear hp hp' hcell
    go_wp2
    go_loopw [5, 6] (fun v i wr => ∃ (k : Nat) (A : Int), k ≤ 4 ∧ i = .int .i64 k ∧ v = .int .u32 A ∧ 0 ≤ A ∧ Hid (A < 256 ^ k) ∧ Hid (goS A ((dotted s.data.toList).drop k) = strictZ s.data.toList) ∧ Below w1.heap.size w1 wr) (fun _ i _ => 4 - (intOf i).toNat)
    case atStart => exact ⟨0, 0, by omega, rfl, rfl, by omega, (by show (0 : Int) < 256 ^ 0; decide), HZ.out.symm, Below.refl _ _⟩
    case round =>
      obtain ⟨k, A, hk, rfl, rfl, hA0, HM, HG, hbw⟩ := hrel
      by_cases hk4 : k < 4
      · obtain ⟨p, hpk⟩ : ∃ p, (dotted s.data.toList).getD k [] = p := ⟨_, rfl⟩
        have hcx := HCELL.out k hk4
        rw [hpk] at hcx
        have hcx2 : wr.cell? ⟨g, k, none⟩ = some (.string ⟨p.toArray⟩) := (hbw.cell (p := ⟨g, k, none⟩) hg).trans hcx
        have hpl : p.length ≤ s.size := by rw [← hpk, ← size_list]; exact part_len _ _ _
        obtain ⟨x, b, hpz⟩ : ∃ x b, decZ p 255 = (x, b) := ⟨_, _, rfl⟩
        have hx : 0 ≤ x ∧ x ≤ 255 := by have h9 := decZ_bounds p 255 (by decide); rw [hpz] at h9; exact h9
        obtain ⟨hx0, hx1⟩ := hx
        have hA1 : A < 16777216 := by
          have h1 := HM.out
          rcases (show k = 0 ∨ k = 1 ∨ k = 2 ∨ k = 3 from by omega) with rfl | rfl | rfl | rfl
          all_goals
            simp at h1
            omega
        have hA2 : A * 256 + x < 256 ^ (k + 1) := by
          have h1 := HM.out
          rcases (show k = 0 ∨ k = 1 ∨ k = 2 ∨ k = 3 from by omega) with rfl | rfl | rfl | rfl
          all_goals
            simp at h1 ⊢
            omega
        have HA2 := Lib.hid hA2
        have HP := Lib.hid hpk
        have HPZ := Lib.hid hpz
        clear hpk hpz hcx hA2
        cases b with
        | true =>
          have hgo := HG.out
          rw [goS_yes k A _ p x (by rw [HL.out]; exact hk4) HP.out HPZ.out] at hgo
          have HG2 := Lib.hid hgo
          clear hgo
          go_wp2_with fail
          refine (refDecimal_any ⟨p.toArray⟩ 255 _ (by rw [size_mk]; omega) (by decide) (by decide)).mono ?_
          rw [mk_list, HPZ.out]
          rintro e w2 ⟨rfl, hb2⟩
          have hc2 : Below w1.heap.size w1 w2 := hbw.trans (hb2.mono hbw.size)
          clear hb2
          go_wp2
          go_roundw
          case rel => exact ⟨k + 1, A * 256 + x, by omega, by go_num, rfl, by omega, HA2, HG2, hc2⟩
          case measure => simp [intOf]; omega
        | false =>
          have HN := Lib.hid (HG.out.symm.trans (goS_no k A _ p x (by rw [HL.out]; exact hk4) HP.out HPZ.out))
          go_wp2_with fail
          refine (refDecimal_any ⟨p.toArray⟩ 255 _ (by rw [size_mk]; omega) (by decide) (by decide)).mono ?_
          rw [mk_list, HPZ.out]
          rintro e w2 ⟨rfl, hb2⟩
          have hc2 : Below w1.heap.size w1 w2 := hbw.trans (hb2.mono hbw.size)
          clear hb2
          go_wp2
          go_ret2
          exact retAddr_of HN.out (hb1.trans (hc2.mono hb1.size))
      · have hfin := HG.out
        rw [goS_end k A _ (by rw [HL.out]; omega)] at hfin
        have HF := Lib.hid hfin.symm
        clear hfin
        go_wp2
        go_ret2
        exact retAddr_of HF.out (hb1.trans (hbw.mono hb1.size))
  · obtain ⟨m, hm⟩ : ∃ m, (dotted s.data.toList).length = m := ⟨_, rfl⟩
    have HZ := Lib.hid (strictZ_no hl)
    have h0 : 0 < (dotted s.data.toList).length := splitB_ne _ _
    rw [hm] at hl h0
    have hmb : m ≤ 1073741825 := by
      have h1 := splitB_len (hasB [46]) s.data.toList
      rw [size_list] at h1
      have h2 := hm
      unfold dotted at h2
      omega
    have hne : ((m : Int) != 4) = true := by rw [bne_iff_ne]; omega
    have HM := Lib.hid hm
    clear hm hl
    go_enter Try.func17, Try.ntmps17
    go_wp2_with fail
    refine (refSplit_any s _ _ hs (by decide)).mono ?_
    rintro e w1 ⟨v, rfl, hp, hb1⟩
    have hp' : Parts w.heap.size w1 v (dotted s.data.toList) := hp
    obtain ⟨g, cap, rfl, hcap, hg, hcell⟩ := hp'.form2 (by rw [HM.out]; omega)
    rw [HM.out]
    clear hp hp' hcell hcap
    go_wp2
    go_ret2
    exact retAddr_of HZ.out hb1

end Go.Proofs.Ytaojjkknmaldiaa
