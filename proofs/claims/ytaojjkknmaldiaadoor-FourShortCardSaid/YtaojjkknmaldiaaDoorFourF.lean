/-
  Layer 4: Strict, the program's; Of.
-/
import Derived.Test.YtaojjkknmaldiaaDoorFourA
import Derived.Test.YtaojjkknmaldiaaDoorNumC
namespace Go.Proofs.YtaojjkknmaldiaaDoor
open Go.RowKit


/-- four decimal parts of at most 255 each -/
def goS : Int → List (List UInt8) → Int × Bool
  | A, [] => (A, true)
  | A, p :: r => if (decZ p 255).2 = true then goS (A * 256 + (decZ p 255).1) r else (0, false)
def strictZ (l : List UInt8) : Int × Bool := if (dotted l).length = 4 then goS 0 (dotted l) else (0, false)

theorem decZ_bounds (l : List UInt8) (m : Int) (hm : 0 ≤ m) : 0 ≤ (decZ l m).1 ∧ (decZ l m).1 ≤ m := by
  unfold decZ
  split
  · exact ⟨Int.le_refl _, hm⟩
  · rename_i h
    split
    · exact ⟨Int.le_refl _, hm⟩
    · refine ⟨decN_nonneg l ?_, by show decN l ≤ m; omega⟩
      cases hd : digsB 10 l with
      | true => rfl
      | false => rw [hd] at h; simp at h

theorem drop_at4 (k : Nat) (ps : List (List UInt8)) (h : k < ps.length) : ps.drop k = ps.getD k [] :: ps.drop (k + 1) := by
  rw [List.drop_eq_getElem_cons h, List.getD, List.getElem?_eq_getElem h]
  rfl
theorem goS_yes (k : Nat) (A : Int) (ps : List (List UInt8)) (p : List UInt8) (x : Int) (h : k < ps.length) (hp : ps.getD k [] = p) (hx : decZ p 255 = (x, true)) : goS A (ps.drop k) = goS (A * 256 + x) (ps.drop (k + 1)) := by
  rw [drop_at4 k ps h, hp]
  show (if _ then _ else _) = _
  rw [hx, if_pos rfl]
theorem goS_no (k : Nat) (A : Int) (ps : List (List UInt8)) (p : List UInt8) (x : Int) (h : k < ps.length) (hp : ps.getD k [] = p) (hx : decZ p 255 = (x, false)) : goS A (ps.drop k) = (0, false) := by
  rw [drop_at4 k ps h, hp]
  show (if _ then _ else _) = _
  rw [hx]
  rfl
theorem goS_end (k : Nat) (A : Int) (ps : List (List UInt8)) (h : ps.length ≤ k) : goS A (ps.drop k) = (A, true) := by
  rw [List.drop_eq_nil_of_le h]
  rfl
theorem strictZ_four {l : List UInt8} (h : (dotted l).length = 4) : strictZ l = goS 0 ((dotted l).drop 0) := by
  unfold strictZ; rw [if_pos h]; rfl
theorem strictZ_no {l : List UInt8} (h : (dotted l).length ≠ 4) : strictZ l = (0, false) := by
  unfold strictZ; rw [if_neg h]

set_option maxRecDepth 100000 in
set_option maxHeartbeats 4000000 in
theorem strict_any (s : ByteArray) (w : World) (hs : s.size ≤ 1073741824) :
    Calls Tryd.prog 17 #[.string s] w (RetAddr w (strictZ s.data.toList)) := by
  by_cases hl : (dotted s.data.toList).length = 4
  · have HL := Lib.hid hl
    have HZ := Lib.hid (strictZ_four hl)
    clear hl
    go_enter Tryd.func17, Tryd.ntmps17
    go_wp2_with fail
    refine (split_any s _ _ hs).mono ?_
    rintro e w1 ⟨v, rfl, hp, hb1⟩
    have hp' : Parts w.heap.size w1 v (dotted s.data.toList) := hp
    obtain ⟨g, cap, rfl, hcap, hg, hcell⟩ := hp'.form2 (by rw [HL.out]; omega)
    rw [HL.out] at hcap hcell ⊢
    have HCELL := Lib.hid hcell
    clear hp hp' hcell
    go_wp2
    go_loopw [5, 17] (fun v i wr => ∃ (k : Nat) (A : Int), k ≤ 4 ∧ i = .int .i64 k ∧ v = .int .u32 A ∧ 0 ≤ A ∧ Hid (A < 256 ^ k) ∧ Hid (goS A ((dotted s.data.toList).drop k) = strictZ s.data.toList) ∧ Below w1.heap.size w1 wr) (fun _ i _ => 4 - (intOf i).toNat)
    case atStart => exact ⟨0, 0, by omega, rfl, rfl, by omega, (by show (0 : Int) < 256 ^ 0; decide), HZ.out.symm, Below.refl _ _⟩
    case round =>
      obtain ⟨k, A, hk, rfl, rfl, hA0, HM, HG, hbw⟩ := hrel
      by_cases hk4 : k < 4
      · obtain ⟨p, hpk⟩ : ∃ p, (dotted s.data.toList).getD k [] = p := ⟨_, rfl⟩
        have hcx := HCELL.out k hk4
        rw [hpk] at hcx
        have hcx2 : wr.cell? ⟨g, k, none⟩ = some (.string ⟨p.toArray⟩) := (hbw.cell (p := ⟨g, k, none⟩) hg).trans hcx
        have hpl : p.length ≤ s.size := by rw [← hpk, ← size_list]; exact part_len _ _ _
        obtain ⟨x, b, hpz⟩ : ∃ x b, decZ p 255 = (x, b) := ⟨_, _, rfl⟩
        have hx : 0 ≤ x ∧ x ≤ 255 := by have h9 := decZ_bounds p 255 (by decide); rw [hpz] at h9; exact h9
        obtain ⟨hx0, hx1⟩ := hx
        have hA1 : A < 16777216 := by
          have h1 := HM.out
          rcases (show k = 0 ∨ k = 1 ∨ k = 2 ∨ k = 3 from by omega) with rfl | rfl | rfl | rfl
          all_goals
            simp at h1
            omega
        have hA2 : A * 256 + x < 256 ^ (k + 1) := by
          have h1 := HM.out
          rcases (show k = 0 ∨ k = 1 ∨ k = 2 ∨ k = 3 from by omega) with rfl | rfl | rfl | rfl
          all_goals
            simp at h1 ⊢
            omega
        have HA2 := Lib.hid hA2
        have hor : bits .or .u32 (A * 256) x = A * 256 + x := u32_join 8 _ _ (by omega) (by omega) (by omega) (by omega) (by omega) (by omega)
        have HP := Lib.hid hpk
        have HPZ := Lib.hid hpz
        clear hpk hpz hcx hA2
        cases b with
        | true =>
          have hgo := HG.out
          rw [goS_yes k A _ p x (by rw [HL.out]; exact hk4) HP.out HPZ.out] at hgo
          have HG2 := Lib.hid hgo
          clear hgo
          go_wp2_with fail
          refine (decimal_any ⟨p.toArray⟩ 255 _ (by rw [size_mk]; omega) (by decide) (by decide)).mono ?_
          rw [mk_list, HPZ.out]
          rintro e w2 ⟨rfl, hb2⟩
          have hc2 : Below w1.heap.size w1 w2 := hbw.trans (hb2.mono hbw.size)
          clear hb2
          go_wp2
          go_roundw
          case rel => exact ⟨k + 1, A * 256 + x, by omega, by go_num, rfl, by omega, HA2, HG2, hc2⟩
          case measure => simp [intOf]; omega
        | false =>
          have HN := Lib.hid (HG.out.symm.trans (goS_no k A _ p x (by rw [HL.out]; exact hk4) HP.out HPZ.out))
          go_wp2_with fail
          refine (decimal_any ⟨p.toArray⟩ 255 _ (by rw [size_mk]; omega) (by decide) (by decide)).mono ?_
          rw [mk_list, HPZ.out]
          rintro e w2 ⟨rfl, hb2⟩
          have hc2 : Below w1.heap.size w1 w2 := hbw.trans (hb2.mono hbw.size)
          clear hb2
          go_wp2
          go_ret2
          exact retAddr_of HN.out (hb1.trans (hc2.mono hb1.size))
      · have hfin := HG.out
        rw [goS_end k A _ (by rw [HL.out]; omega)] at hfin
        have HF := Lib.hid hfin.symm
        clear hfin
        go_wp2
        go_ret2
        exact retAddr_of HF.out (hb1.trans (hbw.mono hb1.size))
  · obtain ⟨m, hm⟩ : ∃ m, (dotted s.data.toList).length = m := ⟨_, rfl⟩
    have HZ := Lib.hid (strictZ_no hl)
    have h0 : 0 < (dotted s.data.toList).length := splitB_ne _ _
    rw [hm] at hl h0
    have hmb : m ≤ 1073741825 := by
      have h1 := splitB_len (hasB [46]) s.data.toList
      rw [size_list] at h1
      have h2 := hm
      unfold dotted at h2
      omega
    have hne : ((m : Int) != 4) = true := by rw [bne_iff_ne]; omega
    have HM := Lib.hid hm
    clear hm hl
    go_enter Tryd.func17, Tryd.ntmps17
    go_wp2_with fail
    refine (split_any s _ _ hs).mono ?_
    rintro e w1 ⟨v, rfl, hp, hb1⟩
    have hp' : Parts w.heap.size w1 v (dotted s.data.toList) := hp
    obtain ⟨g, cap, rfl, hcap, hg, hcell⟩ := hp'.form2 (by rw [HM.out]; omega)
    rw [HM.out]
    clear hp hp' hcell hcap
    go_wp2
    go_ret2
    exact retAddr_of HZ.out hb1

set_option maxRecDepth 100000 in
set_option maxHeartbeats 1000000 in
theorem of_any (a b c d : Int) (w : World) (ha : 0 ≤ a ∧ a ≤ 255) (hb : 0 ≤ b ∧ b ≤ 255) (hc : 0 ≤ c ∧ c ≤ 255) (hd : 0 ≤ d ∧ d ≤ 255) :
    Calls Tryd.prog 18 #[.int .u8 a, .int .u8 b, .int .u8 c, .int .u8 d] w fun e w' => e = .returned (.int .u32 (a * 16777216 + b * 65536 + c * 256 + d)) ∧ w = w' := by
  obtain ⟨ha0, ha1⟩ := ha
  obtain ⟨hb0, hb1⟩ := hb
  obtain ⟨hc0, hc1⟩ := hc
  obtain ⟨hd0, hd1⟩ := hd
  have h1 : bits .or .u32 (a * 16777216) (b * 65536) = a * 16777216 + b * 65536 := u32_join 24 _ _ (by omega) (by omega) (by omega) (by omega) (by omega) (by omega)
  have h2 : bits .or .u32 (a * 16777216 + b * 65536) (c * 256) = a * 16777216 + b * 65536 + c * 256 := u32_join 16 _ _ (by omega) (by omega) (by omega) (by omega) (by omega) (by omega)
  have h3 : bits .or .u32 (a * 16777216 + b * 65536 + c * 256) d = a * 16777216 + b * 65536 + c * 256 + d := u32_join 8 _ _ (by omega) (by omega) (by omega) (by omega) (by omega) (by omega)
  go_enter Tryd.func18, Tryd.ntmps18
  go_wp2
  go_ret
  exact ⟨ret_int (by omega), rfl⟩
end Go.Proofs.YtaojjkknmaldiaaDoor
