/-
  Layer 5: the reference's Text.
-/
import Derived.Test.YtgmfgcpfpopboaaGreatDoorSixP
namespace Go.Proofs.YtgmfgcpfpopboaaGreatDoor
open Go.RowKit


def zrBB (bs : List Bool) (f n : Nat) : Bool := ((bs.drop f).take n).all id
theorem zr_BB (p : List Int) (f n : Nat) : zrB p f n = zrBB (zeroB p) f n := by
  unfold zrB zrBB zeroB
  rw [← List.map_drop, ← List.map_take, List.all_map]
  rfl
def cands : List (Nat × Nat) := [(8, 0), (7, 0), (7, 1), (6, 0), (6, 1), (6, 2), (5, 0), (5, 1), (5, 2), (5, 3), (4, 0), (4, 1), (4, 2), (4, 3), (4, 4), (3, 0), (3, 1), (3, 2), (3, 3), (3, 4), (3, 5), (2, 0), (2, 1), (2, 2), (2, 3), (2, 4), (2, 5), (2, 6)]
theorem cands_mem : ∀ n f : Fin 9, 2 ≤ n.val → f.val + n.val ≤ 8 → (n.val, f.val) ∈ cands := by decide +kernel
def specB (bs : List Bool) : Bool :=
  cands.all (fun c => !(zrBB bs c.2 c.1) || decide (c.1 < (lrAt bs 8).2.2 - (lrAt bs 8).2.1) || (decide (c.1 = (lrAt bs 8).2.2 - (lrAt bs 8).2.1) && decide ((lrAt bs 8).2.1 ≤ c.2))) &&
    (decide ((lrAt bs 8).2.1 = (lrAt bs 8).2.2) || (decide (2 ≤ (lrAt bs 8).2.2 - (lrAt bs 8).2.1) && zrBB bs (lrAt bs 8).2.1 ((lrAt bs 8).2.2 - (lrAt bs 8).2.1)))
theorem spec8 : ∀ b0 b1 b2 b3 b4 b5 b6 b7 : Bool, specB [b0, b1, b2, b3, b4, b5, b6, b7] = true := by decide +kernel
theorem spec_of {p : List Int} (hp : p.length = 8) : specB (zeroB p) = true := by
  match p, hp with
  | [x0, x1, x2, x3, x4, x5, x6, x7], _ => exact spec8 _ _ _ _ _ _ _ _
theorem lr_max {p : List Int} (hp : p.length = 8) {n f : Nat} (h2 : 2 ≤ n) (h8 : f + n ≤ 8) (hz : zrB p f n = true) :
    n < (lrAt (zeroB p) 8).2.2 - (lrAt (zeroB p) 8).2.1 ∨ (n = (lrAt (zeroB p) 8).2.2 - (lrAt (zeroB p) 8).2.1 ∧ (lrAt (zeroB p) 8).2.1 ≤ f) := by
  have h := spec_of hp
  unfold specB at h
  rw [Bool.and_eq_true] at h
  have hc := List.all_eq_true.1 h.1 (n, f) (cands_mem ⟨n, by omega⟩ ⟨f, by omega⟩ h2 h8)
  rw [zr_BB] at hz
  simp only [hz, Bool.not_true, Bool.false_or, Bool.or_eq_true, Bool.and_eq_true, decide_eq_true_eq] at hc
  exact hc
theorem lr_is {p : List Int} (hp : p.length = 8) (h : (lrAt (zeroB p) 8).2.1 ≠ (lrAt (zeroB p) 8).2.2) :
    2 ≤ (lrAt (zeroB p) 8).2.2 - (lrAt (zeroB p) 8).2.1 ∧ zrB p (lrAt (zeroB p) 8).2.1 ((lrAt (zeroB p) 8).2.2 - (lrAt (zeroB p) 8).2.1) = true := by
  have hs := spec_of hp
  unfold specB at hs
  rw [Bool.and_eq_true] at hs
  rw [zr_BB]
  have := hs.2
  simp only [Bool.or_eq_true, Bool.and_eq_true, decide_eq_true_eq] at this
  rcases this with e | e
  · exact absurd e h
  · exact e
theorem text_found {p : List Int} (hp : p.length = 8) {n f : Nat} (h2 : 2 ≤ n) (h8 : f + n ≤ 8) (hz : zrB p f n = true) (hn : ∀ m g, n < m → g + m ≤ 8 → zrB p g m = false) (hf : ∀ g, g < f → g + n ≤ 8 → zrB p g n = false) :
    textP p = joinH (p.take f) ++ [58, 58] ++ joinH (p.drop (f + n)) := by
  have hle := lrAt_le p
  have hne : (lrAt (zeroB p) 8).2.1 ≠ (lrAt (zeroB p) 8).2.2 := by
    rcases lr_max hp h2 h8 hz with h | h <;> omega
  have his := lr_is hp hne
  have e1 : (lrAt (zeroB p) 8).2.2 - (lrAt (zeroB p) 8).2.1 = n ∧ (lrAt (zeroB p) 8).2.1 = f := by
    rcases lr_max hp h2 h8 hz with h | h
    · have := hn _ (lrAt (zeroB p) 8).2.1 h (by omega)
      rw [his.2] at this
      cases this
    · refine ⟨h.1.symm, ?_⟩
      by_cases e : (lrAt (zeroB p) 8).2.1 = f
      · exact e
      · have := hf (lrAt (zeroB p) 8).2.1 (by omega) (by omega)
        rw [h.1, his.2] at this
        cases this
  unfold textP
  rw [if_neg hne, e1.2, show (lrAt (zeroB p) 8).2.2 = f + n from by omega]
theorem text_none {p : List Int} (hp : p.length = 8) (hn : ∀ m g, 1 < m → g + m ≤ 8 → zrB p g m = false) : textP p = joinH p := by
  unfold textP
  by_cases h : (lrAt (zeroB p) 8).2.1 = (lrAt (zeroB p) 8).2.2
  · rw [if_pos h]
  · have hle := lrAt_le p
    have his := lr_is hp h
    have := hn _ (lrAt (zeroB p) 8).2.1 (by omega) (show _ + ((lrAt (zeroB p) 8).2.2 - (lrAt (zeroB p) 8).2.1) ≤ 8 from by omega)
    rw [his.2] at this
    cases this

theorem drew_heap (x : World) : x.drew.heap = x.heap := rfl
theorem cell_of_heap {W x : World} (h : W.heap = x.heap) {a : Addr} : W.cell? a = x.cell? a := by simp [World.cell?, h]
theorem slice_lowS (B j : Nat) (hj : j ≤ 8) : ∃ ao, (∀ W, (Instr.slice 64 (.slice (some ⟨B, 0, none⟩) 8 8) (some (.int .i64 (j : Int))) none none).run Tryz.prog W = .ok (.slice ao (8 - j) (8 - j)) W) ∧ (j < 8 → ao = some ⟨B, j, none⟩) := by
  by_cases h8 : j = 8
  · subst h8
    refine ⟨some ⟨B, 0, none⟩, fun W => ?_, fun h => by omega⟩
    rw [run_slice_l W 64 (some ⟨B, 0, none⟩) 8 8 (by simp [Program.elem, Tryz.underlying64]) .i64 _ (by omega) (by omega)]
    go_simp
  · refine ⟨some ⟨B, j, none⟩, fun W => ?_, fun _ => rfl⟩
    rw [run_slice_l W 64 (some ⟨B, 0, none⟩) 8 8 (by simp [Program.elem, Tryz.underlying64]) .i64 _ (by omega) (by omega)]
    go_simp
    omega
theorem slice_highS (B f : Nat) (hf : f ≤ 8) (W : World) : (Instr.slice 64 (.slice (some ⟨B, 0, none⟩) 8 8) none (some (.int .i64 (f : Int))) none).run Tryz.prog W = .ok (.slice (some ⟨B, 0, none⟩) f 8) W := by
  rw [run_slice_h W 64 (some ⟨B, 0, none⟩) 8 8 (by simp [Program.elem, Tryz.underlying64]) .i64 _ (by omega) (by omega)]
  go_simp

set_option maxRecDepth 100000 in
set_option maxHeartbeats 2000000 in
theorem refText6_any (hi lo : Int) (w : World) (h0 : 0 ≤ hi) (h1 : hi ≤ 18446744073709551615) (l0 : 0 ≤ lo) (l1 : lo ≤ 18446744073709551615) :
    Calls Tryz.prog 32 #[.int .u64 hi, .int .u64 lo] w (RetStr w (text6Z hi lo)) := by
  have HIN := Lib.hid (pcs_in h0 h1 l0 l1)
  go_enter Tryz.func32, Tryz.ntmps32
  go_wp2_with fail
  refine (refPieces_any hi lo _ h0 h1 l0 l1).mono ?_
  rintro e x1 ⟨B, rfl, hB, hcl, hb1⟩
  have hpl : (pcs hi lo).length = 8 := rfl
  have HTX : Hid (text6Z hi lo = textP (pcs hi lo)) := rfl
  generalize pcs hi lo = p at *
  have HCL := Lib.hid hcl
  have HPL := Lib.hid hpl
  clear hcl hpl
  go_wp2
  go_loop [6] (fun i => ∃ n : Nat, 1 ≤ n ∧ n ≤ 8 ∧ i = .int .i64 n ∧ Hid (∀ m g, n < m → g + m ≤ 8 → zrB p g m = false)) (fun i => (intOf i).toNat)
  case atStart => exact ⟨8, by omega, by omega, rfl, fun m g h1 h2 => by omega⟩
  case round =>
    obtain ⟨n, hn1, hn8, rfl, HN⟩ := hrel
    by_cases hn2 : 2 ≤ n
    · have hd : decide ((2 : Int) ≤ (n : Int)) = true := decide_eq_true (by omega)
      go_wp2
      go_loop [7] (fun i => ∃ f : Nat, f ≤ 8 ∧ i = .int .i64 f ∧ Hid (∀ g, g < f → g + n ≤ 8 → zrB p g n = false)) (fun i => 9 - (intOf i).toNat)
      case atStart => exact ⟨0, by omega, rfl, fun g h1 h2 => by omega⟩
      case round =>
        obtain ⟨f, hf8, rfl, HF⟩ := hrel
        by_cases hfn : f + n ≤ 8
        · have hd2 : decide ((f : Int) + (n : Int) ≤ 8) = true := decide_eq_true (by omega)
          cases hz : zrB p f n with
          | false =>
            have HF2 : Hid (∀ g, g < f + 1 → g + n ≤ 8 → zrB p g n = false) := fun g h1 h2 => by
              by_cases e : g = f
              · subst e; exact hz
              · exact HF.out g (by omega) h2
            have HZC := Lib.hid (refZeros_any B 8 f n p x1 HCL.out HPL.out hfn)
            rw [hz] at HZC
            clear hz
            go_wp2_with (go_at_call 43; refine HZC.out.mono ?_; rintro e w' ⟨rfl, rfl⟩)
            go_round
            case rel => exact ⟨f + 1, by omega, by go_num, HF2⟩
            case measure => simp [intOf]; omega
          | true =>
            have HZC := Lib.hid (refZeros_any B 8 f n p x1 HCL.out HPL.out hfn)
            rw [hz] at HZC
            have HE := Lib.hid (HTX.out.trans (text_found HPL.out hn2 hfn hz HN.out HF.out))
            clear hz
            go_wp2_with (go_at_call 43; refine HZC.out.mono ?_; rintro e w' ⟨rfl, rfl⟩)
            obtain ⟨j, hj⟩ : ∃ j, f + n = j := ⟨_, rfl⟩
            rw [hj] at HE
            obtain ⟨ao, hs2, hao⟩ := slice_lowS B j (by omega)
            have hs1 := slice_highS B f (by omega)
            have HJ1 : Hid (∀ W, W.heap = x1.heap → Calls Tryz.prog 44 #[.slice (some ⟨B, 0, none⟩) f 8] W fun e w' => e = .returned (.string ⟨(joinH (p.take f)).toArray⟩) ∧ W = w') := fun W hW => by
              have hl : (p.take f).length = f := by rw [List.length_take, HPL.out]; omega
              have hq := refJoin_any (some ⟨B, 0, none⟩) 8 (p.take f) W (SliceIs.of_row fun i hi => by
                rw [Nat.zero_add, getD_take' p f i (by omega)]
                rw [cell_of_heap hW]
                exact HCL.out i (by omega)) (HIN.out.take f) (by omega)
              rwa [hl] at hq
            have HJ2 : Hid (∀ W, W.heap = x1.heap → Calls Tryz.prog 44 #[.slice ao (8 - j) (8 - j)] W fun e w' => e = .returned (.string ⟨(joinH (p.drop j)).toArray⟩) ∧ W = w') := fun W hW => by
              have hl : (p.drop j).length = 8 - j := by rw [List.length_drop, HPL.out]
              have hq := refJoin_any ao (8 - j) (p.drop j) W (fun i hi => by
                rw [hl] at hi
                refine ⟨B, j, hao (by omega), ?_⟩
                rw [getD_drop' p j i]
                rw [cell_of_heap hW]
                exact HCL.out (j + i) (by omega)) (HIN.out.drop j) (by omega)
              rwa [hl] at hq
            have hl1 : (joinH (p.take f)).length ≤ 40 := Nat.le_trans (joinH_len (HIN.out.take f)) (by rw [List.length_take]; omega)
            have hl2 : (joinH (p.drop j)).length ≤ 40 := Nat.le_trans (joinH_len (HIN.out.drop j)) (by rw [List.length_drop, HPL.out]; omega)
            generalize joinH (p.take f) = X at *
            generalize joinH (p.drop j) = Y at *
            have hadd1 : ∀ W, (Op.stringOp .add ⟨X.toArray⟩ ⟨#[58, 58]⟩).run Tryz.prog W = .ok (.string ⟨(X ++ [58, 58]).toArray⟩) W := fun W => by
              rw [run_string_add_sum W _ _ (by rw [size_mk]; show X.length + 2 ≤ _; omega), show (ByteArray.mk #[58, 58]) = ByteArray.mk [58, 58].toArray from rfl, cat2]
            have hadd2 : ∀ W, (Op.stringOp .add ⟨(X ++ [58, 58]).toArray⟩ ⟨Y.toArray⟩).run Tryz.prog W = .ok (.string ⟨(X ++ [58, 58] ++ Y).toArray⟩) W := fun W => by
              rw [run_string_add_sum W _ _ (by rw [size_mk, size_mk, List.length_append]; show X.length + 2 + Y.length ≤ _; omega), cat2]
            have hw : IntKind.i64.wrap ((f : Int) + (n : Int)) = (j : Int) := by rw [IntKind.wrap_i64]; omega
            have HE2 : Hid (X ++ 58 :: 58 :: Y = text6Z hi lo) := by show X ++ 58 :: 58 :: Y = text6Z hi lo; rw [HE.out]; simp
            clear hao hj
            go_region_held3 (fun _ => True) (exact trivial)
              (first
                | (go_simp; go_at_call 44; ((with_reducible refine (HJ1.out _ (drew_heap _)).mono ?_); rintro e w4 ⟨rfl, rfl⟩))
                | (go_simp; go_at_call 44; ((with_reducible refine (HJ2.out _ (drew_heap _)).mono ?_); rintro e w5 ⟨rfl, rfl⟩)))
            go_wp2
            go_ret
            exact ⟨congrArg (fun l : List UInt8 => Ending.returned (.string ⟨l.toArray⟩)) HE2.out, hb1.drew⟩
        · have hd2 : decide ((f : Int) + (n : Int) ≤ 8) = false := decide_eq_false (by omega)
          have HN2 : Hid (∀ m g, n - 1 < m → g + m ≤ 8 → zrB p g m = false) := fun m g h1 h2 => by
            by_cases e : m = n
            · subst e; exact HF.out g (by omega) h2
            · exact HN.out m g (by omega) h2
          go_wp2
          go_round
          case rel => exact ⟨n - 1, by omega, by omega, congrArg (Value.int .i64) (by omega), HN2⟩
          case measure => simp [intOf]; omega
    · obtain rfl : n = 1 := by omega
      have HE := Lib.hid (HTX.out.trans (text_none HPL.out HN.out))
      rw [show ((1 : Nat) : Int) = 1 from rfl]
      have HJ : Hid (Calls Tryz.prog 44 #[.slice (some ⟨B, 0, none⟩) 8 8] x1 fun e w' => e = .returned (.string ⟨(joinH p).toArray⟩) ∧ x1 = w') := by
        show Calls _ _ _ _ _
        have := refJoin_any (some ⟨B, 0, none⟩) 8 p x1 (SliceIs.of_row fun j hj => by rw [Nat.zero_add]; exact HCL.out j (by rw [HPL.out] at hj; exact hj)) HIN.out (by rw [HPL.out]; omega)
        rwa [HPL.out] at this
      go_wp2_with fail
      refine HJ.out.mono ?_
      rintro e w' ⟨rfl, rfl⟩
      go_wp2
      go_ret
      exact ⟨congrArg (fun l : List UInt8 => Ending.returned (.string ⟨l.toArray⟩)) HE.out.symm, hb1⟩
end Go.Proofs.YtgmfgcpfpopboaaGreatDoor
