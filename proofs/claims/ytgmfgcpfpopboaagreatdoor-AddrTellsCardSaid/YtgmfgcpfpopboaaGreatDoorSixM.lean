/-
  Layer 5: Text.
-/
import Derived.Test.YtgmfgcpfpopboaaGreatDoorSixL
namespace Go.Proofs.YtgmfgcpfpopboaaGreatDoor
open Go.RowKit


def textP (p : List Int) : List UInt8 :=
  if (lrAt (zeroB p) 8).2.1 = (lrAt (zeroB p) 8).2.2 then joinH p else joinH (p.take (lrAt (zeroB p) 8).2.1) ++ [58, 58] ++ joinH (p.drop (lrAt (zeroB p) 8).2.2)
def text6Z (hi lo : Int) : List UInt8 := textP (pcs hi lo)

theorem slice_low (B T : Nat) (hT : T ≤ 8) : ∃ ao, (∀ W, (Instr.sliceAt 92 (.pointer (some ⟨B, 0, none⟩)) (some (.int .i64 (T : Int))) none none).run Tryz.prog W = .ok (.slice ao (8 - T) (8 - T)) W) ∧ (T < 8 → ao = some ⟨B, T, none⟩) := by
  have hal : Tryz.prog.arrayLen 92 = 8 := by simp [Program.arrayLen, Tryz.underlying92]
  by_cases h8 : T = 8
  · subst h8
    refine ⟨some ⟨B, 0, none⟩, fun W => ?_, fun h => by omega⟩
    rw [run_sliceAt_array_l W 92 ⟨B, 0, none⟩ (by simp [Program.arrayLen, Program.elem, Tryz.underlying92]) .i64 _ (by omega) (by rw [hal]; omega), hal]
    go_simp
  · refine ⟨some ⟨B, T, none⟩, fun W => ?_, fun _ => rfl⟩
    rw [run_sliceAt_array_l W 92 ⟨B, 0, none⟩ (by simp [Program.arrayLen, Program.elem, Tryz.underlying92]) .i64 _ (by omega) (by rw [hal]; omega), hal]
    go_simp
    omega
theorem slice_high (B F : Nat) (hF : F ≤ 8) (W : World) : (Instr.sliceAt 92 (.pointer (some ⟨B, 0, none⟩)) none (some (.int .i64 (F : Int))) none).run Tryz.prog W = .ok (.slice (some ⟨B, 0, none⟩) F 8) W := by
  have hal : Tryz.prog.arrayLen 92 = 8 := by simp [Program.arrayLen, Tryz.underlying92]
  rw [run_sliceAt_array_h W 92 ⟨B, 0, none⟩ (by simp [Program.arrayLen, Program.elem, Tryz.underlying92]) .i64 _ (by omega) (by rw [hal]; omega), hal]
  go_simp

theorem SliceIs.of_row {w : World} {g o : Nat} {k : IntKind} {l : List Int} (h : ∀ j, j < l.length → w.cell? ⟨g, o + j, none⟩ = some (.int k (l.getD j 0))) : SliceIs w (some ⟨g, o, none⟩) k l := fun j hj => ⟨g, o, rfl, h j hj⟩
theorem In16.take {l : List Int} (h : In16 l) (n : Nat) : In16 (l.take n) := fun x hx => h x (List.mem_of_mem_take hx)
theorem In16.drop {l : List Int} (h : In16 l) (n : Nat) : In16 (l.drop n) := fun x hx => h x (List.mem_of_mem_drop hx)
theorem getD_take' (l : List Int) (n j : Nat) (h : j < n) : (l.take n).getD j 0 = l.getD j 0 := by simp [List.getD, h]
theorem getD_drop' (l : List Int) (n j : Nat) : (l.drop n).getD j 0 = l.getD (n + j) 0 := by simp [List.getD]

theorem below_drew1 (x : World) : Below x.heap.size x x.drew := (Below.refl _ _).drew
theorem below_of_drew {x w : World} (h : Below x.drew.heap.size x.drew w) : Below x.heap.size x w := (Below.refl _ _).drew.trans h
theorem lrAt_le (p : List Int) : (lrAt (zeroB p) 8).2.1 ≤ (lrAt (zeroB p) 8).2.2 ∧ (lrAt (zeroB p) 8).2.2 ≤ 8 := (lr_bounds _ 8).2

set_option maxRecDepth 100000 in
set_option maxHeartbeats 8000000 in
theorem text6_any (hi lo : Int) (w : World) (h0 : 0 ≤ hi) (h1 : hi ≤ 18446744073709551615) (l0 : 0 ≤ lo) (l1 : lo ≤ 18446744073709551615) (htab : BruTab w) :
    Calls Tryz.prog 47 #[.agg #[.int .u64 hi, .int .u64 lo]] w (RetStr w (text6Z hi lo)) := by
  have HT := Lib.hid htab
  clear htab
  have hb0 : Below w.heap.size w (w.alloc (.cells #[.int .u64 hi, .int .u64 lo] 46)) := (Below.refl _ w).alloc (Nat.le_refl _) _
  have HT0 := Lib.hid (bruTab_below HT.out hb0)
  go_enter Tryz.func47, Tryz.ntmps47
  go_wp2_with fail
  refine (pieces6_any hi lo _ h0 h1 l0 l1).mono ?_
  rintro e x1 ⟨rfl, hb1⟩
  have HT1 := Lib.hid (bruTab_below HT0.out hb1)
  have hc1 : Below w.heap.size w x1 := hb0.trans (hb1.mono hb0.size)
  have HIN := Lib.hid (pcs_in h0 h1 l0 l1)
  clear hb0 hb1
  obtain ⟨p, hp⟩ : ∃ p, pcs hi lo = p := ⟨_, rfl⟩
  have HTX : Hid (text6Z hi lo = textP p) := by show text6Z hi lo = textP p; rw [text6Z, hp]
  rw [hp] at HIN
  unfold pcs at hp
  obtain ⟨a0, ha0⟩ : ∃ a, hi / 281474976710656 = a := ⟨_, rfl⟩
  obtain ⟨a1, ha1⟩ : ∃ a, hi / 4294967296 % 65536 = a := ⟨_, rfl⟩
  obtain ⟨a2, ha2⟩ : ∃ a, hi / 65536 % 65536 = a := ⟨_, rfl⟩
  obtain ⟨a3, ha3⟩ : ∃ a, hi % 65536 = a := ⟨_, rfl⟩
  obtain ⟨a4, ha4⟩ : ∃ a, lo / 281474976710656 = a := ⟨_, rfl⟩
  obtain ⟨a5, ha5⟩ : ∃ a, lo / 4294967296 % 65536 = a := ⟨_, rfl⟩
  obtain ⟨a6, ha6⟩ : ∃ a, lo / 65536 % 65536 = a := ⟨_, rfl⟩
  obtain ⟨a7, ha7⟩ : ∃ a, lo % 65536 = a := ⟨_, rfl⟩
  rw [ha0, ha1, ha2, ha3, ha4, ha5, ha6, ha7] at hp ⊢
  clear ha0 ha1 ha2 ha3 ha4 ha5 ha6 ha7
  have hb2 : Below x1.heap.size x1 (x1.alloc (.cells #[.int .u16 a0, .int .u16 a1, .int .u16 a2, .int .u16 a3, .int .u16 a4, .int .u16 a5, .int .u16 a6, .int .u16 a7] 92)) := (Below.refl _ x1).alloc (Nat.le_refl _) _
  have hB : (x1.alloc (.cells #[.int .u16 a0, .int .u16 a1, .int .u16 a2, .int .u16 a3, .int .u16 a4, .int .u16 a5, .int .u16 a6, .int .u16 a7] 92)).heap[x1.heap.size]? = some (.cells #[.int .u16 a0, .int .u16 a1, .int .u16 a2, .int .u16 a3, .int .u16 a4, .int .u16 a5, .int .u16 a6, .int .u16 a7] 92 (0, 0)) := heap_alloc_new x1 _
  have HP := Lib.hid hp
  have hpl : p.length = 8 := by rw [← hp]; rfl
  have HPL := Lib.hid hpl
  have hcl : ∀ j, j < 8 → (x1.alloc (.cells #[.int .u16 a0, .int .u16 a1, .int .u16 a2, .int .u16 a3, .int .u16 a4, .int .u16 a5, .int .u16 a6, .int .u16 a7] 92)).cell? ⟨x1.heap.size, j, none⟩ = some (.int .u16 (p.getD j 0)) := fun j hj => by
    rw [cell_of_row _ _ j _ _ _ hB, ← hp]
    rcases (show j = 0 ∨ j = 1 ∨ j = 2 ∨ j = 3 ∨ j = 4 ∨ j = 5 ∨ j = 6 ∨ j = 7 from by omega) with rfl | rfl | rfl | rfl | rfl | rfl | rfl | rfl <;> rfl
  have hsz2 : x1.heap.size < (x1.alloc (.cells #[.int .u16 a0, .int .u16 a1, .int .u16 a2, .int .u16 a3, .int .u16 a4, .int .u16 a5, .int .u16 a6, .int .u16 a7] 92)).heap.size := by simp
  have HCL := Lib.hid hcl
  have HT2 := Lib.hid (bruTab_below HT1.out hb2)
  have hc2 : Below w.heap.size w (x1.alloc (.cells #[.int .u16 a0, .int .u16 a1, .int .u16 a2, .int .u16 a3, .int .u16 a4, .int .u16 a5, .int .u16 a6, .int .u16 a7] 92)) := hc1.trans (hb2.mono hc1.size)
  clear hp hpl hcl hB hb2
  go_wp2_with fail
  generalize x1.alloc (.cells #[.int .u16 a0, .int .u16 a1, .int .u16 a2, .int .u16 a3, .int .u16 a4, .int .u16 a5, .int .u16 a6, .int .u16 a7] 92) = x2 at *
  refine (longest_any a0 a1 a2 a3 a4 a5 a6 a7 _).mono ?_
  rw [HP.out]
  rintro e x3 ⟨rfl, hb3⟩
  have hlr := lrAt_le p
  have HTP : Hid (textP p = if (lrAt (zeroB p) 8).2.1 = (lrAt (zeroB p) 8).2.2 then joinH p else joinH (p.take (lrAt (zeroB p) 8).2.1) ++ [58, 58] ++ joinH (p.drop (lrAt (zeroB p) 8).2.2)) := rfl
  generalize (lrAt (zeroB p) 8).2.1 = F at *
  generalize (lrAt (zeroB p) 8).2.2 = T at *
  obtain ⟨hFT, hT8⟩ := hlr
  have HT3 := Lib.hid (bruTab_below HT2.out hb3)
  have hc3 : Below w.heap.size w x3 := hc2.trans (hb3.mono hc2.size)
  have HCL3 : Hid (∀ j, j < 8 → x3.cell? ⟨x1.heap.size, j, none⟩ = some (.int .u16 (p.getD j 0))) := fun j hj => (hb3.cell (p := ⟨x1.heap.size, j, none⟩) hsz2).trans (HCL.out j hj)
  have hsz3 : x1.heap.size < x3.heap.size := Nat.lt_of_lt_of_le hsz2 hb3.size
  clear hb3 hc2 hc1 hsz2
  generalize x1.heap.size = B at *
  by_cases hFe : F = T
  · subst hFe
    have HE := Lib.hid (HTX.out.trans (HTP.out.trans (if_pos rfl)))
    have HW : Hid (Calls Tryz.prog 58 #[.slice (some ⟨B, 0, none⟩) 8 8] x3 (RetStr x3 (joinH p))) := by
      show Calls _ _ _ _ _
      rw [show (8 : Nat) = p.length from HPL.out.symm]
      exact writeRow_any _ _ p x3 (SliceIs.of_row fun j hj => by rw [Nat.zero_add]; exact HCL3.out j (by rw [HPL.out] at hj; exact hj)) HIN.out (by rw [HPL.out]; omega) HT3.out
    go_wp2_with fail
    refine HW.out.mono ?_
    rintro e x4 ⟨rfl, hb4⟩
    go_wp2
    go_ret
    exact ⟨congrArg (fun l : List UInt8 => Ending.returned (.string ⟨l.toArray⟩)) HE.out.symm, hc3.trans (hb4.mono hc3.size)⟩
  · have HE := Lib.hid (HTX.out.trans (HTP.out.trans (if_neg hFe)))
    have hbe : ((F : Int) == (T : Int)) = false := by rw [beq_eq_false_iff_ne]; omega
    obtain ⟨ao, hs2, hao⟩ := slice_low B T hT8
    have hs1 := slice_high B F (by omega)
    have HWA : Hid (∀ W, Below x3.heap.size x3 W → Calls Tryz.prog 58 #[.slice (some ⟨B, 0, none⟩) F 8] W (RetStr W (joinH (p.take F)))) := fun W hW => by
      have hl : (p.take F).length = F := by rw [List.length_take, HPL.out]; omega
      have hq := writeRow_any (some ⟨B, 0, none⟩) 8 (p.take F) W (SliceIs.of_row fun j hj => by
        rw [Nat.zero_add, getD_take' p F j (by omega)]
        exact (hW.cell (p := ⟨B, j, none⟩) hsz3).trans (HCL3.out j (by omega))) (HIN.out.take F) (by omega) (bruTab_below HT3.out hW)
      rwa [hl] at hq
    have HWB : Hid (∀ W, Below x3.heap.size x3 W → Calls Tryz.prog 58 #[.slice ao (8 - T) (8 - T)] W (RetStr W (joinH (p.drop T)))) := fun W hW => by
      have hl : (p.drop T).length = 8 - T := by rw [List.length_drop, HPL.out]
      have hq := writeRow_any ao (8 - T) (p.drop T) W (fun j hj => by
        rw [hl] at hj
        refine ⟨B, T, hao (by omega), ?_⟩
        rw [getD_drop' p T j]
        exact (hW.cell (p := ⟨B, T + j, none⟩) hsz3).trans (HCL3.out (T + j) (by omega))) (HIN.out.drop T) (by omega) (bruTab_below HT3.out hW)
      rwa [hl] at hq
    clear hao hFe
    have hl1 : (joinH (p.take F)).length ≤ 40 := Nat.le_trans (joinH_len (HIN.out.take F)) (by rw [List.length_take]; omega)
    have hl2 : (joinH (p.drop T)).length ≤ 40 := Nat.le_trans (joinH_len (HIN.out.drop T)) (by rw [List.length_drop, HPL.out]; omega)
    generalize joinH (p.take F) = X at *
    generalize joinH (p.drop T) = Y at *
    have hadd1 : ∀ W, (Op.stringOp .add ⟨X.toArray⟩ ⟨#[58, 58]⟩).run Tryz.prog W = .ok (.string ⟨(X ++ [58, 58]).toArray⟩) W := fun W => by
      rw [run_string_add_sum W _ _ (by rw [size_mk]; show X.length + 2 ≤ _; omega), show (ByteArray.mk #[58, 58]) = ByteArray.mk [58, 58].toArray from rfl, cat2]
    have hadd2 : ∀ W, (Op.stringOp .add ⟨(X ++ [58, 58]).toArray⟩ ⟨Y.toArray⟩).run Tryz.prog W = .ok (.string ⟨(X ++ [58, 58] ++ Y).toArray⟩) W := fun W => by
      rw [run_string_add_sum W _ _ (by rw [size_mk, size_mk, List.length_append]; show X.length + 2 + Y.length ≤ _; omega), cat2]
    have hg1 : ¬ ((ByteArray.mk X.toArray).size + (ByteArray.mk #[58, 58]).size > 9223372036854775807) := by rw [size_mk]; show ¬ (X.length + 2 > _); omega
    have hg2 : ¬ ((ByteArray.mk (X ++ [58, 58]).toArray).size + (ByteArray.mk Y.toArray).size > 9223372036854775807) := by rw [size_mk, size_mk, List.length_append]; show ¬ (X.length + 2 + Y.length > _); omega
    go_wp2
    go_region_held3 (fun _ => True) (exact trivial)
      (first
        | (go_simp; go_at_call 58; ((with_reducible refine (HWA.out _ (below_drew1 _)).mono ?_); rintro e w4 ⟨rfl, hb4⟩))
        | (go_simp; go_at_call 58; ((with_reducible refine (HWB.out _ (below_of_drew hb4)).mono ?_); rintro e w5 ⟨rfl, hb5⟩)))
    have hfin : Below w.heap.size w w5 := hc3.trans (((below_of_drew hb4).trans (hb5.mono (below_of_drew hb4).size)).mono hc3.size)
    have HE2 : Hid (X ++ 58 :: 58 :: Y = text6Z hi lo) := by show X ++ 58 :: 58 :: Y = text6Z hi lo; rw [HE.out]; simp
    go_wp2
    go_ret
    exact ⟨congrArg (fun l : List UInt8 => Ending.returned (.string ⟨l.toArray⟩)) HE2.out, hfin⟩
end Go.Proofs.YtgmfgcpfpopboaaGreatDoor
