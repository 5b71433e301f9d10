/-
  Layer 5: Pieces and Wide.
-/
import Derived.Test.YtgmfgcpfpopboaaGreatDoorSixG
namespace Go.Proofs.YtgmfgcpfpopboaaGreatDoor
open Go.RowKit


def pcs (hi lo : Int) : List Int := [hi / 281474976710656, hi / 4294967296 % 65536, hi / 65536 % 65536, hi % 65536, lo / 281474976710656, lo / 4294967296 % 65536, lo / 65536 % 65536, lo % 65536]
theorem pcs_in {hi lo : Int} (h0 : 0 ≤ hi) (h1 : hi ≤ 18446744073709551615) (l0 : 0 ≤ lo) (l1 : lo ≤ 18446744073709551615) : In16 (pcs hi lo) := by
  intro x hx
  simp only [pcs, List.mem_cons, List.not_mem_nil, or_false] at hx
  rcases hx with rfl | rfl | rfl | rfl | rfl | rfl | rfl | rfl <;> omega
theorem hi4_pcs {hi lo : Int} : hi4 (pcs hi lo) = hi := by
  simp only [hi4, pcs, List.getD_cons_zero, List.getD_cons_succ]; omega
theorem lo4_pcs {hi lo : Int} : lo4 (pcs hi lo) = lo := by
  simp only [lo4, pcs, List.getD_cons_zero, List.getD_cons_succ]; omega
theorem u16_wrap (x : Int) : IntKind.u16.wrap x = x % 65536 := by rw [IntKind.wrap_u16]

theorem row_frozen0 {w : World} {g : Nat} {t : TypeId} {cs : Array Value} (h : w.heap[g]? = some (.cells cs t (0, 0))) (j : Nat) : w.frozen? ⟨g, j, none⟩ = false := by
  simp [World.frozen?, h]
def arrV (a0 a1 a2 a3 a4 a5 a6 a7 : Int) : Nat → Array Value
  | 0 => #[.int .u16 0, .int .u16 0, .int .u16 0, .int .u16 0, .int .u16 0, .int .u16 0, .int .u16 0, .int .u16 0]
  | 1 => #[.int .u16 a0, .int .u16 0, .int .u16 0, .int .u16 0, .int .u16 a4, .int .u16 0, .int .u16 0, .int .u16 0]
  | 2 => #[.int .u16 a0, .int .u16 a1, .int .u16 0, .int .u16 0, .int .u16 a4, .int .u16 a5, .int .u16 0, .int .u16 0]
  | 3 => #[.int .u16 a0, .int .u16 a1, .int .u16 a2, .int .u16 0, .int .u16 a4, .int .u16 a5, .int .u16 a6, .int .u16 0]
  | _ => #[.int .u16 a0, .int .u16 a1, .int .u16 a2, .int .u16 a3, .int .u16 a4, .int .u16 a5, .int .u16 a6, .int .u16 a7]

set_option maxRecDepth 100000 in
set_option maxHeartbeats 4000000 in
theorem pieces6_any (hi lo : Int) (w : World) (h0 : 0 ≤ hi) (h1 : hi ≤ 18446744073709551615) (l0 : 0 ≤ lo) (l1 : lo ≤ 18446744073709551615) :
    Calls Tryz.prog 56 #[.agg #[.int .u64 hi, .int .u64 lo]] w fun e w' => e = .returned (.agg #[.int .u16 (hi / 281474976710656), .int .u16 (hi / 4294967296 % 65536), .int .u16 (hi / 65536 % 65536), .int .u16 (hi % 65536), .int .u16 (lo / 281474976710656), .int .u16 (lo / 4294967296 % 65536), .int .u16 (lo / 65536 % 65536), .int .u16 (lo % 65536)])  ∧ Below w.heap.size w w' := by
  obtain ⟨a0, ha0⟩ : ∃ a, hi / 281474976710656 = a := ⟨_, rfl⟩
  have e0 : IntKind.u16.wrap (hi / 281474976710656) = a0 := by rw [u16_wrap]; omega
  obtain ⟨a1, ha1⟩ : ∃ a, hi / 4294967296 % 65536 = a := ⟨_, rfl⟩
  have e1 : IntKind.u16.wrap (hi / 4294967296) = a1 := by rw [u16_wrap]; omega
  obtain ⟨a2, ha2⟩ : ∃ a, hi / 65536 % 65536 = a := ⟨_, rfl⟩
  have e2 : IntKind.u16.wrap (hi / 65536) = a2 := by rw [u16_wrap]; omega
  obtain ⟨a3, ha3⟩ : ∃ a, hi % 65536 = a := ⟨_, rfl⟩
  have e3 : IntKind.u16.wrap (hi / 1) = a3 := by rw [u16_wrap]; omega
  obtain ⟨a4, ha4⟩ : ∃ a, lo / 281474976710656 = a := ⟨_, rfl⟩
  have e4 : IntKind.u16.wrap (lo / 281474976710656) = a4 := by rw [u16_wrap]; omega
  obtain ⟨a5, ha5⟩ : ∃ a, lo / 4294967296 % 65536 = a := ⟨_, rfl⟩
  have e5 : IntKind.u16.wrap (lo / 4294967296) = a5 := by rw [u16_wrap]; omega
  obtain ⟨a6, ha6⟩ : ∃ a, lo / 65536 % 65536 = a := ⟨_, rfl⟩
  have e6 : IntKind.u16.wrap (lo / 65536) = a6 := by rw [u16_wrap]; omega
  obtain ⟨a7, ha7⟩ : ∃ a, lo % 65536 = a := ⟨_, rfl⟩
  have e7 : IntKind.u16.wrap (lo / 1) = a7 := by rw [u16_wrap]; omega
  rw [ha0, ha1, ha2, ha3, ha4, ha5, ha6, ha7]
  have E := Lib.hid (And.intro e0 (And.intro e1 (And.intro e2 (And.intro e3 (And.intro e4 (And.intro e5 (And.intro e6 e7)))))))
  clear ha0 ha1 ha2 ha3 ha4 ha5 ha6 ha7 e0 e1 e2 e3 e4 e5 e6 e7
  obtain ⟨x0, hx0⟩ : ∃ x, w.alloc (.cells #[.int .u64 hi, .int .u64 lo] 46) = x := ⟨_, rfl⟩
  have HX0 := Lib.hid hx0
  have hs0 : x0.heap.size = w.heap.size + 1 := by rw [← hx0]; simp
  have hb0 : Below w.heap.size w x0 := by rw [← hx0]; exact (Below.refl _ w).alloc (Nat.le_refl _) _
  have hB0 : x0.heap[w.heap.size]? = some (.cells #[.int .u64 hi, .int .u64 lo] 46 (0, 0)) := by rw [← hx0]; exact heap_alloc_new w _
  obtain ⟨x1, hx1⟩ : ∃ x, x0.alloc (.cells #[.int .u16 0, .int .u16 0, .int .u16 0, .int .u16 0, .int .u16 0, .int .u16 0, .int .u16 0, .int .u16 0] 92) = x := ⟨_, rfl⟩
  have hs1 : x1.heap.size = w.heap.size + 2 := by rw [← hx1]; simp [hs0]
  have hb1 : Below x0.heap.size x0 x1 := by rw [← hx1]; exact (Below.refl _ x0).alloc (Nat.le_refl _) _
  have hB1 : x1.heap[w.heap.size + 1]? = some (.cells #[.int .u16 0, .int .u16 0, .int .u16 0, .int .u16 0, .int .u16 0, .int .u16 0, .int .u16 0, .int .u16 0] 92 (0, 0)) := by rw [← hx1, ← hs0]; exact heap_alloc_new x0 _
  have HX1 := Lib.hid hx1
  have hC0 : x1.heap[w.heap.size]? = some (.cells #[.int .u64 hi, .int .u64 lo] 46 (0, 0)) := (hb1.block w.heap.size (by omega)).trans hB0
  have hbw1 : Below w.heap.size w x1 := hb0.trans (hb1.mono (by omega))
  have HB := Lib.hid (And.intro hC0 hB1)
  have HS := Lib.hid hs1
  have HS0 := Lib.hid hs0
  have HA0 : Hid ((x1.alloc (.cells #[.int .u16 0, .int .u16 0, .int .u16 0, .int .u16 0, .int .u16 0, .int .u16 0, .int .u16 0, .int .u16 0] 92)).heap[x1.heap.size]? = some (.cells (arrV a0 a1 a2 a3 a4 a5 a6 a7 0) 92 (0, 0))) := heap_alloc_new x1 _
  have hbA : Below x1.heap.size x1 (x1.alloc (.cells #[.int .u16 0, .int .u16 0, .int .u16 0, .int .u16 0, .int .u16 0, .int .u16 0, .int .u16 0, .int .u16 0] 92)) := (Below.refl _ x1).alloc (Nat.le_refl _) _
  clear hx0 hx1 hs0 hs1 hB0 hB1 hC0 hb0 hb1
  go_enter Tryz.func56, Tryz.ntmps56
  go_wp2
  rw [HX0.out, HX1.out]
  rw [show w.heap.size + 1 + 1 = x1.heap.size from HS.out.symm]
  go_loopw [6] (fun i wr => ∃ k : Nat, k ≤ 4 ∧ i = .int .i64 k ∧ Hid (wr.heap[x1.heap.size]? = some (.cells (arrV a0 a1 a2 a3 a4 a5 a6 a7 k) 92 (0, 0))) ∧ Below x1.heap.size x1 wr) (fun i _ => 4 - (intOf i).toNat)
  case atStart => exact ⟨0, by omega, rfl, HA0, hbA⟩
  case round =>
    obtain ⟨k, hk, rfl, HA, hbw⟩ := hrel
    have hg0 : w.heap.size < x1.heap.size := by rw [HS.out]; omega
    have hg1 : w.heap.size + 1 < x1.heap.size := by rw [HS.out]; omega
    by_cases hk4 : k < 4
    · have hch : wr.cell? ⟨w.heap.size, 0, none⟩ = some (.int .u64 hi) := by rw [hbw.cell (p := ⟨w.heap.size, 0, none⟩) hg0, cell_of_row x1 _ 0 _ _ _ HB.out.1]; rfl
      have hcl : wr.cell? ⟨w.heap.size, 1, none⟩ = some (.int .u64 lo) := by rw [hbw.cell (p := ⟨w.heap.size, 1, none⟩) hg0, cell_of_row x1 _ 1 _ _ _ HB.out.1]; rfl
      have hne : w.heap.size ≠ x1.heap.size := by omega
      rcases (show k = 0 ∨ k = 1 ∨ k = 2 ∨ k = 3 from by omega) with rfl | rfl | rfl | rfl
      · rw [show ((0 : Nat) : Int) = 0 from rfl]
        have hc1 : wr.cell? ⟨x1.heap.size, 0, none⟩ = some (.int .u16 0) := by rw [cell_of_row wr _ 0 _ _ _ HA.out]; rfl
        have hc2 : wr.cell? ⟨x1.heap.size, 4, none⟩ = some (.int .u16 0) := by rw [cell_of_row wr _ 4 _ _ _ HA.out]; rfl
        have hf1 : wr.frozen? ⟨x1.heap.size, 0, none⟩ = false := row_frozen0 HA.out 0
        have hf2 : wr.frozen? ⟨x1.heap.size, 4, none⟩ = false := row_frozen0 HA.out 4
        have HA2 : Hid (((wr.setCell ⟨x1.heap.size, 0, none⟩ (.int .u16 a0)).setCell ⟨x1.heap.size, 4, none⟩ (.int .u16 a4)).heap[x1.heap.size]? = some (.cells (arrV a0 a1 a2 a3 a4 a5 a6 a7 1) 92 (0, 0))) := by
          show _ = _
          simp [World.setCell, Array.getElem?_modify, HA.out, arrV]
        have hbw2 : Below x1.heap.size x1 ((wr.setCell ⟨x1.heap.size, 0, none⟩ (.int .u16 a0)).setCell ⟨x1.heap.size, 4, none⟩ (.int .u16 a4)) := (hbw.setCell (Nat.le_refl _) _).setCell (Nat.le_refl _) _
        have e0 := E.out.1
        have e4 := E.out.2.2.2.2.1
        skip
        go_wp2
        go_roundw
        case rel => exact ⟨1, by omega, (by first | rfl | go_num), HA2, hbw2⟩
        case measure => first | (simp [intOf]; done) | (simp [intOf]; omega)
      · rw [show ((1 : Nat) : Int) = 1 from rfl]
        have hc1 : wr.cell? ⟨x1.heap.size, 1, none⟩ = some (.int .u16 0) := by rw [cell_of_row wr _ 1 _ _ _ HA.out]; rfl
        have hc2 : wr.cell? ⟨x1.heap.size, 5, none⟩ = some (.int .u16 0) := by rw [cell_of_row wr _ 5 _ _ _ HA.out]; rfl
        have hf1 : wr.frozen? ⟨x1.heap.size, 1, none⟩ = false := row_frozen0 HA.out 1
        have hf2 : wr.frozen? ⟨x1.heap.size, 5, none⟩ = false := row_frozen0 HA.out 5
        have HA2 : Hid (((wr.setCell ⟨x1.heap.size, 1, none⟩ (.int .u16 a1)).setCell ⟨x1.heap.size, 5, none⟩ (.int .u16 a5)).heap[x1.heap.size]? = some (.cells (arrV a0 a1 a2 a3 a4 a5 a6 a7 2) 92 (0, 0))) := by
          show _ = _
          simp [World.setCell, Array.getElem?_modify, HA.out, arrV]
        have hbw2 : Below x1.heap.size x1 ((wr.setCell ⟨x1.heap.size, 1, none⟩ (.int .u16 a1)).setCell ⟨x1.heap.size, 5, none⟩ (.int .u16 a5)) := (hbw.setCell (Nat.le_refl _) _).setCell (Nat.le_refl _) _
        have e0 := E.out.2.1
        have e4 := E.out.2.2.2.2.2.1
        skip
        go_wp2
        go_roundw
        case rel => exact ⟨2, by omega, (by first | rfl | go_num), HA2, hbw2⟩
        case measure => first | (simp [intOf]; done) | (simp [intOf]; omega)
      · rw [show ((2 : Nat) : Int) = 2 from rfl]
        have hc1 : wr.cell? ⟨x1.heap.size, 2, none⟩ = some (.int .u16 0) := by rw [cell_of_row wr _ 2 _ _ _ HA.out]; rfl
        have hc2 : wr.cell? ⟨x1.heap.size, 6, none⟩ = some (.int .u16 0) := by rw [cell_of_row wr _ 6 _ _ _ HA.out]; rfl
        have hf1 : wr.frozen? ⟨x1.heap.size, 2, none⟩ = false := row_frozen0 HA.out 2
        have hf2 : wr.frozen? ⟨x1.heap.size, 6, none⟩ = false := row_frozen0 HA.out 6
        have HA2 : Hid (((wr.setCell ⟨x1.heap.size, 2, none⟩ (.int .u16 a2)).setCell ⟨x1.heap.size, 6, none⟩ (.int .u16 a6)).heap[x1.heap.size]? = some (.cells (arrV a0 a1 a2 a3 a4 a5 a6 a7 3) 92 (0, 0))) := by
          show _ = _
          simp [World.setCell, Array.getElem?_modify, HA.out, arrV]
        have hbw2 : Below x1.heap.size x1 ((wr.setCell ⟨x1.heap.size, 2, none⟩ (.int .u16 a2)).setCell ⟨x1.heap.size, 6, none⟩ (.int .u16 a6)) := (hbw.setCell (Nat.le_refl _) _).setCell (Nat.le_refl _) _
        have e0 := E.out.2.2.1
        have e4 := E.out.2.2.2.2.2.2.1
        skip
        go_wp2
        go_roundw
        case rel => exact ⟨3, by omega, (by first | rfl | go_num), HA2, hbw2⟩
        case measure => first | (simp [intOf]; done) | (simp [intOf]; omega)
      · rw [show ((3 : Nat) : Int) = 3 from rfl]
        have hc1 : wr.cell? ⟨x1.heap.size, 3, none⟩ = some (.int .u16 0) := by rw [cell_of_row wr _ 3 _ _ _ HA.out]; rfl
        have hc2 : wr.cell? ⟨x1.heap.size, 7, none⟩ = some (.int .u16 0) := by rw [cell_of_row wr _ 7 _ _ _ HA.out]; rfl
        have hf1 : wr.frozen? ⟨x1.heap.size, 3, none⟩ = false := row_frozen0 HA.out 3
        have hf2 : wr.frozen? ⟨x1.heap.size, 7, none⟩ = false := row_frozen0 HA.out 7
        have HA2 : Hid (((wr.setCell ⟨x1.heap.size, 3, none⟩ (.int .u16 a3)).setCell ⟨x1.heap.size, 7, none⟩ (.int .u16 a7)).heap[x1.heap.size]? = some (.cells (arrV a0 a1 a2 a3 a4 a5 a6 a7 4) 92 (0, 0))) := by
          show _ = _
          simp [World.setCell, Array.getElem?_modify, HA.out, arrV]
        have hbw2 : Below x1.heap.size x1 ((wr.setCell ⟨x1.heap.size, 3, none⟩ (.int .u16 a3)).setCell ⟨x1.heap.size, 7, none⟩ (.int .u16 a7)) := (hbw.setCell (Nat.le_refl _) _).setCell (Nat.le_refl _) _
        have e0 := E.out.2.2.2.1
        have e4 := E.out.2.2.2.2.2.2.2
        rw [Int.ediv_one] at e0 e4
        go_wp2
        go_roundw
        case rel => exact ⟨4, by omega, (by first | rfl | go_num), HA2, hbw2⟩
        case measure => first | (simp [intOf]; done) | (simp [intOf]; omega)
    · obtain rfl : k = 4 := by omega
      rw [show ((4 : Nat) : Int) = 4 from rfl]
      have hc0 : wr.cell? ⟨x1.heap.size, 0, none⟩ = some (.int .u16 a0) := by rw [cell_of_row wr _ 0 _ _ _ HA.out]; rfl
      have hr0 : wr.cell? ⟨w.heap.size + 1, 0, none⟩ = some (.int .u16 0) := by rw [hbw.cell (p := ⟨w.heap.size + 1, 0, none⟩) hg1, cell_of_row x1 _ 0 _ _ _ HB.out.2]; rfl
      have hf0 : wr.frozen? ⟨w.heap.size + 1, 0, none⟩ = false := (hbw.frozen (p := ⟨w.heap.size + 1, 0, none⟩) hg1).trans (row_frozen0 HB.out.2 0)
      have hc1 : wr.cell? ⟨x1.heap.size, 1, none⟩ = some (.int .u16 a1) := by rw [cell_of_row wr _ 1 _ _ _ HA.out]; rfl
      have hr1 : wr.cell? ⟨w.heap.size + 1, 1, none⟩ = some (.int .u16 0) := by rw [hbw.cell (p := ⟨w.heap.size + 1, 1, none⟩) hg1, cell_of_row x1 _ 1 _ _ _ HB.out.2]; rfl
      have hf1 : wr.frozen? ⟨w.heap.size + 1, 1, none⟩ = false := (hbw.frozen (p := ⟨w.heap.size + 1, 1, none⟩) hg1).trans (row_frozen0 HB.out.2 1)
      have hc2 : wr.cell? ⟨x1.heap.size, 2, none⟩ = some (.int .u16 a2) := by rw [cell_of_row wr _ 2 _ _ _ HA.out]; rfl
      have hr2 : wr.cell? ⟨w.heap.size + 1, 2, none⟩ = some (.int .u16 0) := by rw [hbw.cell (p := ⟨w.heap.size + 1, 2, none⟩) hg1, cell_of_row x1 _ 2 _ _ _ HB.out.2]; rfl
      have hf2 : wr.frozen? ⟨w.heap.size + 1, 2, none⟩ = false := (hbw.frozen (p := ⟨w.heap.size + 1, 2, none⟩) hg1).trans (row_frozen0 HB.out.2 2)
      have hc3 : wr.cell? ⟨x1.heap.size, 3, none⟩ = some (.int .u16 a3) := by rw [cell_of_row wr _ 3 _ _ _ HA.out]; rfl
      have hr3 : wr.cell? ⟨w.heap.size + 1, 3, none⟩ = some (.int .u16 0) := by rw [hbw.cell (p := ⟨w.heap.size + 1, 3, none⟩) hg1, cell_of_row x1 _ 3 _ _ _ HB.out.2]; rfl
      have hf3 : wr.frozen? ⟨w.heap.size + 1, 3, none⟩ = false := (hbw.frozen (p := ⟨w.heap.size + 1, 3, none⟩) hg1).trans (row_frozen0 HB.out.2 3)
      have hc4 : wr.cell? ⟨x1.heap.size, 4, none⟩ = some (.int .u16 a4) := by rw [cell_of_row wr _ 4 _ _ _ HA.out]; rfl
      have hr4 : wr.cell? ⟨w.heap.size + 1, 4, none⟩ = some (.int .u16 0) := by rw [hbw.cell (p := ⟨w.heap.size + 1, 4, none⟩) hg1, cell_of_row x1 _ 4 _ _ _ HB.out.2]; rfl
      have hf4 : wr.frozen? ⟨w.heap.size + 1, 4, none⟩ = false := (hbw.frozen (p := ⟨w.heap.size + 1, 4, none⟩) hg1).trans (row_frozen0 HB.out.2 4)
      have hc5 : wr.cell? ⟨x1.heap.size, 5, none⟩ = some (.int .u16 a5) := by rw [cell_of_row wr _ 5 _ _ _ HA.out]; rfl
      have hr5 : wr.cell? ⟨w.heap.size + 1, 5, none⟩ = some (.int .u16 0) := by rw [hbw.cell (p := ⟨w.heap.size + 1, 5, none⟩) hg1, cell_of_row x1 _ 5 _ _ _ HB.out.2]; rfl
      have hf5 : wr.frozen? ⟨w.heap.size + 1, 5, none⟩ = false := (hbw.frozen (p := ⟨w.heap.size + 1, 5, none⟩) hg1).trans (row_frozen0 HB.out.2 5)
      have hc6 : wr.cell? ⟨x1.heap.size, 6, none⟩ = some (.int .u16 a6) := by rw [cell_of_row wr _ 6 _ _ _ HA.out]; rfl
      have hr6 : wr.cell? ⟨w.heap.size + 1, 6, none⟩ = some (.int .u16 0) := by rw [hbw.cell (p := ⟨w.heap.size + 1, 6, none⟩) hg1, cell_of_row x1 _ 6 _ _ _ HB.out.2]; rfl
      have hf6 : wr.frozen? ⟨w.heap.size + 1, 6, none⟩ = false := (hbw.frozen (p := ⟨w.heap.size + 1, 6, none⟩) hg1).trans (row_frozen0 HB.out.2 6)
      have hc7 : wr.cell? ⟨x1.heap.size, 7, none⟩ = some (.int .u16 a7) := by rw [cell_of_row wr _ 7 _ _ _ HA.out]; rfl
      have hr7 : wr.cell? ⟨w.heap.size + 1, 7, none⟩ = some (.int .u16 0) := by rw [hbw.cell (p := ⟨w.heap.size + 1, 7, none⟩) hg1, cell_of_row x1 _ 7 _ _ _ HB.out.2]; rfl
      have hf7 : wr.frozen? ⟨w.heap.size + 1, 7, none⟩ = false := (hbw.frozen (p := ⟨w.heap.size + 1, 7, none⟩) hg1).trans (row_frozen0 HB.out.2 7)
      have hbf : Below w.heap.size w wr := hbw1.trans (hbw.mono (by omega))
      go_wp2
      exact bodyPost_ret (v := .agg #[.int .u16 a0, .int .u16 a1, .int .u16 a2, .int .u16 a3, .int .u16 a4, .int .u16 a5, .int .u16 a6, .int .u16 a7]) (by simp [results, Tryz.results56, go_sem, hr0, hr1, hr2, hr3, hr4, hr5, hr6, hr7]) rfl ⟨rfl, (((((((hbf.setCell (by show _ ≤ w.heap.size + 1; omega) _).setCell (by show _ ≤ w.heap.size + 1; omega) _).setCell (by show _ ≤ w.heap.size + 1; omega) _).setCell (by show _ ≤ w.heap.size + 1; omega) _).setCell (by show _ ≤ w.heap.size + 1; omega) _).setCell (by show _ ≤ w.heap.size + 1; omega) _).setCell (by show _ ≤ w.heap.size + 1; omega) _).setCell (by show _ ≤ w.heap.size + 1; omega) _⟩

set_option maxHeartbeats 1000000 in
theorem wide6_any (hi lo : Int) (w : World) :
    Calls Tryz.prog 21 #[.agg #[.int .u64 hi, .int .u64 lo]] w fun e w' => e = .returned (.tuple #[.int .u64 hi, .int .u64 lo]) ∧ Below w.heap.size w w' := by
  go_enter Tryz.func21, Tryz.ntmps21
  go_wp2
  go_quiet (fail)
  go_wp2
  go_ret2
  exact ⟨rfl, below_drewN ((Below.refl _ w).alloc (Nat.le_refl _) _) _⟩
end Go.Proofs.YtgmfgcpfpopboaaGreatDoor
