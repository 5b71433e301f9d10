/-
  The law SixWrites: its Go text returns true at every address, where the library's tables read as they are laid; nothing that lay in memory before is changed.
-/
import Derived.Test.YtgmfgcpfpopboaaDoorSixR
import Derived.Test.YtgmfgcpfpopboaaDoorSixOfWalk
namespace Go.Proofs.YtgmfgcpfpopboaaDoor
open Go.RowKit


theorem below_chain2 {x w4 w5 : World} (h4 : Below x.heap.size x w4) (h5 : Below w4.heap.size w4 w5) : Below x.heap.size x w5 := h4.trans (h5.mono h4.size)
theorem bounds_u64 {n : Int} (h : (Lit.int .u64 n).wf = true) : 0 ≤ n ∧ n ≤ 18446744073709551615 := by
  simp [Lit.wf, IntKind.min, IntKind.max, IntKind.bits, IntKind.signed] at h
  omega
theorem pcs_list (l : List Int) (h : l.length = 8) (m : List Int) (hm : m.length = 8) (e : ∀ j, j < 8 → l.getD j 0 = m.getD j 0) : l = m := by
  apply List.ext_getElem (by omega)
  intro j h1 h2
  have := e j (by omega)
  rwa [List.getD, List.getD, List.getElem?_eq_getElem h1, List.getElem?_eq_getElem h2] at this

set_option maxRecDepth 100000 in
set_option maxHeartbeats 4000000 in
theorem sixWrites_walk (a0 a1 : Int) (w0 : (Lit.int .u64 a0).wf = true) (w1 : (Lit.int .u64 a1).wf = true) (w : World) (hbru : BruTab w) (hmax : MaxVar w) :
    Calls Tryd.prog 4 #[.int .u64 a0, .int .u64 a1] w fun e w' => e = .returned (.bool true) ∧ Below w.heap.size w w' := by
  have HX := Lib.hid hmax
  have HT := Lib.hid hbru
  clear hbru hmax
  obtain ⟨h0, h1⟩ := bounds_u64 w0
  obtain ⟨l0, l1⟩ := bounds_u64 w1
  clear w0 w1
  have HIN := Lib.hid (pcs_in h0 h1 l0 l1)
  have HTR := Lib.hid (six_text h0 h1 l0 l1)
  have hlen := text6_len h0 h1 l0 l1
  go_enter Tryd.func4, Tryd.ntmps4
  go_wp2_with fail
  refine (awake05_any _ HT.out HX.out).mono ?_
  rintro e x1 ⟨rfl, hb1⟩
  have hc2 : Below w.heap.size w (x1.alloc (.cells #[.int .u64 a0, .int .u64 a1] 25)) := hb1.alloc hb1.size _
  have hB5 : (x1.alloc (.cells #[.int .u64 a0, .int .u64 a1] 25)).heap[x1.heap.size]? = some (.cells #[.int .u64 a0, .int .u64 a1] 25 (0, 0)) := heap_alloc_new x1 _
  have HB5 := Lib.hid hB5
  have hg5 : x1.heap.size < (x1.alloc (.cells #[.int .u64 a0, .int .u64 a1] 25)).heap.size := by simp
  clear hB5 hb1
  go_wp2_with fail
  generalize x1.alloc (.cells #[.int .u64 a0, .int .u64 a1] 25) = x2 at *
  generalize x1.heap.size = g5 at *
  refine (pieces6_any a0 a1 _ h0 h1 l0 l1).mono ?_
  rintro e x3 ⟨rfl, hb3⟩
  have HB53 : Hid (x3.heap[g5]? = some (.cells #[.int .u64 a0, .int .u64 a1] 25 (0, 0))) := (hb3.block g5 hg5).trans HB5.out
  have hg53 : g5 < x3.heap.size := Nat.lt_of_lt_of_le hg5 hb3.size
  have hc3 : Below w.heap.size w x3 := hc2.trans (hb3.mono hc2.size)
  have HPC : Hid ([a0 / 281474976710656, a0 / 4294967296 % 65536, a0 / 65536 % 65536, a0 % 65536, a1 / 281474976710656, a1 / 4294967296 % 65536, a1 / 65536 % 65536, a1 % 65536] = pcs a0 a1) := rfl
  obtain ⟨c0, hc0p⟩ : ∃ a, a0 / 281474976710656 = a := ⟨_, rfl⟩
  have hcb0 : 0 ≤ c0 ∧ c0 ≤ 65535 := by omega
  obtain ⟨c1, hc1p⟩ : ∃ a, a0 / 4294967296 % 65536 = a := ⟨_, rfl⟩
  have hcb1 : 0 ≤ c1 ∧ c1 ≤ 65535 := by omega
  obtain ⟨c2, hc2p⟩ : ∃ a, a0 / 65536 % 65536 = a := ⟨_, rfl⟩
  have hcb2 : 0 ≤ c2 ∧ c2 ≤ 65535 := by omega
  obtain ⟨c3, hc3p⟩ : ∃ a, a0 % 65536 = a := ⟨_, rfl⟩
  have hcb3 : 0 ≤ c3 ∧ c3 ≤ 65535 := by omega
  obtain ⟨c4, hc4p⟩ : ∃ a, a1 / 281474976710656 = a := ⟨_, rfl⟩
  have hcb4 : 0 ≤ c4 ∧ c4 ≤ 65535 := by omega
  obtain ⟨c5, hc5p⟩ : ∃ a, a1 / 4294967296 % 65536 = a := ⟨_, rfl⟩
  have hcb5 : 0 ≤ c5 ∧ c5 ≤ 65535 := by omega
  obtain ⟨c6, hc6p⟩ : ∃ a, a1 / 65536 % 65536 = a := ⟨_, rfl⟩
  have hcb6 : 0 ≤ c6 ∧ c6 ≤ 65535 := by omega
  obtain ⟨c7, hc7p⟩ : ∃ a, a1 % 65536 = a := ⟨_, rfl⟩
  have hcb7 : 0 ≤ c7 ∧ c7 ≤ 65535 := by omega
  rw [hc0p, hc1p, hc2p, hc3p, hc4p, hc5p, hc6p, hc7p] at HPC ⊢
  clear hc0p hc1p hc2p hc3p hc4p hc5p hc6p hc7p hb3 hc2 HB5 hg5
  have hc4 : Below w.heap.size w (x3.alloc (.cells #[.int .u16 c0, .int .u16 c1, .int .u16 c2, .int .u16 c3, .int .u16 c4, .int .u16 c5, .int .u16 c6, .int .u16 c7] 32)) := hc3.alloc hc3.size _
  have hd4 : Below x3.heap.size x3 (x3.alloc (.cells #[.int .u16 c0, .int .u16 c1, .int .u16 c2, .int .u16 c3, .int .u16 c4, .int .u16 c5, .int .u16 c6, .int .u16 c7] 32)) := (Below.refl _ x3).alloc (Nat.le_refl _) _
  have HB6 := Lib.hid (heap_alloc_new x3 (.cells #[.int .u16 c0, .int .u16 c1, .int .u16 c2, .int .u16 c3, .int .u16 c4, .int .u16 c5, .int .u16 c6, .int .u16 c7] 32))
  have HB54 : Hid ((x3.alloc (.cells #[.int .u16 c0, .int .u16 c1, .int .u16 c2, .int .u16 c3, .int .u16 c4, .int .u16 c5, .int .u16 c6, .int .u16 c7] 32)).heap[g5]? = some (.cells #[.int .u64 a0, .int .u64 a1] 25 (0, 0))) := (hd4.block g5 hg53).trans HB53.out
  have hg54 : g5 < (x3.alloc (.cells #[.int .u16 c0, .int .u16 c1, .int .u16 c2, .int .u16 c3, .int .u16 c4, .int .u16 c5, .int .u16 c6, .int .u16 c7] 32)).heap.size := Nat.lt_of_lt_of_le hg53 hd4.size
  have hg64 : x3.heap.size < (x3.alloc (.cells #[.int .u16 c0, .int .u16 c1, .int .u16 c2, .int .u16 c3, .int .u16 c4, .int .u16 c5, .int .u16 c6, .int .u16 c7] 32)).heap.size := by simp
  clear hd4 hc3
  go_wp2_with fail
  generalize x3.alloc (.cells #[.int .u16 c0, .int .u16 c1, .int .u16 c2, .int .u16 c3, .int .u16 c4, .int .u16 c5, .int .u16 c6, .int .u16 c7] 32) = x4 at *
  generalize x3.heap.size = g6 at *
  refine (refPieces_any a0 a1 _ h0 h1 l0 l1).mono ?_
  rintro e x5 ⟨B, rfl, hB, hcl, hb5⟩
  have hc5 : Below w.heap.size w x5 := hc4.trans (hb5.mono hc4.size)
  have HCR := Lib.hid hcl
  have HC6 : Hid (∀ j, j < 8 → x5.cell? ⟨g6, j, none⟩ = some (.int .u16 ((pcs a0 a1).getD j 0))) := fun j hj => by
    rw [hb5.cell (p := ⟨g6, j, none⟩) hg64, cell_of_row x4 _ j _ _ _ HB6.out, ← HPC.out]
    rcases (show j = 0 ∨ j = 1 ∨ j = 2 ∨ j = 3 ∨ j = 4 ∨ j = 5 ∨ j = 6 ∨ j = 7 from by omega) with rfl | rfl | rfl | rfl | rfl | rfl | rfl | rfl <;> rfl
  have HB55 : Hid (x5.heap[g5]? = some (.cells #[.int .u64 a0, .int .u64 a1] 25 (0, 0))) := (hb5.block g5 hg54).trans HB54.out
  have hg55 : g5 < x5.heap.size := Nat.lt_of_lt_of_le hg54 hb5.size
  have hg65 : g6 < x5.heap.size := Nat.lt_of_lt_of_le hg64 hb5.size
  clear hcl hb5 hc4
  go_wp2
  go_loop [24] (fun i => ∃ k : Nat, k ≤ 8 ∧ i = .int .i64 k) (fun i => 8 - (intOf i).toNat)
  case atStart => exact ⟨0, by omega, rfl⟩
  case round =>
    obtain ⟨k, hk, rfl⟩ := hrel
    by_cases hk8 : k < 8
    · have hr := HCR.out k hk8
      have hp := HC6.out k hk8
      have hxb := HIN.out.getD k
      generalize (pcs a0 a1).getD k 0 = x at *
      obtain ⟨hx0, hx1⟩ := hxb
      have hne : (x != x) = false := by simp
      go_wp2
      go_round
      case rel => exact ⟨k + 1, by omega, by go_num⟩
      case measure => simp [intOf]; omega
    · obtain rfl : k = 8 := by omega
      rw [show ((8 : Nat) : Int) = 8 from rfl]
      have k0 : x5.cell? ⟨g5, 0, none⟩ = some (.int .u64 a0) := by rw [cell_of_row x5 _ 0 _ _ _ HB55.out]; rfl
      have k1 : x5.cell? ⟨g5, 1, none⟩ = some (.int .u64 a1) := by rw [cell_of_row x5 _ 1 _ _ _ HB55.out]; rfl
      go_wp2_with fail
      refine (text6_any a0 a1 _ h0 h1 l0 l1 (bruTab_below HT.out hc5)).mono ?_
      rintro e x6 ⟨rfl, hb6⟩
      have hc6 : Below w.heap.size w x6 := hc5.trans (hb6.mono hc5.size)
      clear k0 k1
      go_wp2_with fail
      refine (parse6_any _ _ (by rw [size_mk]; omega) (maxVar_below HX.out hc6)).mono ?_
      rw [mk_list, HTR.out]
      rintro e x7 ⟨rfl, hb7⟩
      have hd7 : Below x5.heap.size x5 x7 := hb6.trans (hb7.mono hb6.size)
      have hd8 : Below x5.heap.size x5 (x7.alloc (.cells #[.int .u64 a0, .int .u64 a1] 25)) := hd7.alloc hd7.size _
      have HB9 := Lib.hid (heap_alloc_new x7 (.cells #[.int .u64 a0, .int .u64 a1] 25))
      have hg9 : x7.heap.size < (x7.alloc (.cells #[.int .u64 a0, .int .u64 a1] 25)).heap.size := by simp
      have k0 : (x7.alloc (.cells #[.int .u64 a0, .int .u64 a1] 25)).cell? ⟨g5, 0, none⟩ = some (.int .u64 a0) := by rw [hd8.cell (p := ⟨g5, 0, none⟩) hg55, cell_of_row x5 _ 0 _ _ _ HB55.out]; rfl
      have k1 : (x7.alloc (.cells #[.int .u64 a0, .int .u64 a1] 25)).cell? ⟨g5, 1, none⟩ = some (.int .u64 a1) := by rw [hd8.cell (p := ⟨g5, 1, none⟩) hg55, cell_of_row x5 _ 1 _ _ _ HB55.out]; rfl
      clear hb6 hb7 hd7 hc6
      go_wp2_with fail
      generalize x7.alloc (.cells #[.int .u64 a0, .int .u64 a1] 25) = x8 at *
      generalize x7.heap.size = g9 at *
      refine (wide6_any a0 a1 _).mono ?_
      rintro e x9 ⟨rfl, hb9⟩
      have hd9 : Below x5.heap.size x5 x9 := hd8.trans (hb9.mono hd8.size)
      have hc9 : Below w.heap.size w x9 := hc5.trans (hd9.mono hc5.size)
      have m0 : x9.cell? ⟨g5, 0, none⟩ = some (.int .u64 a0) := (hb9.cell (World.block_lt_of_cell? x8 _ k0)).trans k0
      have m1 : x9.cell? ⟨g5, 1, none⟩ = some (.int .u64 a1) := (hb9.cell (World.block_lt_of_cell? x8 _ k1)).trans k1
      have m2 : x9.cell? ⟨g9, 0, none⟩ = some (.int .u64 a0) := by rw [hb9.cell (p := ⟨g9, 0, none⟩) hg9, cell_of_row x8 _ 0 _ _ _ HB9.out]; rfl
      have m3 : x9.cell? ⟨g9, 1, none⟩ = some (.int .u64 a1) := by rw [hb9.cell (p := ⟨g9, 1, none⟩) hg9, cell_of_row x8 _ 1 _ _ _ HB9.out]; rfl
      have HKC : Hid (∀ W, Below x9.heap.size x9 W → W.cell? ⟨g5, 0, none⟩ = some (.int .u64 a0) ∧ W.cell? ⟨g5, 1, none⟩ = some (.int .u64 a1) ∧ W.cell? ⟨g9, 0, none⟩ = some (.int .u64 a0) ∧ W.cell? ⟨g9, 1, none⟩ = some (.int .u64 a1)) := fun W hW =>
        ⟨(hW.cell (World.block_lt_of_cell? x9 _ m0)).trans m0, (hW.cell (World.block_lt_of_cell? x9 _ m1)).trans m1, (hW.cell (World.block_lt_of_cell? x9 _ m2)).trans m2, (hW.cell (World.block_lt_of_cell? x9 _ m3)).trans m3⟩
      have HT1 : Hid (∀ W, Below x9.heap.size x9 W → Calls Tryd.prog 16 #[.agg #[.int .u64 a0, .int .u64 a1]] W (RetStr W (text6Z a0 a1))) := fun W hW => text6_any a0 a1 W h0 h1 l0 l1 (bruTab_below HT.out (hc9.trans (hW.mono hc9.size)))
      have HT2 : Hid (∀ W, Calls Tryd.prog 18 #[.int .u64 a0, .int .u64 a1] W (RetStr W (text6Z a0 a1))) := fun W => refText6_any a0 a1 W h0 h1 l0 l1
      have HO : Hid (∀ W, Below x9.heap.size x9 W → Calls Tryd.prog 19 #[.slice (some ⟨g6, 0, none⟩) 8 8] W fun e w' => e = .returned (.agg #[.int .u64 a0, .int .u64 a1]) ∧ Below W.heap.size W w') := fun W hW => by
        have hq := sixOf_any (.slice (some ⟨g6, 0, none⟩) 8 8) (pcs a0 a1) W ⟨_, 8, rfl, fun j u hj => ⟨_, rfl, by
          rw [Lib.add_plain, Nat.zero_add]
          have hj8 : j < 8 := by
            have := (List.getElem?_eq_some_iff.1 hj).1
            rwa [List.length_map] at this
          have e1 := HC6.out j hj8
          have e2 : W.cell? ⟨g6, j, none⟩ = x5.cell? ⟨g6, j, none⟩ := (hW.cell (p := ⟨g6, j, none⟩) (Nat.lt_of_lt_of_le hg65 hd9.size)).trans (hd9.cell (p := ⟨g6, j, none⟩) hg65)
          rw [e2, e1, ← hj, List.getElem?_map, List.getD]
          rw [List.getElem?_eq_getElem hj8]
          rfl⟩⟩ HIN.out (by show (8 : Nat) ≤ 1073741824; decide)
        rwa [hi4_pcs, lo4_pcs] at hq
      have hl1 : decide (((text6Z a0 a1).length : Int) ≤ 39) = true := decide_eq_true (by omega)
      generalize text6Z a0 a1 = TX at *
      have hsz : (ByteArray.mk TX.toArray).size = TX.length := size_mk TX
      have hl2 : decide ((((ByteArray.mk TX.toArray).size : Nat) : Int) ≤ 39) = true := by rw [hsz]; exact hl1
      clear hb9 hd9 hd8 k0 k1
      go_wp2
      go_region_held3 (fun W => W.cell? ⟨g5, 0, none⟩ = some (.int .u64 a0) ∧ W.cell? ⟨g5, 1, none⟩ = some (.int .u64 a1) ∧ W.cell? ⟨g9, 0, none⟩ = some (.int .u64 a0) ∧ W.cell? ⟨g9, 1, none⟩ = some (.int .u64 a1))
        (first | exact HKC.out _ (below_drew1 _) | exact HKC.out _ (below_of_drew hb10) | exact HKC.out _ (below_chain2 (below_of_drew hb10) hb11) | exact HKC.out _ (below_chain2 (below_chain2 (below_of_drew hb10) hb11) hb12) | exact HKC.out _ (below_chain2 (below_chain2 (below_chain2 (below_of_drew hb10) hb11) hb12) hb13))
        (first
          | (go_simp; go_at_call 16; ((with_reducible refine (HT1.out _ (below_drew1 _)).mono ?_); rintro e x10 ⟨rfl, hb10⟩))
          | (go_simp; go_at_call 18; ((with_reducible refine (HT2.out _).mono ?_); rintro e x11 ⟨rfl, hb11⟩))
          | (go_simp; go_at_call 16; ((with_reducible refine (HT1.out _ (below_chain2 (below_of_drew hb10) hb11)).mono ?_); rintro e x12 ⟨rfl, hb12⟩))
          | (go_simp; go_at_call 19; ((with_reducible refine (HO.out _ (below_chain2 (below_chain2 (below_of_drew hb10) hb11) hb12)).mono ?_); rintro e x13 ⟨rfl, hb13⟩)))
      have hfin : Below w.heap.size w x13 := hc9.trans ((below_chain2 (below_chain2 (below_chain2 (below_of_drew hb10) hb11) hb12) hb13).mono hc9.size)
      go_wp2
      go_ret
      exact ⟨rfl, hfin⟩
end Go.Proofs.YtgmfgcpfpopboaaDoor
