/-
  Layer 5: Of.
-/
import Derived.Test.YtgmfgcpfpopboaaGreatDoorSixC
import Derived.Laws.CopyOwn
namespace Go.Proofs.YtgmfgcpfpopboaaGreatDoor
open Go.RowKit


theorem frozen_new (w : World) (cs : Array Value) (t : TypeId) (j : Nat) : (w.alloc (.cells cs t)).frozen? ⟨w.heap.size, j, none⟩ = false := by
  have h := heap_alloc_new w (.cells cs t)
  simp only [World.frozen?, h]
  simp

def hiP (o : Nat) (l : List Int) : Nat → Int
  | 0 => 0
  | k + 1 => hiP o l k * 65536 + l.getD (o + k) 0
theorem hiP_hi (l : List Int) : hiP 0 l 4 = hi4 l := by simp [hiP, hi4]
theorem hiP_lo (l : List Int) : hiP 4 l 4 = lo4 l := by simp [hiP, lo4]
theorem hiP_bounds {l : List Int} (h : In16 l) (o k : Nat) (hk : k ≤ 3) : 0 ≤ hiP o l k ∧ hiP o l k ≤ 281474976710655 := by
  have h0 := h.getD o
  have h1 := h.getD (o + 1)
  have h2 := h.getD (o + 2)
  rcases (show k = 0 ∨ k = 1 ∨ k = 2 ∨ k = 3 from by omega) with rfl | rfl | rfl | rfl <;> simp only [hiP, Nat.add_zero] <;> omega
theorem u64_join16 (x y : Int) (hx0 : 0 ≤ x) (hx : x ≤ 281474976710655) (hy0 : 0 ≤ y) (hy : y ≤ 65535) : bits .or .u64 (x * 65536) y = x * 65536 + y :=
  bits_join .u64 64 (by decide) (fun n h0 h1 => by rw [IntKind.wrap_u64]; omega) 16 (x * 65536) y (by omega) (by omega) (by omega) hy0 (by omega) (by omega)

abbrev zeros8 : List Value := [.int .u16 0, .int .u16 0, .int .u16 0, .int .u16 0, .int .u16 0, .int .u16 0, .int .u16 0, .int .u16 0]
theorem splice8 (l : List Int) (j : Nat) (hj : j < 8) : (splice zeros8 0 ((l.map (Value.int .u16)).take 8))[j]? = some (.int .u16 (l.getD j 0)) := by
  unfold splice
  simp only [List.take_zero, List.nil_append, Nat.zero_add, List.length_take, List.length_map]
  by_cases h : j < l.length
  · rw [List.getElem?_append_left (by simp; omega), List.getElem?_take, if_pos hj, List.getElem?_map, List.getElem?_eq_getElem h, List.getD, List.getElem?_eq_getElem h]
    rfl
  · rw [List.getElem?_append_right (by simp; omega), List.getElem?_drop, List.getD, List.getElem?_eq_none (by omega : l.length ≤ j)]
    simp only [List.length_take, List.length_map]
    rw [show min 8 l.length + (j - min 8 l.length) = j from by omega]
    rcases (show j = 0 ∨ j = 1 ∨ j = 2 ∨ j = 3 ∨ j = 4 ∨ j = 5 ∨ j = 6 ∨ j = 7 from by omega) with rfl | rfl | rfl | rfl | rfl | rfl | rfl | rfl <;> rfl

set_option maxRecDepth 100000 in
set_option maxHeartbeats 4000000 in
theorem sixOf_any (v : Value) (l : List Int) (w : World) (hr : RowR w v (l.map (Value.int .u16))) (hin : In16 l) (hlen : l.length ≤ 1073741824) :
    Calls Tryz.prog 40 #[v] w fun e w' => e = .returned (.agg #[.int .u64 (hi4 l), .int .u64 (lo4 l)]) ∧ Below w.heap.size w w' := by
  obtain ⟨ao, c, rfl, hcs⟩ := hr
  rw [List.length_map]
  have HCS := Lib.hid hcs
  have HIN := Lib.hid hin
  clear hcs hin
  have hU : (Tryz.prog.info? 86).map (·.size) = some 1 := by
    obtain ⟨i0, hi, hz0, hz1, hz2⟩ := info_parts Tryz.infoU16
    rw [hi]; simp [hz1]
  have hW0s : (w.alloc (.cells #[.int .u64 0, .int .u64 0] 46)).heap.size = w.heap.size + 1 := by simp
  have hW0s : (w.alloc (.cells #[.int .u64 0, .int .u64 0] 46)).heap.size = w.heap.size + 1 := by simp
  have hb0 : Below (w.heap.size + 1) (w.alloc (.cells #[.int .u64 0, .int .u64 0] 46)) ((w.alloc (.cells #[.int .u64 0, .int .u64 0] 46)).alloc (.cells #[.int .u16 0, .int .u16 0, .int .u16 0, .int .u16 0, .int .u16 0, .int .u16 0, .int .u16 0, .int .u16 0] 92)) := (Below.refl _ _).alloc (by rw [hW0s]; exact Nat.le_refl _) _
  have HPOS : Hid (0 < ((l.map (Value.int .u16)).take 8).length → (some (⟨w.heap.size + 1, 0, none⟩ : Addr)) = some ⟨w.heap.size + 1, 0, none⟩ ∧ ∃ ad, ao = some ad ∧ ∀ j v, ((l.map (Value.int .u16)).take 8)[j]? = some v → ((w.alloc (.cells #[.int .u64 0, .int .u64 0] 46)).alloc (.cells #[.int .u16 0, .int .u16 0, .int .u16 0, .int .u16 0, .int .u16 0, .int .u16 0, .int .u16 0, .int .u16 0] 92)).cell? (ad.add j) = some v) := fun hp => by
    have hl : 0 < l.length := by simp at hp; omega
    obtain ⟨ad, ha, _⟩ := HCS.out 0 (.int .u16 l[0]) (by simp [hl])
    refine ⟨rfl, ad, ha, fun j v hj => ?_⟩
    rw [List.getElem?_take] at hj
    split at hj
    · obtain ⟨ad2, ha2, hc2⟩ := HCS.out j v hj
      rw [ha] at ha2
      cases ha2
      exact ((((Below.refl _ w).alloc (Nat.le_refl _) _).alloc (by simp) _).cell (World.block_lt_of_cell? w _ hc2)).trans hc2
    · cases hj
  have hfit : 0 + ((l.map (Value.int .u16)).take 8).length ≤ zeros8.length := by simp [zeros8]; omega
  have hone : ∀ v ∈ (l.map (Value.int .u16)).take 8, v.oneCell' = true := by
    intro v hv
    obtain ⟨x, _, rfl⟩ := List.mem_map.1 (List.mem_of_mem_take hv)
    rfl
  have hcl : ((l.map (Value.int .u16)).take 8).length = Nat.min l.length 8 := by
    rw [List.length_take, List.length_map]; exact Nat.min_comm _ _
  have HONE := Lib.hid hone
  have HCL := Lib.hid hcl
  clear hone hcl hW0s
  go_enter Tryz.func40, Tryz.ntmps40
  go_wp2_with (refine wpList_copy_splice (o := ⟨some 8, _, _, _, _, _⟩) rfl (.tmp 6) (.tmp 7) 77 77 rfl 86 Tryz.underlying77 hU (some ⟨w.heap.size + 1, 0, none⟩) ao 8 8 l.length c rfl rfl (w.heap.size + 1) 0 zeros8 92 (by rw [show w.heap.size + 1 = (w.alloc (.cells #[.int .u64 0, .int .u64 0] 46)).heap.size from by simp]; exact heap_alloc_new _ _) ((l.map (Value.int .u16)).take 8) HCL.out HPOS.out hfit HONE.out (w.heap.size + 1) _ hb0 (by omega) ?_; intro w1 HB hb1)
  have hsz1 : w.heap.size + 1 < w1.heap.size := (Array.getElem?_eq_some_iff.1 HB.out).1
  have HARR : Hid (∀ j, j < 8 → w1.cell? ⟨w.heap.size + 1, j, none⟩ = some (.int .u16 (l.getD j 0))) := fun j hj => by
    rw [cell_of_row w1 _ j _ _ _ HB.out]
    have := splice8 l j hj
    simpa using this
  have hres : ∀ j u, (#[Value.int .u64 0, Value.int .u64 0] : Array Value)[j]? = some u → w1.cell? ⟨w.heap.size, j, none⟩ = some u := fun j u hj => by
    rw [hb1.cell (p := ⟨w.heap.size, j, none⟩) (by show w.heap.size < w.heap.size + 1; omega), cell_of_row _ _ j _ _ _ (heap_alloc_new w _)]
    exact hj
  have hresf : ∀ j, w1.frozen? ⟨w.heap.size, j, none⟩ = false := fun j => by
    rw [hb1.frozen (p := ⟨w.heap.size, j, none⟩) (by show w.heap.size < w.heap.size + 1; omega)]
    exact frozen_new w _ _ j
  have HRES := Lib.hid (And.intro (hres 0 _ rfl) (And.intro (hres 1 _ rfl) (And.intro (hresf 0) (hresf 1))))
  have hbw1 : Below w.heap.size w w1 := ((Below.refl _ w).alloc (Nat.le_refl _) _).trans (hb1.mono (by omega))
  clear hres hresf hb1 hb0 hfit HPOS HONE HCL HCS hU
  have HB2 := Lib.hid (heap_alloc_new w1 (.cells #[.int .u64 0, .int .u64 0] 46))
  have hbA : Below w1.heap.size w1 (w1.alloc (.cells #[.int .u64 0, .int .u64 0] 46)) := (Below.refl _ w1).alloc (Nat.le_refl _) _
  go_loopw [9] (fun i wr => ∃ k : Nat, k ≤ 4 ∧ i = .int .i64 k ∧ Hid (wr.heap[w1.heap.size]? = some (.cells #[.int .u64 (hiP 0 l k), .int .u64 (hiP 4 l k)] 46 (0, 0))) ∧ Below w1.heap.size w1 wr) (fun i _ => 4 - (intOf i).toNat)
  case atStart => exact ⟨0, by omega, rfl, HB2, hbA⟩
  case round =>
    obtain ⟨k, hk, rfl, HA, hbw⟩ := hrel
    by_cases hk4 : k < 4
    · have hHb := hiP_bounds HIN.out 0 k (by omega)
      have hLb := hiP_bounds HIN.out 4 k (by omega)
      have hxb := HIN.out.getD (0 + k)
      have hyb := HIN.out.getD (4 + k)
      have hcx : wr.cell? ⟨w.heap.size + 1, 0 + k, none⟩ = some (.int .u16 (l.getD (0 + k) 0)) := (hbw.cell (p := ⟨w.heap.size + 1, 0 + k, none⟩) hsz1).trans (HARR.out (0 + k) (by omega))
      have hcy : wr.cell? ⟨w.heap.size + 1, 4 + k, none⟩ = some (.int .u16 (l.getD (4 + k) 0)) := (hbw.cell (p := ⟨w.heap.size + 1, 4 + k, none⟩) hsz1).trans (HARR.out (4 + k) (by omega))
      have HHS : Hid (hiP 0 l (k + 1) = hiP 0 l k * 65536 + l.getD (0 + k) 0) := rfl
      have HLS : Hid (hiP 4 l (k + 1) = hiP 4 l k * 65536 + l.getD (4 + k) 0) := rfl
      generalize hiP 0 l k = H at *
      generalize hiP 4 l k = L at *
      generalize l.getD (0 + k) 0 = x at *
      generalize l.getD (4 + k) 0 = y at *
      obtain ⟨hH0, hH1⟩ := hHb
      obtain ⟨hL0, hL1⟩ := hLb
      obtain ⟨hx0, hx1⟩ := hxb
      obtain ⟨hy0, hy1⟩ := hyb
      have hor1 := u64_join16 H x hH0 hH1 hx0 hx1
      have hor2 := u64_join16 L y hL0 hL1 hy0 hy1
      have hc0 : wr.cell? ⟨w1.heap.size, 0, none⟩ = some (.int .u64 H) := by rw [cell_of_row wr _ 0 _ _ _ HA.out]; rfl
      have hc1 : wr.cell? ⟨w1.heap.size, 1, none⟩ = some (.int .u64 L) := by rw [cell_of_row wr _ 1 _ _ _ HA.out]; rfl
      have hf0 : wr.frozen? ⟨w1.heap.size, 0, none⟩ = false := by simp [World.frozen?, HA.out]
      have hf1 : wr.frozen? ⟨w1.heap.size, 1, none⟩ = false := by simp [World.frozen?, HA.out]
      have hne : w.heap.size + 1 ≠ w1.heap.size := by omega
      have HA2 : Hid (((wr.setCell ⟨w1.heap.size, 0, none⟩ (.int .u64 (H * 65536 + x))).setCell ⟨w1.heap.size, 1, none⟩ (.int .u64 (L * 65536 + y))).heap[w1.heap.size]? = some (.cells #[.int .u64 (H * 65536 + x), .int .u64 (L * 65536 + y)] 46 (0, 0))) := by
        show _ = _
        simp [World.setCell, Array.getElem?_modify, HA.out]
      have hbw2 : Below w1.heap.size w1 ((wr.setCell ⟨w1.heap.size, 0, none⟩ (.int .u64 (H * 65536 + x))).setCell ⟨w1.heap.size, 1, none⟩ (.int .u64 (L * 65536 + y))) := (hbw.setCell (Nat.le_refl _) _).setCell (Nat.le_refl _) _
      rcases (show k = 0 ∨ k = 1 ∨ k = 2 ∨ k = 3 from by omega) with rfl | rfl | rfl | rfl
      · rw [show 0 + 0 = 0 from rfl] at hcx
        rw [show 4 + 0 = 4 from rfl] at hcy
        rw [show ((0 : Nat) : Int) = 0 from rfl]
        go_wp2
        go_region
        go_wp2
        go_region
        go_wp2
        go_roundw
        case rel => exact ⟨1, by omega, (by first | rfl | go_num), (by show _ = _; rw [HHS.out, HLS.out]; exact HA2.out), (hbw2.drew).drew⟩
        case measure => first | (simp [intOf]; done) | (simp [intOf]; omega)
      · rw [show 0 + 1 = 1 from rfl] at hcx
        rw [show 4 + 1 = 5 from rfl] at hcy
        rw [show ((1 : Nat) : Int) = 1 from rfl]
        go_wp2
        go_region
        go_wp2
        go_region
        go_wp2
        go_roundw
        case rel => exact ⟨2, by omega, (by first | rfl | go_num), (by show _ = _; rw [HHS.out, HLS.out]; exact HA2.out), (hbw2.drew).drew⟩
        case measure => first | (simp [intOf]; done) | (simp [intOf]; omega)
      · rw [show 0 + 2 = 2 from rfl] at hcx
        rw [show 4 + 2 = 6 from rfl] at hcy
        rw [show ((2 : Nat) : Int) = 2 from rfl]
        go_wp2
        go_region
        go_wp2
        go_region
        go_wp2
        go_roundw
        case rel => exact ⟨3, by omega, (by first | rfl | go_num), (by show _ = _; rw [HHS.out, HLS.out]; exact HA2.out), (hbw2.drew).drew⟩
        case measure => first | (simp [intOf]; done) | (simp [intOf]; omega)
      · rw [show 0 + 3 = 3 from rfl] at hcx
        rw [show 4 + 3 = 7 from rfl] at hcy
        rw [show ((3 : Nat) : Int) = 3 from rfl]
        go_wp2
        go_region
        go_wp2
        go_region
        go_wp2
        go_roundw
        case rel => exact ⟨4, by omega, (by first | rfl | go_num), (by show _ = _; rw [HHS.out, HLS.out]; exact HA2.out), (hbw2.drew).drew⟩
        case measure => first | (simp [intOf]; done) | (simp [intOf]; omega)
    · obtain rfl : k = 4 := by omega
      rw [show ((4 : Nat) : Int) = 4 from rfl]
      have ha := HA.out
      rw [hiP_hi, hiP_lo] at ha
      have HA3 := Lib.hid ha
      clear ha
      have hc0 : wr.cell? ⟨w1.heap.size, 0, none⟩ = some (.int .u64 (hi4 l)) := by rw [cell_of_row wr _ 0 _ _ _ HA3.out]; rfl
      have hc1 : wr.cell? ⟨w1.heap.size, 1, none⟩ = some (.int .u64 (lo4 l)) := by rw [cell_of_row wr _ 1 _ _ _ HA3.out]; rfl
      have hr0 : wr.cell? ⟨w.heap.size, 0, none⟩ = some (.int .u64 0) := (hbw.cell (p := ⟨w.heap.size, 0, none⟩) (by show w.heap.size < _; omega)).trans HRES.out.1
      have hr1 : wr.cell? ⟨w.heap.size, 1, none⟩ = some (.int .u64 0) := (hbw.cell (p := ⟨w.heap.size, 1, none⟩) (by show w.heap.size < _; omega)).trans HRES.out.2.1
      have hf0 : wr.frozen? ⟨w.heap.size, 0, none⟩ = false := (hbw.frozen (p := ⟨w.heap.size, 0, none⟩) (by show w.heap.size < _; omega)).trans HRES.out.2.2.1
      have hf1 : wr.frozen? ⟨w.heap.size, 1, none⟩ = false := (hbw.frozen (p := ⟨w.heap.size, 1, none⟩) (by show w.heap.size < _; omega)).trans HRES.out.2.2.2
      have hfin : Below w.heap.size w ((wr.setCell ⟨w.heap.size, 0, none⟩ (.int .u64 (hi4 l))).setCell ⟨w.heap.size, 1, none⟩ (.int .u64 (lo4 l))) := ((hbw1.trans (hbw.mono (by omega))).setCell (Nat.le_refl _) _).setCell (Nat.le_refl _) _
      go_wp2
      exact bodyPost_ret (v := .agg #[.int .u64 (hi4 l), .int .u64 (lo4 l)]) (by simp [results, Tryz.results40, go_sem, hr0, hr1]) rfl ⟨rfl, hfin⟩
end Go.Proofs.YtgmfgcpfpopboaaGreatDoor
