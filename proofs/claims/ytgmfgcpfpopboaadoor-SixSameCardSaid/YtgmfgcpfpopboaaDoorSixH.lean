/-
  Layer 5: the reference's number, of eight pieces.
-/
import Derived.Test.YtgmfgcpfpopboaaDoorSixG
import Derived.Test.YtgmfgcpfpopboaaDoorSixD
import Derived.Laws.MakeOwn
namespace Go.Proofs.YtgmfgcpfpopboaaDoor
open Go.RowKit


set_option maxRecDepth 100000 in
set_option maxHeartbeats 4000000 in
theorem number_any (g c : Nat) (l : List Int) (w : World) (hcs : ∀ j, j < 8 → w.cell? ⟨g, j, none⟩ = some (.int .i64 (l.getD j 0))) (hin : In16 l) :
    Calls Tryd.prog 39 #[.slice (some ⟨g, 0, none⟩) 8 c] w fun e w' => e = .returned (.tuple #[.int .u64 (hi4 l), .int .u64 (lo4 l)]) ∧ w = w' := by
  have HC := Lib.hid hcs
  have HIN := Lib.hid hin
  clear hcs hin
  go_enter Tryd.func39, Tryd.ntmps39
  go_wp2
  go_loop [4, 5, 6] (fun h o i => ∃ k : Nat, k ≤ 4 ∧ i = .int .i64 k ∧ h = .int .u64 (hiP 0 l k) ∧ o = .int .u64 (hiP 4 l k)) (fun _ _ i => 4 - (intOf i).toNat)
  case atStart => exact ⟨0, by omega, rfl, rfl, rfl⟩
  case round =>
    obtain ⟨k, hk, rfl, rfl, rfl⟩ := hrel
    by_cases hk4 : k < 4
    · have hHb := hiP_bounds HIN.out 0 k (by omega)
      have hLb := hiP_bounds HIN.out 4 k (by omega)
      have hxb := HIN.out.getD (0 + k)
      have hyb := HIN.out.getD (4 + k)
      have hcx := HC.out (0 + k) (by omega)
      have hcy := HC.out (4 + k) (by omega)
      have HHS : Hid (hiP 0 l (k + 1) = hiP 0 l k * 65536 + l.getD (0 + k) 0) := rfl
      have HLS : Hid (hiP 4 l (k + 1) = hiP 4 l k * 65536 + l.getD (4 + k) 0) := rfl
      generalize hiP 0 l k = H at *
      generalize hiP 4 l k = L at *
      generalize l.getD (0 + k) 0 = x at *
      generalize l.getD (4 + k) 0 = y at *
      obtain ⟨hH0, hH1⟩ := hHb
      obtain ⟨hL0, hL1⟩ := hLb
      obtain ⟨hx0, hx1⟩ := hxb
      obtain ⟨hy0, hy1⟩ := hyb
      rcases (show k = 0 ∨ k = 1 ∨ k = 2 ∨ k = 3 from by omega) with rfl | rfl | rfl | rfl
      · rw [show 0 + 0 = 0 from rfl] at hcx
        rw [show 4 + 0 = 4 from rfl] at hcy
        rw [show ((0 : Nat) : Int) = 0 from rfl]
        go_wp2
        go_round
        case rel => exact ⟨1, by omega, (by first | rfl | go_num), (by rw [HHS.out]), (by rw [HLS.out])⟩
        case measure => first | (simp [intOf]; done) | (simp [intOf]; omega)
      · rw [show 0 + 1 = 1 from rfl] at hcx
        rw [show 4 + 1 = 5 from rfl] at hcy
        rw [show ((1 : Nat) : Int) = 1 from rfl]
        go_wp2
        go_round
        case rel => exact ⟨2, by omega, (by first | rfl | go_num), (by rw [HHS.out]), (by rw [HLS.out])⟩
        case measure => first | (simp [intOf]; done) | (simp [intOf]; omega)
      · rw [show 0 + 2 = 2 from rfl] at hcx
        rw [show 4 + 2 = 6 from rfl] at hcy
        rw [show ((2 : Nat) : Int) = 2 from rfl]
        go_wp2
        go_round
        case rel => exact ⟨3, by omega, (by first | rfl | go_num), (by rw [HHS.out]), (by rw [HLS.out])⟩
        case measure => first | (simp [intOf]; done) | (simp [intOf]; omega)
      · rw [show 0 + 3 = 3 from rfl] at hcx
        rw [show 4 + 3 = 7 from rfl] at hcy
        rw [show ((3 : Nat) : Int) = 3 from rfl]
        go_wp2
        go_round
        case rel => exact ⟨4, by omega, (by first | rfl | go_num), (by rw [HHS.out]), (by rw [HLS.out])⟩
        case measure => first | (simp [intOf]; done) | (simp [intOf]; omega)
    · obtain rfl : k = 4 := by omega
      rw [show ((4 : Nat) : Int) = 4 from rfl, hiP_hi, hiP_lo]
      go_wp2
      go_ret2
      exact ⟨rfl, rfl⟩

theorem make8 (W : World) : (Instr.makeSlice 34 (.int .i64 8) (.int .i64 8)).run Tryd.prog W = .ok (.slice (some ⟨W.heap.size, 0, none⟩) 8 8) (W.alloc (.cells #[.int .i64 0, .int .i64 0, .int .i64 0, .int .i64 0, .int .i64 0, .int .i64 0, .int .i64 0, .int .i64 0] 3)) := by
  obtain ⟨i0, hi, hz0, hz1, hz2⟩ := info_parts Tryd.infoInt
  rw [run_make W 34 3 i0 (.int .i64 0) Tryd.underlying34 hi hz0 .i64 .i64 8 8 (by decide) (by decide) (by rw [hz2]; decide) (by decide), hz1]
  have e : madeCells (Value.int .i64 0).cells (Int.toNat 8 * 1) = #[.int .i64 0, .int .i64 0, .int .i64 0, .int .i64 0, .int .i64 0, .int .i64 0, .int .i64 0, .int .i64 0] := by kernel_rfl
  rw [e]
  rfl
theorem row_put {w : World} {g : Nat} {t : TypeId} {a r : List Int} {y : Int} (k : IntKind) (x : Int) (h : w.heap[g]? = some (.cells ((a ++ y :: r).map (Value.int k)).toArray t (0, 0))) :
    (w.setCell ⟨g, a.length, none⟩ (.int k x)).heap[g]? = some (.cells ((a ++ x :: r).map (Value.int k)).toArray t (0, 0)) := by
  have e : (((a ++ y :: r).map (Value.int k)).toArray).setIfInBounds a.length (.int k x) = ((a ++ x :: r).map (Value.int k)).toArray := by
    apply Array.ext'
    simp
  rw [← e]
  simp [World.setCell, Array.getElem?_modify, h]
theorem row_cell {w : World} {g : Nat} {t : TypeId} {l : List Int} {k : IntKind} (h : w.heap[g]? = some (.cells (l.map (Value.int k)).toArray t (0, 0))) (j : Nat) (hj : j < l.length) : w.cell? ⟨g, j, none⟩ = some (.int k (l.getD j 0)) := by
  rw [cell_of_row w g j _ _ _ h]
  simp [List.getD, hj]
theorem row_frozen {w : World} {g : Nat} {t : TypeId} {cs : Array Value} (h : w.heap[g]? = some (.cells cs t (0, 0))) (j : Nat) : w.frozen? ⟨g, j, none⟩ = false := by
  simp [World.frozen?, h]
theorem row_R {w : World} {g : Nat} {t : TypeId} {l : List Int} {k : IntKind} (h : w.heap[g]? = some (.cells (l.map (Value.int k)).toArray t (0, 0))) (c : Nat) : RowR w (.slice (some ⟨g, 0, none⟩) l.length c) (l.map (Value.int k)) := by
  refine ⟨_, c, by rw [List.length_map], fun j u hj => ⟨_, rfl, ?_⟩⟩
  rw [Lib.add_plain, Nat.zero_add, cell_of_row w g j _ _ _ h]
  simpa using hj
theorem fill_step (T : List Int) (k : Nat) (hk : k < T.length) (m : Nat) : T.take (k + 1) ++ List.replicate m 0 = T.take k ++ T.getD k 0 :: List.replicate m 0 := by
  rw [List.take_succ_eq_append_getElem hk, List.getD, List.getElem?_eq_getElem hk, List.append_assoc]
  rfl
theorem Nums.form0 {t : TypeId} {k : IntKind} {B : Nat} {w : World} {v : Value} {l : List Int} (h : Nums t k B w v l) :
    ∃ ao cap, v = .slice ao l.length cap ∧ ∀ j, j < l.length → ∃ g, ao = some ⟨g, 0, none⟩ ∧ g < w.heap.size ∧ w.cell? ⟨g, j, none⟩ = some (.int k (l.getD j 0)) := by
  unfold Nums at h
  rcases h.2 with ⟨hv, h0⟩ | ⟨g, cap, cur, hv, _, hg, hc, _, hs, ht⟩
  · exact ⟨none, 0, by rw [hv, h0], fun j hj => by omega⟩
  · refine ⟨_, cap, hv, fun j hj => ⟨g, rfl, (Array.getElem?_eq_some_iff.1 hg).1, ?_⟩⟩
    rw [cell_of_row w g j cur _ _ hg]
    have h1 : (l.map (Value.int k))[j]? = some (.int k (l.getD j 0)) := by
      simp [List.getD, List.getElem?_eq_getElem hj]
    rw [← ht, List.getElem?_take, if_pos (by omega)] at h1
    simpa using h1
theorem Nums.form {t : TypeId} {k : IntKind} {B : Nat} {w : World} {v : Value} {l : List Int} (h : Nums t k B w v l) (hn : 0 < l.length) :
    ∃ g cap, v = .slice (some ⟨g, 0, none⟩) l.length cap ∧ l.length ≤ cap ∧ g < w.heap.size ∧ ∀ j, j < l.length → w.cell? ⟨g, j, none⟩ = some (.int k (l.getD j 0)) := by
  unfold Nums at h
  rcases h.2 with ⟨_, h0⟩ | ⟨g, cap, cur, hv, _, hg, hc, _, hs, ht⟩
  · omega
  · refine ⟨g, cap, hv, hc, (Array.getElem?_eq_some_iff.1 hg).1, fun j hj => ?_⟩
    rw [cell_of_row w g j cur _ _ hg]
    have h1 : (l.map (Value.int k))[j]? = some (.int k (l.getD j 0)) := by
      simp [List.getD, List.getElem?_eq_getElem hj]
    rw [← ht, List.getElem?_take, if_pos (by omega)] at h1
    simpa using h1
end Go.Proofs.YtgmfgcpfpopboaaDoor
