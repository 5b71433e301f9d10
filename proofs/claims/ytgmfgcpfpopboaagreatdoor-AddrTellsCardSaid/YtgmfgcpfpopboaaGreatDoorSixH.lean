/-
  Layer 5: the reference's number, of eight pieces.
-/
import Derived.Test.YtgmfgcpfpopboaaGreatDoorSixG
import Derived.Test.YtgmfgcpfpopboaaGreatDoorSixD
import Derived.Laws.MakeOwn
namespace Go.Proofs.YtgmfgcpfpopboaaGreatDoor
open Go.RowKit


theorem make8 (W : World) : (Instr.makeSlice 64 (.int .i64 8) (.int .i64 8)).run Tryz.prog W = .ok (.slice (some ⟨W.heap.size, 0, none⟩) 8 8) (W.alloc (.cells #[.int .i64 0, .int .i64 0, .int .i64 0, .int .i64 0, .int .i64 0, .int .i64 0, .int .i64 0, .int .i64 0] 3)) := by
  obtain ⟨i0, hi, hz0, hz1, hz2⟩ := info_parts Tryz.infoInt
  rw [run_make W 64 3 i0 (.int .i64 0) Tryz.underlying64 hi hz0 .i64 .i64 8 8 (by decide) (by decide) (by rw [hz2]; decide) (by decide), hz1]
  have e : madeCells (Value.int .i64 0).cells (Int.toNat 8 * 1) = #[.int .i64 0, .int .i64 0, .int .i64 0, .int .i64 0, .int .i64 0, .int .i64 0, .int .i64 0, .int .i64 0] := by kernel_rfl
  rw [e]
  rfl
theorem row_put {w : World} {g : Nat} {t : TypeId} {a r : List Int} {y : Int} (k : IntKind) (x : Int) (h : w.heap[g]? = some (.cells ((a ++ y :: r).map (Value.int k)).toArray t (0, 0))) :
    (w.setCell ⟨g, a.length, none⟩ (.int k x)).heap[g]? = some (.cells ((a ++ x :: r).map (Value.int k)).toArray t (0, 0)) := by
  have e : (((a ++ y :: r).map (Value.int k)).toArray).setIfInBounds a.length (.int k x) = ((a ++ x :: r).map (Value.int k)).toArray := by
    apply Array.ext'
    simp
  rw [← e]
  simp [World.setCell, Array.getElem?_modify, h]
theorem row_cell {w : World} {g : Nat} {t : TypeId} {l : List Int} {k : IntKind} (h : w.heap[g]? = some (.cells (l.map (Value.int k)).toArray t (0, 0))) (j : Nat) (hj : j < l.length) : w.cell? ⟨g, j, none⟩ = some (.int k (l.getD j 0)) := by
  rw [cell_of_row w g j _ _ _ h]
  simp [List.getD, hj]
theorem row_frozen {w : World} {g : Nat} {t : TypeId} {cs : Array Value} (h : w.heap[g]? = some (.cells cs t (0, 0))) (j : Nat) : w.frozen? ⟨g, j, none⟩ = false := by
  simp [World.frozen?, h]
theorem row_R {w : World} {g : Nat} {t : TypeId} {l : List Int} {k : IntKind} (h : w.heap[g]? = some (.cells (l.map (Value.int k)).toArray t (0, 0))) (c : Nat) : RowR w (.slice (some ⟨g, 0, none⟩) l.length c) (l.map (Value.int k)) := by
  refine ⟨_, c, by rw [List.length_map], fun j u hj => ⟨_, rfl, ?_⟩⟩
  rw [Lib.add_plain, Nat.zero_add, cell_of_row w g j _ _ _ h]
  simpa using hj
theorem fill_step (T : List Int) (k : Nat) (hk : k < T.length) (m : Nat) : T.take (k + 1) ++ List.replicate m 0 = T.take k ++ T.getD k 0 :: List.replicate m 0 := by
  rw [List.take_succ_eq_append_getElem hk, List.getD, List.getElem?_eq_getElem hk, List.append_assoc]
  rfl
theorem Nums.form0 {t : TypeId} {k : IntKind} {B : Nat} {w : World} {v : Value} {l : List Int} (h : Nums t k B w v l) :
    ∃ ao cap, v = .slice ao l.length cap ∧ ∀ j, j < l.length → ∃ g, ao = some ⟨g, 0, none⟩ ∧ g < w.heap.size ∧ w.cell? ⟨g, j, none⟩ = some (.int k (l.getD j 0)) := by
  unfold Nums at h
  rcases h.2 with ⟨hv, h0⟩ | ⟨g, cap, cur, hv, _, hg, hc, _, hs, ht⟩
  · exact ⟨none, 0, by rw [hv, h0], fun j hj => by omega⟩
  · refine ⟨_, cap, hv, fun j hj => ⟨g, rfl, (Array.getElem?_eq_some_iff.1 hg).1, ?_⟩⟩
    rw [cell_of_row w g j cur _ _ hg]
    have h1 : (l.map (Value.int k))[j]? = some (.int k (l.getD j 0)) := by
      simp [List.getD, List.getElem?_eq_getElem hj]
    rw [← ht, List.getElem?_take, if_pos (by omega)] at h1
    simpa using h1
theorem Nums.form {t : TypeId} {k : IntKind} {B : Nat} {w : World} {v : Value} {l : List Int} (h : Nums t k B w v l) (hn : 0 < l.length) :
    ∃ g cap, v = .slice (some ⟨g, 0, none⟩) l.length cap ∧ l.length ≤ cap ∧ g < w.heap.size ∧ ∀ j, j < l.length → w.cell? ⟨g, j, none⟩ = some (.int k (l.getD j 0)) := by
  unfold Nums at h
  rcases h.2 with ⟨_, h0⟩ | ⟨g, cap, cur, hv, _, hg, hc, _, hs, ht⟩
  · omega
  · refine ⟨g, cap, hv, hc, (Array.getElem?_eq_some_iff.1 hg).1, fun j hj => ?_⟩
    rw [cell_of_row w g j cur _ _ hg]
    have h1 : (l.map (Value.int k))[j]? = some (.int k (l.getD j 0)) := by
      simp [List.getD, List.getElem?_eq_getElem hj]
    rw [← ht, List.getElem?_take, if_pos (by omega)] at h1
    simpa using h1
end Go.Proofs.YtgmfgcpfpopboaaGreatDoor
