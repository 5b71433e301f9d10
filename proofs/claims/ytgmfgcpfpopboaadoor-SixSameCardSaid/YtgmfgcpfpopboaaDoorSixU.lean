/-
  Layer 5: what SixSame calls.
-/
import Derived.Test.YtgmfgcpfpopboaaDoorSixT
import Derived.Shelf.Strings.CaseAny
import Derived.Shelf.Strings.FuncGrows
namespace Go.Proofs.YtgmfgcpfpopboaaDoor
open Go.RowKit


theorem index8_any (W : World) (a0 a1 a2 a3 a4 a5 a6 a7 : Int) (k : Nat) (hk : k < 8) :
    (Instr.index 32 (.agg #[.int .u16 a0, .int .u16 a1, .int .u16 a2, .int .u16 a3, .int .u16 a4, .int .u16 a5, .int .u16 a6, .int .u16 a7]) (.int .i64 (k : Int))).run Tryd.prog W = .ok (.int .u16 ([a0, a1, a2, a3, a4, a5, a6, a7].getD k 0)) W := by
  rcases (show k = 0 ∨ k = 1 ∨ k = 2 ∨ k = 3 ∨ k = 4 ∨ k = 5 ∨ k = 6 ∨ k = 7 from by omega) with rfl | rfl | rfl | rfl | rfl | rfl | rfl | rfl <;>
    simp [Instr.index, run_underlying Tryd.underlying32, asIntOf, go_sem, Tryd.sizeOf31, Tryd.isAgg31]

set_option maxHeartbeats 1000000 in
theorem above_any (x : Nat) (w : World) :
    Calls Tryd.prog 22 #[.int .i32 (x : Int)] w fun e w' => e = .returned (.bool (decide (126 < x))) ∧ w = w' := by
  have hd : decide ((126 : Int) < (x : Int)) = decide (126 < x) := by rw [decide_eq_decide]; omega
  go_enter Tryd.func22, Tryd.ntmps22
  go_wp2
  go_ret
  first | exact ⟨rfl, rfl⟩ | exact ⟨ret_bool hd, rfl⟩
theorem above_pays (w : World) : PredGrows Tryd.prog 22 #[] (fun x => decide (126 < x)) w := fun W x _ _ =>
  (above_any x W).mono fun _ _ ⟨he, hw⟩ => ⟨he, hw ▸ Below.refl _ _⟩
theorem rep48 (k : Nat) : Lib.repeatL [48] k = List.replicate k 48 := by
  induction k with
  | zero => rfl
  | succ k ih => rw [Lib.repeatL, ih, List.replicate_succ]; rfl
theorem joinP_snoc (l : List Int) (x : Int) : joinP (l ++ [x]) = if l = [] then padI x else joinP l ++ [58] ++ padI x := by
  unfold joinP
  rw [List.map_append, List.map_cons, List.map_nil, join_snoc]
  by_cases h : l = []
  · rw [if_pos h, if_pos (by rw [h]; rfl)]
  · rw [if_neg h, if_neg (by rw [List.map_eq_nil_iff]; exact h)]
theorem joinP_len (l : List Int) (h : In16 l) : (joinP l).length ≤ 5 * l.length := by
  have := join_len [58] rfl (l.map padI) (fun p hp => by
    obtain ⟨x, hx, rfl⟩ := List.mem_map.1 hp
    rw [padI_len (h x hx)]; exact Nat.le_refl _)
  rw [List.length_map] at this
  exact this
end Go.Proofs.YtgmfgcpfpopboaaDoor
