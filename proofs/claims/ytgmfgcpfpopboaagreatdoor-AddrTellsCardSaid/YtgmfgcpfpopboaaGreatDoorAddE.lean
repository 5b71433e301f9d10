/-
  Layer 6: an address as the document's; the reference's Parse.
-/
import Derived.Test.YtgmfgcpfpopboaaGreatDoorAddD
namespace Go.Proofs.YtgmfgcpfpopboaaGreatDoor
open Go.RowKit


set_option maxRecDepth 100000 in
set_option maxHeartbeats 1000000 in
theorem lawOf_four (n : Int) (w : World) (h0 : 0 ≤ n) (h1 : n ≤ 4294967295) :
    Calls Tryz.prog 11 #[.iface 31 (.int .u32 n)] w fun e w' => e = .returned (.agg #[.bool false, .int .u64 0, .int .u64 (281470681743360 + n)]) ∧ Below w.heap.size w w' := by
  have hta := as44
  have hB : (w.alloc (.cells #[.bool false, .int .u64 0, .int .u64 0] 40)).heap[w.heap.size]? = some (.cells #[.bool false, .int .u64 0, .int .u64 0] 40 (0, 0)) := heap_alloc_new w _
  have hg : w.heap.size < (w.alloc (.cells #[.bool false, .int .u64 0, .int .u64 0] 40)).heap.size := by simp
  have hb : Below w.heap.size w (w.alloc (.cells #[.bool false, .int .u64 0, .int .u64 0] 40)) := (Below.refl _ w).alloc (Nat.le_refl _) _
  have HB := Lib.hid hB
  clear hB
  go_enter Tryz.func11, Tryz.ntmps11
  go_wp2_with fail
  generalize w.alloc (.cells #[.bool false, .int .u64 0, .int .u64 0] 40) = x1 at *
  refine (refFour_any n _ h0 h1).mono ?_
  rintro e x2 ⟨rfl, hb2⟩
  have HB2 : Hid (x2.heap[w.heap.size]? = some (.cells #[.bool false, .int .u64 0, .int .u64 0] 40 (0, 0))) := (hb2.block w.heap.size hg).trans HB.out
  have k0 : x2.cell? ⟨w.heap.size, 0, none⟩ = some (.bool false) := by rw [cell_of_row x2 _ 0 _ _ _ HB2.out]; rfl
  have k1 : x2.cell? ⟨w.heap.size, 1, none⟩ = some (.int .u64 0) := by rw [cell_of_row x2 _ 1 _ _ _ HB2.out]; rfl
  have k2 : x2.cell? ⟨w.heap.size, 2, none⟩ = some (.int .u64 0) := by rw [cell_of_row x2 _ 2 _ _ _ HB2.out]; rfl
  have f0 := row_frozen0 HB2.out 0
  have f1 := row_frozen0 HB2.out 1
  have f2 := row_frozen0 HB2.out 2
  have hc2 : Below w.heap.size w x2 := hb.trans (hb2.mono hb.size)
  clear hb2 hta
  go_wp2
  exact bodyPost_ret (v := .agg #[.bool false, .int .u64 0, .int .u64 (281470681743360 + n)]) (by simp [results, Tryz.results11, go_sem, k0, k1, k2]) rfl ⟨rfl, ((hc2.setCell (Nat.le_refl _) _).setCell (Nat.le_refl _) _).setCell (Nat.le_refl _) _⟩

set_option maxRecDepth 100000 in
set_option maxHeartbeats 1000000 in
theorem lawOf_six (hi lo : Int) (w : World) :
    Calls Tryz.prog 11 #[.iface 46 (.agg #[.int .u64 hi, .int .u64 lo])] w fun e w' => e = .returned (.agg #[.bool true, .int .u64 hi, .int .u64 lo]) ∧ Below w.heap.size w w' := by
  have hta := as64
  have htb := as66
  go_enter Tryz.func11, Tryz.ntmps11
  go_wp2
  exact bodyPost_ret (v := .agg #[.bool true, .int .u64 hi, .int .u64 lo]) (by simp [results, Tryz.results11, go_sem]) rfl ⟨rfl, by first | exact (((((Below.refl _ w).alloc (Nat.le_refl _) _).alloc (by simp) _).setCell (Nat.le_refl _) _).setCell (Nat.le_refl _) _).setCell (Nat.le_refl _) _ | exact ((Below.refl _ w).alloc (Nat.le_refl _) _).alloc (by simp) _⟩
set_option maxRecDepth 100000 in
set_option maxHeartbeats 1000000 in
theorem lawOf_nil (w : World) :
    Calls Tryz.prog 11 #[.nilIface] w fun e w' => e = .returned (.agg #[.bool false, .int .u64 0, .int .u64 0]) ∧ Below w.heap.size w w' := by
  have hta := asN4
  have htb := asN6
  go_enter Tryz.func11, Tryz.ntmps11
  go_wp2
  exact bodyPost_ret (v := .agg #[.bool false, .int .u64 0, .int .u64 0]) (by simp [results, Tryz.results11, go_sem]) rfl ⟨rfl, by first | exact (((((Below.refl _ w).alloc (Nat.le_refl _) _).alloc (by simp) _).setCell (Nat.le_refl _) _).setCell (Nat.le_refl _) _).setCell (Nat.le_refl _) _ | exact ((Below.refl _ w).alloc (Nat.le_refl _) _).alloc (by simp) _⟩

theorem lawOf_any (x : Option AZ) (w : World) (h : ∀ a, x = some a → a.Ok) :
    Calls Tryz.prog 11 #[optV x] w fun e w' => e = .returned (refV (refA x)) ∧ Below w.heap.size w w' := by
  match x with
  | none => exact lawOf_nil w
  | some (.four n) => exact lawOf_four n w (h _ rfl).1 (h _ rfl).2
  | some (.six hi lo) => exact lawOf_six hi lo w

def RetRef6 (w : World) (x : Option AZ) (e : Ending) (w' : World) : Prop := e = .returned (.tuple #[refV (refA x), .bool x.isSome]) ∧ Below w.heap.size w w'

end Go.Proofs.YtgmfgcpfpopboaaGreatDoor
