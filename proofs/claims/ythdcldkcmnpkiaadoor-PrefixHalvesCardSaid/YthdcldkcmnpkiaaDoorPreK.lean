/-
  Layer 7: the document's Parse: what it comes to.
-/
import Derived.Test.YthdcldkcmnpkiaaDoorPreJ
namespace Go.Proofs.YthdcldkcmnpkiaaDoor
open Go.RowKit


theorem keep_res (w : World) (t : TypeId) : ∀ W, Below (w.heap.size + 1) (w.alloc (.cells #[.int .u64 0, .int .u64 0, .int .i64 0] t)) W → (W.cell? ⟨w.heap.size, 0, none⟩ = some (.int .u64 0) ∧ W.cell? ⟨w.heap.size, 1, none⟩ = some (.int .u64 0) ∧ W.cell? ⟨w.heap.size, 2, none⟩ = some (.int .i64 0)) ∧ W.frozen? ⟨w.heap.size, 0, none⟩ = false ∧ W.frozen? ⟨w.heap.size, 1, none⟩ = false ∧ W.frozen? ⟨w.heap.size, 2, none⟩ = false := fun W h => by
  have hb : W.heap[w.heap.size]? = some (.cells #[.int .u64 0, .int .u64 0, .int .i64 0] t) := by
    rw [h.block _ (Nat.lt_succ_self _)]; exact Go.Deep.blk_alloc_new _ _
  exact row3 hb
theorem set3_alloc {a w : World} (h : Below a.heap.size a w) {b : Nat} (hb : a.heap.size ≤ b) (x y z : Value) (o : Obj) : Below a.heap.size a ((((w.setCell ⟨b, 0, none⟩ x).setCell ⟨b, 1, none⟩ y).setCell ⟨b, 2, none⟩ z).alloc o) :=
  have hq := ((h.setCell (p := ⟨b, 0, none⟩) hb x).setCell (p := ⟨b, 1, none⟩) hb y).setCell (p := ⟨b, 2, none⟩) hb z
  hq.alloc hq.size o
theorem size_list7 (s : ByteArray) : s.data.toList.length = s.size := Array.length_toList

end Go.Proofs.YthdcldkcmnpkiaaDoor
