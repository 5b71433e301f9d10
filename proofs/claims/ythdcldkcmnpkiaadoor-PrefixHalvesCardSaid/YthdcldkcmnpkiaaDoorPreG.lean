/-
  Layer 7: the document's Has, Covers, Of: what they come to.
-/
import Derived.Test.YthdcldkcmnpkiaaDoorPreF
namespace Go.Proofs.YthdcldkcmnpkiaaDoor
open Go.RowKit


theorem keep_box33 (w : World) (a b c a' b' c' : Value) (t t' : TypeId) : ∀ W, Below (w.heap.size + 2) ((w.alloc (.cells #[a, b, c] t)).alloc (.cells #[a', b', c'] t')) W →
    (W.cell? ⟨w.heap.size, 0, none⟩ = some a ∧ W.cell? ⟨w.heap.size, 1, none⟩ = some b ∧ W.cell? ⟨w.heap.size, 2, none⟩ = some c) ∧ W.cell? ⟨w.heap.size + 1, 0, none⟩ = some a' ∧ W.cell? ⟨w.heap.size + 1, 1, none⟩ = some b' ∧ W.cell? ⟨w.heap.size + 1, 2, none⟩ = some c' := fun W h => by
  refine ⟨⟨?_, ?_, ?_⟩, ?_, ?_, ?_⟩
  · rw [h.cell (p := ⟨w.heap.size, _, none⟩) (by show w.heap.size < _; omega)]; simp [go_sem]
  · rw [h.cell (p := ⟨w.heap.size, _, none⟩) (by show w.heap.size < _; omega)]; simp [go_sem]
  · rw [h.cell (p := ⟨w.heap.size, _, none⟩) (by show w.heap.size < _; omega)]; simp [go_sem]
  · rw [h.cell (p := ⟨w.heap.size + 1, _, none⟩) (by show w.heap.size + 1 < _; omega)]; simp [go_sem]
  · rw [h.cell (p := ⟨w.heap.size + 1, _, none⟩) (by show w.heap.size + 1 < _; omega)]; simp [go_sem]
  · rw [h.cell (p := ⟨w.heap.size + 1, _, none⟩) (by show w.heap.size + 1 < _; omega)]; simp [go_sem]
theorem qt_bits {P A n : Nat} (hP : P < 2 ^ 128) (hA : A < 2 ^ 128) (hn : n ≤ 128) : qt P n = qt A n ↔ ∀ i, i < n → bitW P i = bitW A i := (has_bits P A n hP hA hn).symm
end Go.Proofs.YthdcldkcmnpkiaaDoor
