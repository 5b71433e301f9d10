/-
  Blocks of a call's own that stay as they were laid.
-/
import Derived.Test.YtoobiaifogackaaGreatDoorPreM
namespace Go.Proofs.YtoobiaifogackaaGreatDoor
open Go.RowKit


/-- the listed blocks hold what is listed -/
def Blks (L : List (Nat × Array Value × TypeId)) (W : World) : Prop := ∀ e ∈ L, W.heap[e.1]? = some (.cells e.2.1 e.2.2)
theorem Blks.empty (W : World) : Blks [] W := fun e he => by cases he
theorem Blks.keep {L : List (Nat × Array Value × TypeId)} {x y : World} (h : Blks L x) (hb : Below x.heap.size x y) : Blks L y := fun e he => (hb.block e.1 (block_lt (h e he))).trans (h e he)
theorem Blks.new {L : List (Nat × Array Value × TypeId)} {x : World} (h : Blks L x) (c : Array Value) (t : TypeId) : Blks ((x.heap.size, c, t) :: L) (x.alloc (.cells c t)) := fun e he => by
  rcases List.mem_cons.1 he with g | g
  · rw [g]; exact Go.Deep.blk_alloc_new _ _
  · exact h.keep ((Below.refl _ _).alloc (Nat.le_refl _) _) e g
theorem Blks.lt {L : List (Nat × Array Value × TypeId)} {x : World} (h : Blks L x) {b : Nat} {c : Array Value} {t : TypeId} (hm : (b, c, t) ∈ L) : b < x.heap.size := block_lt (h _ hm)
theorem Blks.r3 {L : List (Nat × Array Value × TypeId)} {W : World} (h : Blks L W) {b : Nat} {x y z : Value} {t : TypeId} (hm : (b, #[x, y, z], t) ∈ L) :
    b < W.heap.size ∧ W.cell? ⟨b, 0, none⟩ = some x ∧ W.cell? ⟨b, 1, none⟩ = some y ∧ W.cell? ⟨b, 2, none⟩ = some z := ⟨h.lt hm, (row3 (h _ hm)).1⟩
theorem Blks.r2 {L : List (Nat × Array Value × TypeId)} {W : World} (h : Blks L W) {b : Nat} {x y : Value} {t : TypeId} (hm : (b, #[x, y], t) ∈ L) :
    b < W.heap.size ∧ W.cell? ⟨b, 0, none⟩ = some x ∧ W.cell? ⟨b, 1, none⟩ = some y := ⟨h.lt hm, cell_row (h _ hm) 0, cell_row (h _ hm) 1⟩
end Go.Proofs.YtoobiaifogackaaGreatDoor
