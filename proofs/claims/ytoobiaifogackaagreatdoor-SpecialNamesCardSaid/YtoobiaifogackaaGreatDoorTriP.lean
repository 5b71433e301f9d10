/-
  Layer 8: Drop: what it comes to.
-/
import Derived.Test.YtoobiaifogackaaGreatDoorTriO
import Derived.Test.YtoobiaifogackaaGreatDoorTriL
namespace Go.Proofs.YtoobiaifogackaaGreatDoor
open Go.RowKit


theorem PT.get_right : ∀ {t : PT} {Q k0 : Nat}, t.Inv Q k0 → ∀ {P : Nat} {k v : Int}, t.get P k = some v → ∃ m : Nat, k = m ∧ m ≤ 128 ∧ rt P m
  | .nil, _, _, _, _, _, _, h => by cases h
  | .node W n u h l r, Q, k0, ⟨⟨_, h2, h3, _⟩, hl, hr, _⟩, P, k, v, hg => by
    unfold PT.get at hg
    by_cases e : W = P ∧ (n : Int) = k
    · obtain ⟨rfl, rfl⟩ := e
      exact ⟨n, rfl, h2, h3⟩
    rw [if_neg e] at hg
    by_cases c : coversB W n P k = true
    · rw [if_pos c] at hg
      by_cases b : bitZ P n = 0
      · rw [if_pos b] at hg; exact PT.get_right hl hg
      · rw [if_neg b] at hg; exact PT.get_right hr hg
    · rw [if_neg c] at hg; cases hg

theorem drop_moved {w X x4 : World} {g c : Nat} {T T' : HT} (ht : IsTrie w g T) (hx : Below w.heap.size w X) (hw : Wrote X x4 T T') (hc : c = T'.pt.list.length) (hi : T'.pt.Inv 0 0) :
    Moved w ((x4.setCell ⟨g, 0, none⟩ T'.ptr).setCell ⟨g, 1, none⟩ (.int .i64 (c : Nat))) g T T' ∧ x4.heap[g]? = some (.cells #[T.ptr, .int .i64 (T.pt.list.length : Nat)] 109) := by
  have hg := (List.nodup_cons.1 ht.once).1
  have hown := (hx.block g (block_lt ht.own)).trans ht.own
  have hgl := block_lt hown
  have hb : x4.heap[g]? = some (.cells #[T.ptr, .int .i64 (T.pt.list.length : Nat)] 109) := (hw.only.block g hgl hg).trans hown
  have hT' : ∀ b ∈ T'.blocks, b ≠ g := fun b q e => by
    subst e
    rcases hw.sub _ q with s | s
    · exact hg s
    · omega
  refine ⟨⟨⟨?_, HT.in_same hw.lies (fun b q => (set_other (hT' b q) _ _).trans (set_other (hT' b q) _ _)), List.nodup_cons.2 ⟨fun q => hT' g q rfl, hw.once⟩, hi⟩, ?_, fun b q => (hw.sub b q).imp id (fun s => Nat.le_trans hx.size s)⟩, hb⟩
  · rw [row2_set1 (row2_set0 hb), hc]
  · refine ((((Only.of_below (F := g :: T.blocks) hx)).trans hw.only (fun x q => .inl (List.mem_cons_of_mem _ q))).setCell (p := ⟨g, 0, none⟩) (.inl (List.mem_cons_self ..)) _).setCell (p := ⟨g, 1, none⟩) (.inl (List.mem_cons_self ..)) _

end Go.Proofs.YtoobiaifogackaaGreatDoor
