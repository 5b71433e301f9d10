/-
  Layer 1: the chapter's example holds ('awake' returns true, whatever memory it is called in).
-/
import Derived.Test.YtaojjkknmaldiaaDoorScalE
namespace Go.Proofs.YtaojjkknmaldiaaDoor
open Go.RowKit


theorem scal_awake : scal ⟨#[97, 255, 98]⟩ = [97, 65533, 98] := by decide +kernel

theorem below_drewN {B : Nat} {a w : World} (h : Below B a w) (n : Nat) : Below B a (w.drewN n) := ⟨h.os, h.tape, h.output, h.size, h.block⟩

theorem own_below {w w' : World} {B : Nat} {t : TypeId} {v : Value} {n : Nat} {xs : List Value} (h : w.ownsRow B t 1 v n xs) (hb : Below w.heap.size w w') : w'.ownsRow B t 1 v n xs := by
  refine ⟨h.1, ?_⟩
  rcases h.2 with h2 | ⟨g, cap, cur, h1, h2, h3, h4⟩
  · exact .inl h2
  · exact .inr ⟨g, cap, cur, h1, h2, (hb.block g (Array.getElem?_eq_some_iff.1 h3).1).trans h3, h4⟩

/-- three new cells -/
theorem row_three (w : World) (a b c : Int) (t : TypeId) : RowR (w.alloc (.cells #[.int .i32 a, .int .i32 b, .int .i32 c] t)) (.slice (some ⟨w.heap.size, 0, none⟩) 3 3) ([a, b, c].map (Value.int .i32)) := by
  refine ⟨_, 3, rfl, fun j u hj => ⟨_, rfl, ?_⟩⟩
  match j, hj with
  | 0, hj => simp at hj; subst hj; simp [Addr.add]
  | 1, hj => simp at hj; subst hj; simp [Addr.add]
  | 2, hj => simp at hj; subst hj; simp [Addr.add]

set_option maxRecDepth 100000 in
set_option maxHeartbeats 1000000 in
theorem awake_any (w : World) :
    Calls Tryd.prog 46 #[] w fun e w' => e = .returned (.bool true) ∧ Below w.heap.size w w' := by
  go_enter Tryd.func46, Tryd.ntmps46
  go_wp2_with fail
  refine (scalars_any _ _ (by decide)).mono ?_
  rintro e w1 ⟨v, rfl, hown, hb⟩
  rw [scal_awake] at hown
  have hr := RowR.of_own hown
  have hr1 := hr.below (w' := w1.alloc (.cells #[.int .i32 97, .int .i32 65533, .int .i32 98] 21)) ((Below.refl _ _).alloc (Nat.le_refl _) _)
  have hr2 := row_three w1 97 65533 98 21
  have hfin : Below w.heap.size w (w1.alloc (.cells #[.int .i32 97, .int .i32 65533, .int .i32 98] 21)) := hb.alloc hb.size _
  clear hr hown
  go_wp2_with fail
  refine (equalR_any _ _ [97, 65533, 98] [97, 65533, 98] _ hr1 hr2 (by decide)).mono ?_
  rintro e w2 ⟨rfl, n, rfl⟩
  go_wp2
  go_ret
  exact ⟨rfl, below_drewN hfin n⟩
end Go.Proofs.YtaojjkknmaldiaaDoor
