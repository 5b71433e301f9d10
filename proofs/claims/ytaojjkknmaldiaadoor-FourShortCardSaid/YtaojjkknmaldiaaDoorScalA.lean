/-
  Layer 1: what the byte loops Plain (the program's and the reference's), slices.Equal over []rune, and Is come to.
-/
import Derived.Test.YtaojjkknmaldiaaDoorChecked
import Derived.WalkKit
import Derived.WalkLawsBesides
import Derived.BigQuiet
import Derived.Deep.QuietTactic
import Derived.Lib.Hide
import Derived.Lib.OthersKept
namespace Go.Proofs.YtaojjkknmaldiaaDoor
open Go.RowKit


theorem ret_bool {a b : Bool} (h : a = b) : Ending.returned (.bool a) = .returned (.bool b) := by rw [h]

/-- all bytes below 128 -/
def plainB (s : ByteArray) : Bool := s.data.toList.all fun c => decide (c.toNat < 128)

theorem plainB_false (s : ByteArray) (k : Nat) (h : k < s.size) (hc : 128 ≤ (s[k]'h).toNat) : plainB s = false := by
  unfold plainB
  rw [List.all_eq_false]
  refine ⟨s[k]'h, ?_, by simp; omega⟩
  show s.data[k] ∈ _
  simp

theorem plainB_true (s : ByteArray) (h : ∀ k (h : k < s.size), (s[k]'h).toNat < 128) : plainB s = true := by
  unfold plainB
  rw [List.all_eq_true]
  intro c hc
  obtain ⟨k, hk, rfl⟩ := List.getElem_of_mem hc
  have := h k (by simpa using hk)
  simp only [decide_eq_true_eq]
  exact this

end Go.Proofs.YtaojjkknmaldiaaDoor
