/-
  Layer 1: what the byte loops Plain (the program's and the reference's), slices.Equal over []rune, and Is come to.
-/
import Derived.Test.YtbkjhdinlnpglaaChecked
import Derived.WalkKit
import Derived.WalkLawsBesides
import Derived.BigQuiet
import Derived.Deep.QuietTactic
import Derived.Lib.Hide
import Derived.Lib.OthersKept
namespace Go.Proofs.Ytbkjhdinlnpglaa
open Go.RowKit

theorem ret_bool {a b : Bool} (h : a = b) : Ending.returned (.bool a) = .returned (.bool b) := by rw [h]

/-- all bytes below 128 -/
def plainB (s : ByteArray) : Bool := s.data.toList.all fun c => decide (c.toNat < 128)

theorem plainB_false (s : ByteArray) (k : Nat) (h : k < s.size) (hc : 128 ≤ (s[k]'h).toNat) : plainB s = false := by
  unfold plainB
  rw [List.all_eq_false]
  refine ⟨s[k]'h, ?_, by simp; omega⟩
  show s.data[k] ∈ _
  simp

theorem plainB_true (s : ByteArray) (h : ∀ k (h : k < s.size), (s[k]'h).toNat < 128) : plainB s = true := by
  unfold plainB
  rw [List.all_eq_true]
  intro c hc
  obtain ⟨k, hk, rfl⟩ := List.getElem_of_mem hc
  have := h k (by simpa using hk)
  simp only [decide_eq_true_eq]
  exact this

set_option maxRecDepth 100000 in
set_option maxHeartbeats 400000 in
theorem plain_any (s : ByteArray) (w : World) (hs : s.size ≤ 1073741824) :
    Calls Try.prog 15 #[.string s] w fun e w' => e = .returned (.bool (plainB s)) ∧ w = w' := by
  go_enter Try.func15, Try.ntmps15
  go_wp2
  go_loop [6] (fun i => ∃ k : Nat, k ≤ s.size ∧ i = .int .i64 k ∧ Hid (∀ j (h : j < s.size), j < k → (s[j]'h).toNat < 128)) (fun i => s.size - (intOf i).toNat)
  case atStart => exact ⟨0, Nat.zero_le _, rfl, fun j _ h => by omega⟩
  case round =>
    obtain ⟨k, hk, rfl, H⟩ := hrel
    by_cases hlt : k < s.size
    · go_wp2
      · have hc : (128 : Int) ≤ (s[k].toNat : Int) := by assumption
        go_ret
        exact ⟨ret_bool (plainB_false s k hlt (by omega)).symm, rfl⟩
      · have hc : (s[k].toNat : Int) < 128 := by first | assumption | omega
        go_round
        case rel =>
          refine ⟨k + 1, by omega, by go_num, fun j hj hjk => ?_⟩
          by_cases e : j = k
          · subst e; omega
          · exact H.out j hj (by omega)
        case measure => simp [intOf]; omega
    · have hf := plainB_true s (fun j hj => H.out j hj (by omega))
      have HF := Lib.hid hf
      clear hf
      go_wp2
      go_ret
      exact ⟨ret_bool HF.out.symm, rfl⟩

set_option maxRecDepth 100000 in
set_option maxHeartbeats 400000 in
theorem refPlain_any (s : ByteArray) (w : World) (hs : s.size ≤ 1073741824) :
    Calls Try.prog 16 #[.string s] w fun e w' => e = .returned (.bool (plainB s)) ∧ w = w' := by
  go_enter Try.func16, Try.ntmps16
  go_wp2
  go_loop [3] (fun i => ∃ k : Nat, k ≤ s.size ∧ i = .int .i64 k ∧ Hid (∀ j (h : j < s.size), j < k → (s[j]'h).toNat < 128)) (fun i => s.size - (intOf i).toNat)
  case atStart => exact ⟨0, Nat.zero_le _, rfl, fun j _ h => by omega⟩
  case round =>
    obtain ⟨k, hk, rfl, H⟩ := hrel
    by_cases hlt : k < s.size
    · go_wp2
      · have hc : (128 : Int) ≤ (s[k].toNat : Int) := by assumption
        go_ret
        exact ⟨ret_bool (plainB_false s k hlt (by omega)).symm, rfl⟩
      · have hc : (s[k].toNat : Int) < 128 := by first | assumption | omega
        go_round
        case rel =>
          refine ⟨k + 1, by omega, by go_num, fun j hj hjk => ?_⟩
          by_cases e : j = k
          · subst e; omega
          · exact H.out j hj (by omega)
        case measure => simp [intOf]; omega
    · have hf := plainB_true s (fun j hj => H.out j hj (by omega))
      have HF := Lib.hid hf
      clear hf
      go_wp2
      go_ret
      exact ⟨ret_bool HF.out.symm, rfl⟩

end Go.Proofs.Ytbkjhdinlnpglaa
