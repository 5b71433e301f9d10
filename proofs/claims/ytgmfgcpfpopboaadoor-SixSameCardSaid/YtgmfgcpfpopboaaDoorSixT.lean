/-
  Layer 5: texts with other signs than ASCII's.
-/
import Derived.Test.YtgmfgcpfpopboaaDoorSixS
import Derived.Lib.MapU
import Derived.Laws.RangeAny
import Derived.Shelf.GgClosure.StringsIndexFunc
import Derived.Lib.RuneBytes
namespace Go.Proofs.YtgmfgcpfpopboaaDoor
open Go.RowKit


theorem idx_high (s : ByteArray) (j : Nat) (hj : j < s.size) (hc : 127 ≤ (s[j]'hj).toNat) : ∀ f pos, s.size ≤ pos + f → pos ≤ j → 0 ≤ Lib.idxFuncFrom (fun r => decide (126 < r)) true s f pos := by
  intro f
  induction f with
  | zero => intro pos h1 h2; omega
  | succ f ih =>
    intro pos h1 h2
    have hp : pos < s.size := by omega
    unfold Lib.idxFuncFrom
    rw [if_pos hp]
    by_cases h128 : (s[pos]'hp).toNat < 128
    · rw [decode_ascii s pos hp h128]
      by_cases h127 : 126 < (s[pos]'hp).toNat
      · rw [if_pos (decide_eq_true h127)]; omega
      · rw [if_neg (by rw [decide_eq_false h127]; decide)]
        have hne : pos ≠ j := by rintro rfl; omega
        exact ih (pos + 1) (by omega) (by omega)
    · have hd := (decode_high s pos hp (by omega)).1
      rw [if_pos (decide_eq_true (by omega))]; omega
theorem idx_low (s : ByteArray) (h : ¬ Low s.data.toList) : 0 ≤ Lib.idxFunc (fun r => decide (126 < r)) true s := by
  unfold Low at h
  simp only [Classical.not_forall] at h
  obtain ⟨c, hc, hn⟩ := h
  obtain ⟨j, hj, e⟩ := List.getElem_of_mem hc
  have hj2 : j < s.size := by simpa using hj
  refine idx_high s j hj2 ?_ s.size 0 (by omega) (by omega)
  have : s[j]'hj2 = c := by rw [← e]; rfl
  rw [this]; omega
theorem map_len (f : Int → Int) : ∀ n l, (Lib.mapGoD f n l).length ≤ 4 * n := by
  intro n
  induction n with
  | zero => intro l; exact Nat.le_refl _
  | succ n ih =>
    intro l
    unfold Lib.mapGoD
    split
    · simp
    · rw [List.length_append]
      have h1 := ih (l.drop (Lib.decodeL l).2)
      split
      · have h2 := (Lib.encodeRuneZ_length (f (Lib.decodeL l).1)).2
        have h3 : (Lib.encodeRune (f (Lib.decodeL l).1)).length = (Lib.encodeRuneZ (f (Lib.decodeL l).1)).length := by simp [Lib.encodeRune]
        omega
      · simp; omega
theorem upper_len (l : List UInt8) : (Lib.toUpperD l).length ≤ 4 * l.length := map_len _ _ _
end Go.Proofs.YtgmfgcpfpopboaaDoor
