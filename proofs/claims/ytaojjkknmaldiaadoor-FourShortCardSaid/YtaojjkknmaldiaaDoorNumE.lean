/-
  Layer 3: Ends, the program's and the reference's, both tell endsB; the chapter's examples.
-/
import Derived.Test.YtaojjkknmaldiaaDoorNumD
import Derived.Test.YtaojjkknmaldiaaDoorPctF
namespace Go.Proofs.YtaojjkknmaldiaaDoor
open Go.RowKit


def lastPart (ps : List (List UInt8)) : List UInt8 :=
  if 1 < ps.length ∧ ps.getD (ps.length - 1) [] = [] then ps.getD (ps.length - 2) [] else ps.getD (ps.length - 1) []
def dotted (l : List UInt8) : List (List UInt8) := splitB (hasB [46]) l
def endsX (x : List UInt8) : Bool := aloneB x || (parseZ x).2
def endsB (l : List UInt8) : Bool := endsX (lastPart (dotted l))

theorem spl_part (p : UInt8 → Bool) (l : List UInt8) : ∀ st : List (List UInt8) × List UInt8, (∀ x ∈ (l.foldl (splStep p) st).1, x ∈ st.1 ∨ x.length ≤ st.2.length + l.length) ∧ (l.foldl (splStep p) st).2.length ≤ st.2.length + l.length := by
  induction l with
  | nil => intro st; exact ⟨fun x hx => .inl hx, by simp⟩
  | cons c l ih =>
    intro st
    simp only [List.foldl_cons, List.length_cons]
    have h := ih (splStep p st c)
    by_cases hp : p c = true
    · have e : splStep p st c = (st.1 ++ [st.2], []) := by simp [splStep, hp]
      rw [e] at h ⊢
      refine ⟨fun x hx => ?_, by have := h.2; simp at this; omega⟩
      rcases h.1 x hx with h1 | h1
      · simp at h1
        rcases h1 with h1 | h1
        · exact .inl h1
        · subst h1; exact .inr (by omega)
      · simp at h1; exact .inr (by omega)
    · have e : splStep p st c = (st.1, st.2 ++ [c]) := by simp [splStep, hp]
      rw [e] at h ⊢
      refine ⟨fun x hx => ?_, by have := h.2; simp at this; omega⟩
      rcases h.1 x hx with h1 | h1
      · exact .inl h1
      · simp at h1; exact .inr (by omega)
theorem part_mem (p : UInt8 → Bool) (l x : List UInt8) (h : x ∈ splitB p l) : x.length ≤ l.length := by
  have k := spl_part p l ([], [])
  unfold splitB at h
  rcases List.mem_append.1 h with h | h
  · rcases k.1 x h with h | h
    · simp at h
    · simpa using h
  · simp at h
    subst h
    exact Nat.le_trans k.2 (by simp)
theorem part_len (p : UInt8 → Bool) (l : List UInt8) (j : Nat) : ((splitB p l).getD j []).length ≤ l.length := by
  by_cases h : j < (splitB p l).length
  · refine part_mem p l _ ?_
    rw [List.getD, List.getElem?_eq_getElem h]
    exact List.getElem_mem h
  · rw [List.getD, List.getElem?_eq_none (by omega)]
    simp

/-- what number.Ends reads of the parts -/
theorem ends_last (n : Nat) (x : List UInt8) (ps : List (List UInt8)) (h : ps.length = n + 1) (hx : ps.getD n [] = x) (hc : n = 0 ∨ x ≠ []) : lastPart ps = x := by
  unfold lastPart
  rw [h, Nat.add_sub_cancel, hx, if_neg]
  rintro ⟨h1, h2⟩
  rcases hc with h3 | h3
  · omega
  · exact h3 h2
theorem ends_before (n : Nat) (y : List UInt8) (ps : List (List UInt8)) (h : ps.length = n + 2) (hx : ps.getD (n + 1) [] = []) (hy : ps.getD n [] = y) : lastPart ps = y := by
  unfold lastPart
  rw [h, show n + 2 - 1 = n + 1 from rfl, hx, if_pos ⟨by omega, rfl⟩, show n + 2 - 2 = n from rfl, hy]

theorem mk_isEmpty (x : List UInt8) : (ByteArray.mk x.toArray).toList.isEmpty = x.isEmpty := by rw [ByteArray.toList_eq]
theorem isEmpty_false {x : List UInt8} (h : x ≠ []) : x.isEmpty = false := by cases x with | nil => exact absurd rfl h | cons a l => rfl

/-- the last part's ways: its digits alone, or a number -/
theorem endsX_alone {x : List UInt8} (h : aloneB x = true) : endsX x = true := by unfold endsX; rw [h]; rfl
theorem endsX_parse {x : List UInt8} {b : Bool} (h : aloneB x = false) (hb : (parseZ x).2 = b) : endsX x = b := by unfold endsX; rw [h, hb]; rfl
end Go.Proofs.YtaojjkknmaldiaaDoor
