/-
  The law ScalarTells: its Go text returns true at every two strings and every number, and nothing that lay in memory before is changed.
-/
import Derived.Test.YtaojjkknmaldiaaDoorScalL
namespace Go.Proofs.YtaojjkknmaldiaaDoor
open Go.RowKit


theorem splitB_ne (p : UInt8 → Bool) (l : List UInt8) : 0 < (splitB p l).length := by simp [splitB]

theorem Parts.form {B : Nat} {w : World} {v : Value} {ps : List (List UInt8)} (h : Parts B w v ps) (hn : 0 < ps.length) :
    ∃ g cap, v = .slice (some ⟨g, 0, none⟩) ps.length cap ∧ g < w.heap.size ∧ ∀ j, j < ps.length → w.cell? ⟨g, j, none⟩ = some (.string ⟨(ps.getD j []).toArray⟩) := by
  unfold Parts at h
  rcases h.2 with ⟨_, h0⟩ | ⟨g, cap, cur, hv, _, hg, hc, _, hs, ht⟩
  · omega
  · refine ⟨g, cap, hv, (Array.getElem?_eq_some_iff.1 hg).1, fun j hj => ?_⟩
    rw [cell_of_row w g j cur _ _ hg]
    have h1 : (strCs ps)[j]? = some (strC (ps.getD j [])) := by
      simp [strCs, List.getD, List.getElem?_eq_getElem hj]
    rw [← ht, List.getElem?_take, if_pos (by omega)] at h1
    simpa [strC] using h1

def bas (ps : List (List UInt8)) : List ByteArray := ps.map fun l => ⟨l.toArray⟩
theorem bas_getD (ps : List (List UInt8)) (j : Nat) (h : j < ps.length) : (bas ps).getD j ByteArray.empty = ⟨(ps.getD j []).toArray⟩ := by
  simp [bas, List.getD, List.getElem?_eq_getElem h]

theorem Parts.below {B : Nat} {w w' : World} {v : Value} {ps : List (List UInt8)} (h : Parts B w v ps) (hb : Below w.heap.size w w') : Parts B w' v ps := own_below h hb

theorem splitB_len (p : UInt8 → Bool) (l : List UInt8) : (splitB p l).length ≤ l.length + 1 := by
  have key : ∀ (l : List UInt8) (st : List (List UInt8) × List UInt8), (l.foldl (splStep p) st).1.length ≤ st.1.length + l.length := by
    intro l
    induction l with
    | nil => intro st; simp
    | cons c l ih =>
      intro st
      rw [List.foldl_cons]
      have := ih (splStep p st c)
      have h2 : (splStep p st c).1.length ≤ st.1.length + 1 := by unfold splStep; split <;> simp
      simp; omega
  have := key l ([], [])
  simp [splitB, spl] at this ⊢
  omega


theorem digitB_big {r : Int} (h : r < 0 ∨ 256 ≤ r) : digitB r = false := decide_eq_false (by omega)
theorem alphaB_big {r : Int} (h : r < 0 ∨ 256 ≤ r) : alphaB r = false := decide_eq_false (by omega)

end Go.Proofs.YtaojjkknmaldiaaDoor
