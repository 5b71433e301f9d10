/-
  Layer 1: what Split takes apart strings.Join puts together.
-/
import Derived.Test.YtaojjkknmaldiaaDoorScalM
import Derived.Lib.Join
namespace Go.Proofs.YtaojjkknmaldiaaDoor
open Go.RowKit


theorem join_snoc (ps : List (List UInt8)) (c sep : List UInt8) : Lib.join (ps ++ [c]) sep = if ps = [] then c else Lib.join ps sep ++ sep ++ c := by
  cases ps with
  | nil => simp [Lib.join_one]
  | cons x r =>
    rw [if_neg (by simp), List.cons_append, Lib.join_cons, Lib.join_cons]
    simp [Lib.joinTail]

theorem split_join (l : List UInt8) (c : UInt8) : Lib.join (splitB (hasB [c]) l) [c] = l := by
  have key : ∀ (l : List UInt8) (st : List (List UInt8) × List UInt8), Lib.join ((l.foldl (splStep (hasB [c])) st).1 ++ [(l.foldl (splStep (hasB [c])) st).2]) [c] = Lib.join (st.1 ++ [st.2]) [c] ++ l := by
    intro l
    induction l with
    | nil => intro st; simp
    | cons x l ih =>
      intro st
      rw [List.foldl_cons, ih]
      have e : Lib.join ((splStep (hasB [c]) st x).1 ++ [(splStep (hasB [c]) st x).2]) [c] = Lib.join (st.1 ++ [st.2]) [c] ++ [x] := by
        unfold splStep
        by_cases h : hasB [c] x = true
        · have hx : c = x := by simpa [hasB] using h
          rw [if_pos h, join_snoc (st.1 ++ [st.2]) [] [c], if_neg (by simp), List.append_nil, hx]
        · rw [if_neg h, join_snoc, join_snoc]
          split
          · rfl
          · simp
      rw [e]; simp
  have := key l ([], [])
  unfold splitB spl
  rw [this]
  simp [Lib.join_one]

/-! ### a second time -/
end Go.Proofs.YtaojjkknmaldiaaDoor
