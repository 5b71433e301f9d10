/-
  Layer 7: texts: what is cut at a slash, what is split there; the prefix that a text is.
-/
import Derived.Test.YtoobiaifogackaaGreatDoorPreH
namespace Go.Proofs.YtoobiaifogackaaGreatDoor
open Go.RowKit


theorem sl_none : ∀ {l : List UInt8}, (47 : UInt8) ∉ l → Lib.index l [47] = -1
  | [], _ => rfl
  | c :: l, h => by
    have hc : ¬ c = 47 := fun e => h (e ▸ List.mem_cons_self ..)
    have ih := sl_none (l := l) (fun g => h (List.mem_cons_of_mem _ g))
    have hc' : ¬ (47 : UInt8) = c := fun e => hc e.symm
    unfold Lib.index
    rw [ih]
    simp [List.isPrefixOf, hc']
theorem sl_some : ∀ {a : List UInt8} (d : List UInt8), (47 : UInt8) ∉ a → Lib.index (a ++ 47 :: d) [47] = a.length
  | [], d, _ => by
    show Lib.index (47 :: d) [47] = _
    unfold Lib.index; simp [List.isPrefixOf]
  | c :: a, d, h => by
    have hc : ¬ c = 47 := fun e => h (e ▸ List.mem_cons_self ..)
    have ih := sl_some (a := a) d (fun g => h (List.mem_cons_of_mem _ g))
    show Lib.index (c :: (a ++ 47 :: d)) [47] = _
    unfold Lib.index
    rw [ih]
    have h1 : (([47] : List UInt8).isPrefixOf (c :: (a ++ 47 :: d))) = false := by
      have hc' : ¬ (47 : UInt8) = c := fun e => hc e.symm
      simp [List.isPrefixOf, hc']
    have h2 : ((a.length : Int) == -1) = false := by rw [beq_eq_false_iff_ne]; omega
    rw [h1, h2]
    simp
theorem slc_none {l : List UInt8} (h : (47 : UInt8) ∉ l) : Lib.cut l [47] = (l, [], false) := by
  unfold Lib.cut; rw [sl_none h]; rfl
theorem slc_some {a : List UInt8} (d : List UInt8) (h : (47 : UInt8) ∉ a) : Lib.cut (a ++ 47 :: d) [47] = (a, d, true) := by
  unfold Lib.cut; rw [sl_some d h, if_pos (by omega)]
  simp
theorem sl_parts (l : List UInt8) : (47 : UInt8) ∉ l ∨ ∃ a d, l = a ++ 47 :: d ∧ (47 : UInt8) ∉ a := by
  induction l with
  | nil => exact .inl (by simp)
  | cons c l ih =>
    by_cases hc : c = 47
    · exact .inr ⟨[], l, by rw [hc]; rfl, by simp⟩
    · rcases ih with h | ⟨a, d, e, h⟩
      · exact .inl (fun g => by rcases List.mem_cons.1 g with q | q; exact hc q.symm; exact h q)
      · exact .inr ⟨c :: a, d, by rw [e]; rfl, fun g => by rcases List.mem_cons.1 g with q | q; exact hc q.symm; exact h q⟩
theorem spl_more (p : UInt8 → Bool) : ∀ (l : List UInt8) (x s : List (List UInt8)) (y : List UInt8), l.foldl (splStep p) (x ++ s, y) = (x ++ (l.foldl (splStep p) (s, y)).1, (l.foldl (splStep p) (s, y)).2)
  | [], _, _, _ => rfl
  | c :: l, x, s, y => by
    rw [List.foldl_cons, List.foldl_cons]
    unfold splStep
    by_cases h : p c = true
    · simp only [h, if_true]
      rw [List.append_assoc]; exact spl_more p l x _ _
    · simp only [h]; exact spl_more p l x s _
theorem spl_plain (p : UInt8 → Bool) : ∀ (l : List UInt8) (y : List UInt8), (∀ c ∈ l, p c = false) → l.foldl (splStep p) (([] : List (List UInt8)), y) = ([], y ++ l)
  | [], y, _ => by simp
  | c :: l, y, h => by
    rw [List.foldl_cons]
    have hc := h c (List.mem_cons_self ..)
    have : splStep p ([], y) c = ([], y ++ [c]) := by unfold splStep; simp [hc]
    rw [this, spl_plain p l _ (fun x hx => h x (List.mem_cons_of_mem _ hx))]
    simp
theorem hasB_sl (c : UInt8) : hasB [47] c = decide (c = 47) := by
  unfold hasB
  rw [Bool.eq_iff_iff, decide_eq_true_iff]; simp only [List.any_cons, List.any_nil, Bool.or_false, beq_iff_eq]
  exact ⟨fun e => e.symm, fun e => e.symm⟩
theorem sls_none {l : List UInt8} (h : (47 : UInt8) ∉ l) : splitB (hasB [47]) l = [l] := by
  unfold splitB spl
  rw [spl_plain _ l [] (fun c hc => by rw [hasB_sl, decide_eq_false_iff_not]; exact fun e => h (e ▸ hc))]
  simp
theorem sls_some {a : List UInt8} (d : List UInt8) (h : (47 : UInt8) ∉ a) : splitB (hasB [47]) (a ++ 47 :: d) = a :: splitB (hasB [47]) d := by
  unfold splitB spl
  rw [List.foldl_append, spl_plain _ a [] (fun c hc => by rw [hasB_sl, decide_eq_false_iff_not]; exact fun e => h (e ▸ hc)), List.foldl_cons]
  have : splStep (hasB [47]) ([], [] ++ a) 47 = ([a] ++ [], []) := by unfold splStep; simp [hasB_sl]
  rw [this, spl_more]
  simp

def AZ.ahead : AZ → Int
  | .four _ => 96
  | .six _ _ => 0
/-- the prefix of an address and of digits -/
def prefZ (a d : List UInt8) : Option (Nat × Nat) :=
  match addrZ a with
  | none => none
  | some z => if (decZ d (128 - z.ahead)).2 = true ∧ pRightB z.wd (z.ahead + (decZ d (128 - z.ahead)).1) = true then some (z.wd, (z.ahead + (decZ d (128 - z.ahead)).1).toNat) else none
/-- the prefix that a text is -/
def parseP (l : List UInt8) : Option (Nat × Nat) := prefZ (Lib.cut l [47]).1 (Lib.cut l [47]).2.1
theorem dig_sl (b : Int) : digC b 47 = false := by
  unfold digC; rw [decide_eq_false_iff_not]
  have : valZ ((47 : UInt8).toNat : Int) = -1 := by decide
  rw [this]; omega
theorem dec_sl {d : List UInt8} (h : (47 : UInt8) ∈ d) (m : Int) : decZ d m = (0, false) := by
  refine decZ_dig d m ?_
  unfold digsB
  rw [List.all_eq_false]
  exact ⟨47, h, by rw [dig_sl]; simp⟩
theorem prefZ_no {a d : List UInt8} (h : ∀ m, (decZ d m).2 = false) : prefZ a d = none := by
  unfold prefZ
  split
  · rfl
  · rw [if_neg]; rw [h]; simp
/-- split in two at slashes it is the same -/
theorem parse_two {l a d : List UInt8} (h : splitB (hasB [47]) l = [a, d]) : parseP l = prefZ a d := by
  rcases sl_parts l with g | ⟨x, y, rfl, g⟩
  · rw [sls_none g] at h; simp at h
  · rw [sls_some y g] at h
    obtain ⟨rfl, h2⟩ := List.cons.inj h
    rcases sl_parts y with q | ⟨u, v, rfl, q⟩
    · rw [sls_none q] at h2
      obtain ⟨rfl, _⟩ := List.cons.inj h2
      unfold parseP; rw [slc_some _ g]
    · rw [sls_some v q] at h2
      obtain ⟨_, h3⟩ := List.cons.inj h2
      exact absurd h3 (by simp [splitB])
theorem parse_other {l : List UInt8} (h : (splitB (hasB [47]) l).length ≠ 2) : parseP l = none := by
  rcases sl_parts l with g | ⟨x, y, rfl, g⟩
  · unfold parseP; rw [slc_none g]
    exact prefZ_no (fun m => by rw [decZ_form _ _ (.inl rfl)])
  · rw [sls_some y g] at h
    unfold parseP; rw [slc_some _ g]
    rcases sl_parts y with q | ⟨u, v, rfl, q⟩
    · rw [sls_none q] at h; simp at h
    · exact prefZ_no (fun m => by rw [dec_sl (by simp)])
theorem prefZ_some {a d : List UInt8} {W k : Nat} (h : prefZ a d = some (W, k)) : k ≤ 128 ∧ rt W k ∧ W < 2 ^ 128 := by
  unfold prefZ at h
  cases e : addrZ a with
  | none => rw [e] at h; cases h
  | some z =>
    rw [e] at h
    simp only at h
    split at h
    · rename_i c
      injection h with h
      injection h with h1 h2
      have hb := pRightB_in c.2
      have c2 := c.2
      rw [← show ((z.ahead + (decZ d (128 - z.ahead)).1).toNat : Int) = z.ahead + (decZ d (128 - z.ahead)).1 from by omega, h1, h2] at c2
      exact ⟨(pRightB_nat.1 c2).1, (pRightB_nat.1 c2).2, h1 ▸ AZ.wd_lt (addrZ_ok e)⟩
    · cases h
/-- what is returned of a text -/
def optP : Option (Nat × Nat) → Value
  | none => pfW 0 0
  | some (W, k) => pfW W k
def RetPf (w : World) (x : Option (Nat × Nat)) (e : Ending) (w' : World) : Prop := e = .returned (.tuple #[optP x, .bool x.isSome]) ∧ Below w.heap.size w w'
end Go.Proofs.YtoobiaifogackaaGreatDoor
