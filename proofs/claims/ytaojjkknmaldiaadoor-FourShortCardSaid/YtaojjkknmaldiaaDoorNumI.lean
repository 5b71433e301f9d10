/-
  Layer 3: what a name's last part is, by points behind and parts ahead.
-/
import Derived.Test.YtaojjkknmaldiaaDoorNumE
namespace Go.Proofs.YtaojjkknmaldiaaDoor
open Go.RowKit


theorem spl_two (p : UInt8 → Bool) (l : List UInt8) : ∀ (xs ys : List (List UInt8)) (t : List UInt8), (l.foldl (splStep p) (xs, t)).2 = (l.foldl (splStep p) (ys, t)).2 := by
  induction l with
  | nil => intro xs ys t; rfl
  | cons c l ih =>
    intro xs ys t
    simp only [List.foldl_cons, splStep]
    by_cases hp : p c = true
    · simp only [hp, if_true]; exact ih _ _ _
    · simp only [hp]; exact ih _ _ _

theorem spl_append (p : UInt8 → Bool) (a b : List UInt8) : spl p (a ++ b) = b.foldl (splStep p) (spl p a) := by
  unfold spl; rw [List.foldl_append]

theorem spl_none (p : UInt8 → Bool) (l : List UInt8) : ∀ (xs : List (List UInt8)) (t : List UInt8), (∀ c ∈ l, p c = false) → l.foldl (splStep p) (xs, t) = (xs, t ++ l) := by
  induction l with
  | nil => intro xs t _; simp
  | cons c l ih =>
    intro xs t h
    have hc := h c (by simp)
    simp only [List.foldl_cons, splStep, hc]
    rw [show (if false = true then (xs ++ [t], []) else (xs, t ++ [c])) = (xs, t ++ [c]) from rfl, ih _ _ (fun d hd => h d (by simp [hd]))]
    simp

theorem spl_in (p : UInt8 → Bool) (l : List UInt8) : ∀ (xs : List (List UInt8)) (t : List UInt8), (∀ c ∈ t, p c = false) → ∀ c ∈ (l.foldl (splStep p) (xs, t)).2, p c = false := by
  induction l with
  | nil => intro xs t h; exact h
  | cons c l ih =>
    intro xs t h
    simp only [List.foldl_cons, splStep]
    by_cases hp : p c = true
    · simp only [hp, if_true]; exact ih _ _ (by simp)
    · have hf : p c = false := by simpa using hp
      simp only [hf]
      refine ih _ _ ?_
      intro d hd
      rcases List.mem_append.1 hd with h1 | h1
      · exact h d h1
      · simp at h1; subst h1; exact hf

theorem has46 (c : UInt8) : hasB [46] c = decide (c = 46) := by
  simp only [hasB, List.any_cons, List.any_nil, Bool.or_false]
  by_cases h : c = 46
  · subst h; rfl
  · rw [decide_eq_false h]; exact beq_eq_false_iff_ne.2 (fun e => h e.symm)

/-- the last part -/
def tailP (l : List UInt8) : List UInt8 := (spl (hasB [46]) l).2

theorem dotted_eq (l : List UInt8) : dotted l = (spl (hasB [46]) l).1 ++ [tailP l] := rfl

theorem getD_snoc (ps : List (List UInt8)) (t : List UInt8) : (ps ++ [t]).getD ps.length [] = t := by simp [List.getD]
theorem last_tail (l : List UInt8) (h : tailP l ≠ []) : lastPart (dotted l) = tailP l := by
  rw [dotted_eq]
  exact ends_last (spl (hasB [46]) l).1.length _ _ (by simp) (getD_snoc _ _) (.inr h)

theorem tailP_snoc (l : List UInt8) (c : UInt8) (h : c ≠ 46) : tailP (l ++ [c]) = tailP l ++ [c] := by
  unfold tailP
  rw [spl_append]
  simp [splStep, has46, h]
theorem tailP_ne (l : List UInt8) (hn : l ≠ []) (h : l.getLast hn ≠ 46) : tailP l ≠ [] := by
  conv => lhs; rw [← List.dropLast_concat_getLast hn]
  rw [tailP_snoc _ _ h]
  simp

theorem dot_behind (l : List UInt8) : spl (hasB [46]) (l ++ [46]) = ((spl (hasB [46]) l).1 ++ [tailP l], []) := by
  rw [spl_append]
  simp [splStep, has46, tailP]
theorem last_dot (l : List UInt8) : lastPart (dotted (l ++ [46])) = tailP l := by
  unfold dotted splitB
  rw [dot_behind]
  exact ends_before (spl (hasB [46]) l).1.length _ _ (by simp) (by simp [List.getD]) (by simp [List.getD])
theorem last_dots (l : List UInt8) : lastPart (dotted (l ++ [46, 46])) = [] := by
  have e : l ++ [46, 46] = (l ++ [46]) ++ [46] := by simp
  rw [e, last_dot]
  unfold tailP
  rw [dot_behind]
theorem tail_ahead (a b : List UInt8) : tailP (a ++ [46] ++ b) = tailP b := by
  unfold tailP
  rw [spl_append, dot_behind]
  exact spl_two _ _ _ _ _
theorem tail_tail (b : List UInt8) : tailP (tailP b) = tailP b := by
  have h : ∀ c ∈ tailP b, hasB [46] c = false := spl_in _ b [] [] (by simp)
  have := spl_none (hasB [46]) (tailP b) [] [] h
  show (spl (hasB [46]) (tailP b)).2 = _
  unfold spl
  rw [this]
  simp

theorem endsX_nil : endsX [] = false := by decide +kernel
theorem ends_e1 (b : List UInt8) : endsB (b ++ [46]) = endsX (tailP b) := by unfold endsB; rw [last_dot]
theorem ends_e2 (b : List UInt8) (h : tailP b ≠ []) : endsB b = endsX (tailP b) := by unfold endsB; rw [last_tail b h]
theorem ends_e3 (a b : List UInt8) (h : tailP b ≠ []) : endsB (a ++ [46] ++ b) = endsX (tailP b) := by
  unfold endsB; rw [last_tail _ (by rw [tail_ahead]; exact h), tail_ahead]
theorem ends_e4 (b : List UInt8) (h : tailP b ≠ []) : endsB (tailP b) = endsX (tailP b) := by
  unfold endsB; rw [last_tail _ (by rw [tail_tail]; exact h), tail_tail]
theorem ends_e5 : endsB [] = false := by decide +kernel
theorem ends_e6 (b : List UInt8) : endsB (b ++ [46, 46]) = false := by unfold endsB; rw [last_dots]; exact endsX_nil

theorem app_list (x y : ByteArray) : (x ++ y).data.toList = x.data.toList ++ y.data.toList := by simp
theorem app_size (x y : ByteArray) : (x ++ y).size = x.size + y.size := by simp

/-- the last part, byte by byte: it begins behind the last point -/
theorem tail_step_dot (s : ByteArray) (k : Nat) (h : k < s.size) (hc : s[k].toNat = 46) : tailP (s.data.toList.take (k + 1)) = (s.data.toList.drop (k + 1)).take (k + 1 - (k + 1)) := by
  rw [take_bytes s k h, show s[k] = 46 from UInt8.toNat_inj.1 hc]
  unfold tailP
  rw [dot_behind]
  simp
theorem tail_step (s : ByteArray) (k a : Nat) (ha : a ≤ k) (h : k < s.size) (hc : s[k].toNat ≠ 46) (hp : tailP (s.data.toList.take k) = (s.data.toList.drop a).take (k - a)) : tailP (s.data.toList.take (k + 1)) = (s.data.toList.drop a).take (k + 1 - a) := by
  rw [take_bytes s k h, tailP_snoc _ _ (fun e => hc (by rw [e]; rfl)), hp, cut_snoc s a k ha h]
theorem tail_end (s : ByteArray) (k a : Nat) (h : ¬ k < s.size) (hp : tailP (s.data.toList.take k) = (s.data.toList.drop a).take (k - a)) : s.data.toList.drop a = tailP s.data.toList := by
  rw [take_all s k h] at hp
  rw [hp, List.take_of_length_le]
  simp
  omega
end Go.Proofs.YtaojjkknmaldiaaDoor
