/-
  Layer 4: an address in one to four parts, however its parts are written.
-/
import Derived.Test.YtaojjkknmaldiaaDoorFmtC
namespace Go.Proofs.YtaojjkknmaldiaaDoor
open Go.RowKit


/-- a part that is worth x -/
structure IsPart (x : Int) (p : List UInt8) : Prop where
  par : parseZ p = (x, true)
  dot : ∀ c ∈ p, hasB [46] c = false
  ne : p ≠ []
  len : p.length ≤ 67

theorem part_dec (u : Nat) (hu : u ≤ 1099511627776) : IsPart (u : Int) (Lib.decDigits u) := by
  obtain ⟨h, hn⟩ := isNum_dec u (by omega)
  refine ⟨?_, digs_dot h.digs, h.ne, by have := h.len; omega⟩
  rw [parse_dec h hn, capZ_lo (by omega)]
theorem part_oct {u : Int} (hu : u ≤ 1099511627776) {L : List UInt8} (h : IsNum 8 u L) : IsPart u (48 :: L) := by
  refine ⟨by rw [parse_oct h, capZ_lo (by omega)], ?_, by simp, by have := h.len; simp only [List.length_cons]; omega⟩
  intro c hc
  rcases List.mem_cons.1 hc with h1 | h1
  · subst h1; rfl
  · exact digs_dot h.digs c h1
theorem part_hex {u : Int} (hu : u ≤ 1099511627776) {L : List UInt8} (h : IsNum 16 u L) : IsPart u (48 :: 120 :: L) := by
  refine ⟨by rw [parse_hex h 120 (by decide), capZ_lo (by omega)], ?_, by simp, by have := h.len; simp only [List.length_cons]; omega⟩
  intro c hc
  rcases List.mem_cons.1 hc with h1 | h1
  · subst h1; rfl
  · rcases List.mem_cons.1 h1 with h2 | h2
    · subst h2; rfl
    · exact digs_dot h.digs c h2

theorem goF_cons (n i : Nat) (A : Int) (p : List UInt8) (r : List (List UInt8)) : goF n i A (p :: r) = if (parseZ p).2 = true ∧ (parseZ p).1 < limZ n i then goF n (i + 1) (A + (parseZ p).1 * wtZ n i) r else (0, false) := rfl

def flat (ps : List (List UInt8)) : List UInt8 := ps.flatMap (· ++ [46])
theorem flat_snoc (ps : List (List UInt8)) (p : List UInt8) : flat (ps ++ [p]) = flat ps ++ (p ++ [46]) := by simp [flat]
theorem dotted_flat (ps : List (List UInt8)) (t : List UInt8) (h : ∀ p ∈ ps, ∀ c ∈ p, hasB [46] c = false) : dotted (flat ps ++ t) = ps ++ dotted t := by
  induction ps with
  | nil => rfl
  | cons p ps ih =>
    have e : flat (p :: ps) ++ t = p ++ [46] ++ (flat ps ++ t) := by simp [flat]
    rw [e, dotted_cons p _ (h p (by simp)), ih (fun q hq => h q (by simp [hq]))]
    rfl

/-- the text of the first i parts of k, and what of n is left -/
structure Short (k i : Nat) (n r : Int) (T : List UInt8) : Prop where
  ex : ∃ ps : List (List UInt8), ps.length = i ∧ T = flat ps ∧ (∀ p ∈ ps, ∀ c ∈ p, hasB [46] c = false) ∧ ∀ tl, goF k 0 0 (ps ++ tl) = goF k i (n - r) tl
  len : T.length ≤ 68 * i
theorem short_start (k : Nat) (n : Int) : Short k 0 n n [] := ⟨⟨[], rfl, rfl, by simp, fun tl => by simp⟩, by simp⟩
theorem short_next {k i : Nat} {n r : Int} {T : List UInt8} (h : Short k i n r T) (x : Int) (p : List UInt8) (hp : IsPart x p) (hx : x < limZ k i) : Short k (i + 1) n (r - x * wtZ k i) (T ++ (p ++ [46])) := by
  obtain ⟨⟨ps, h1, h2, h3, h4⟩, hl⟩ := h
  refine ⟨⟨ps ++ [p], by simp [h1], by rw [flat_snoc, h2], ?_, fun tl => ?_⟩, ?_⟩
  · intro q hq
    rcases List.mem_append.1 hq with h5 | h5
    · exact h3 q h5
    · simp at h5; subst h5; exact hp.dot
  · rw [List.append_assoc, h4]
    show goF k i (n - r) (p :: tl) = _
    rw [goF_cons, hp.par, if_pos ⟨rfl, hx⟩]
    have e : n - r + x * wtZ k i = n - (r - x * wtZ k i) := by omega
    show goF k (i + 1) (n - r + x * wtZ k i) tl = _
    rw [e]
  · have := hp.len
    simp only [List.length_append, List.length_cons, List.length_nil]
    omega
theorem short_four {k i : Nat} {n r : Int} {T : List UInt8} (h : Short k i n r T) (hk : k = i + 1) (hk4 : k ≤ 4) (p : List UInt8) (hp : IsPart r p) (hx : r < limZ k i) (e : List UInt8) (he : e = [] ∨ e = [46]) : fourZ (T ++ p ++ e) = (n, true) := by
  obtain ⟨⟨ps, h1, h2, h3, h4⟩, _⟩ := h
  have hgo : goF k 0 0 (ps ++ [p]) = (n, true) := by
    rw [h4, goF_cons, hp.par, if_pos ⟨rfl, hx⟩]
    have hw : wtZ k i = 1 := by unfold wtZ; rw [if_pos hk.symm]
    show goF k (i + 1) (n - r + r * wtZ k i) [] = _
    rw [hw]
    show (n - r + r * 1, true) = _
    congr 1
    omega
  have hl : (ps ++ [p]).length = i + 1 := by simp [h1]
  have hg : (ps ++ [p]).getD i [] = p := by rw [← h1]; simp [List.getD]
  rcases he with rfl | rfl
  · rw [List.append_nil, h2]
    unfold fourZ fourP
    rw [dotted_flat ps p h3, dotted_one p hp.dot, keptN_last i _ hl (.inr (by rw [hg]; exact hp.ne)), if_neg (by omega)]
    rw [List.take_of_length_le (by omega), ← hk]
    exact hgo
  · have e2 : T ++ p ++ [46] = flat (ps ++ [p]) ++ [] := by rw [flat_snoc, h2]; simp
    have h3' : ∀ q ∈ ps ++ [p], ∀ c ∈ q, hasB [46] c = false := by
      intro q hq
      rcases List.mem_append.1 hq with h5 | h5
      · exact h3 q h5
      · simp at h5; subst h5; exact hp.dot
    rw [e2]
    unfold fourZ fourP
    rw [dotted_flat _ _ h3', dotted_one [] (by simp)]
    have hk2 : keptN (ps ++ [p] ++ [[]]) = i + 1 := keptN_before i _ (by simp [h1]) (by rw [show i + 1 = (ps ++ [p]).length from hl.symm]; simp [List.getD])
    rw [hk2, if_neg (by omega), List.take_append_of_le_length (by omega), List.take_of_length_le (by omega), ← hk]
    exact hgo
end Go.Proofs.YtaojjkknmaldiaaDoor
