/-
  Layer 5: what a text is as an address of eight pieces: the definitions.
-/
import Derived.Test.YtgmfgcpfpopboaaGreatDoorFmtD
import Derived.Lib.IndexMore
namespace Go.Proofs.YtgmfgcpfpopboaaGreatDoor
open Go.RowKit


def pieceZ (l : List UInt8) : Int × Bool := if l.length < 1 ∨ 4 < l.length then (0, false) else if digsB 16 l then (valP 16 l, true) else (0, false)
def colons (l : List UInt8) : List (List UInt8) := splitB (hasB [58]) l
/-- the pieces of a row's parts, behind those that are there -/
def rowP (last : Bool) : List Int → List (List UInt8) → List Int × Bool
  | acc, [] => (acc, true)
  | acc, p :: r => if last = true ∧ r = [] ∧ (strictZ p).2 = true then (acc ++ [(strictZ p).1 / 65536, (strictZ p).1 % 65536], true)
    else if (pieceZ p).2 = true then rowP last (acc ++ [(pieceZ p).1]) r else ([], false)
def rowZ (l : List UInt8) (last : Bool) : List Int × Bool := if l = [] then ([], true) else rowP last [] (colons l)
/-- where two colons stand first -/
def ccAt : List UInt8 → Option Nat
  | [] => none
  | a :: r => if a = 58 ∧ r.head? = some 58 then some 0 else (ccAt r).map (· + 1)
def sixL (l : List UInt8) : List Int × Bool :=
  match ccAt l with
  | none => if (rowZ l true).2 = true ∧ (rowZ l true).1.length = 8 then ((rowZ l true).1, true) else ([], false)
  | some k => if (rowZ (l.take k) false).2 = true ∧ (rowZ (l.drop (k + 2)) true).2 = true ∧ (rowZ (l.take k) false).1.length + (rowZ (l.drop (k + 2)) true).1.length ≤ 7 then
      ((rowZ (l.take k) false).1 ++ List.replicate (8 - ((rowZ (l.take k) false).1.length + (rowZ (l.drop (k + 2)) true).1.length)) 0 ++ (rowZ (l.drop (k + 2)) true).1, true)
    else ([], false)
def hi4 (l : List Int) : Int := ((l.getD 0 0 * 65536 + l.getD 1 0) * 65536 + l.getD 2 0) * 65536 + l.getD 3 0
def lo4 (l : List Int) : Int := ((l.getD 4 0 * 65536 + l.getD 5 0) * 65536 + l.getD 6 0) * 65536 + l.getD 7 0
def sixZ (l : List UInt8) : (Int × Int) × Bool := ((hi4 (sixL l).1, lo4 (sixL l).1), (sixL l).2)

theorem valP_lt (L : List UInt8) (hd : digsB 16 L = true) : valP 16 L < 16 ^ L.length := by
  induction L with
  | nil => decide
  | cons c L ih =>
    have h2 : digC 16 c = true ∧ digsB 16 L = true := by simpa [digsB] using hd
    have h3 := of_decide_eq_true h2.1
    have h4 := ih h2.2
    rw [valP_cons, List.length_cons, Int.pow_succ]
    have hp : (0 : Int) ≤ 16 ^ L.length := Int.pow_nonneg (by decide)
    have hm : valZ (c.toNat : Int) * 16 ^ L.length ≤ 15 * 16 ^ L.length := Int.mul_le_mul_of_nonneg_right (by omega) hp
    omega
theorem valP_small (L : List UInt8) (hd : digsB 16 L = true) (h : L.length ≤ 3) : 0 ≤ valP 16 L ∧ valP 16 L ≤ 4095 := by
  refine ⟨valP_nonneg 16 (by decide) L hd, ?_⟩
  have h1 := valP_lt L hd
  rcases (show L.length = 0 ∨ L.length = 1 ∨ L.length = 2 ∨ L.length = 3 from by omega) with e | e | e | e <;> rw [e] at h1 <;> omega
theorem valP_four (L : List UInt8) (hd : digsB 16 L = true) (h : L.length ≤ 4) : 0 ≤ valP 16 L ∧ valP 16 L ≤ 65535 := by
  refine ⟨valP_nonneg 16 (by decide) L hd, ?_⟩
  have h1 := valP_lt L hd
  rcases (show L.length = 0 ∨ L.length = 1 ∨ L.length = 2 ∨ L.length = 3 ∨ L.length = 4 from by omega) with e | e | e | e | e <;> rw [e] at h1 <;> omega
theorem valP_snoc (b : Int) (s : ByteArray) (k : Nat) (h : k < s.size) : valP b (s.data.toList.take (k + 1)) = valP b (s.data.toList.take k) * b + valZ (s[k].toNat : Int) := by
  rw [take_bytes s k h]; simp [valP]

theorem pieceZ_bounds (l : List UInt8) : 0 ≤ (pieceZ l).1 ∧ (pieceZ l).1 ≤ 65535 := by
  unfold pieceZ
  split
  · exact ⟨Int.le_refl _, by show (0 : Int) ≤ _; omega⟩
  · split
    · exact valP_four l (by assumption) (by omega)
    · exact ⟨Int.le_refl _, by show (0 : Int) ≤ _; omega⟩
theorem pieceZ_out {l : List UInt8} (h : l.length < 1 ∨ 4 < l.length) : pieceZ l = (0, false) := by unfold pieceZ; rw [if_pos h]
theorem pieceZ_no {l : List UInt8} (h : digsB 16 l = false) : pieceZ l = (0, false) := by
  unfold pieceZ; split
  · rfl
  · rw [h]; rfl
theorem pieceZ_yes {l : List UInt8} (h : ¬ (l.length < 1 ∨ 4 < l.length)) (hd : digsB 16 l = true) : pieceZ l = (valP 16 l, true) := by
  unfold pieceZ; rw [if_neg h, hd]; rfl

theorem goS_bounds (l : List (List UInt8)) : ∀ (A : Int), 0 ≤ A → A < 256 ^ (4 - l.length) → l.length ≤ 4 → 0 ≤ (goS A l).1 ∧ (goS A l).1 ≤ 4294967295 := by
  induction l with
  | nil => intro A h0 h1 _; exact ⟨h0, by have h1' : A < 4294967296 := h1; show A ≤ _; omega⟩
  | cons p r ih =>
    intro A h0 h1 hl
    unfold goS
    split
    · have hb := decZ_bounds p 255 (by decide)
      refine ih _ (by omega) ?_ (by simp at hl; omega)
      simp only [List.length_cons] at h1 hl
      rcases (show r.length = 0 ∨ r.length = 1 ∨ r.length = 2 ∨ r.length = 3 from by omega) with e | e | e | e <;> rw [e] at h1 ⊢ <;> omega
    · exact ⟨Int.le_refl _, by show (0 : Int) ≤ _; omega⟩
theorem strictZ_bounds (l : List UInt8) : 0 ≤ (strictZ l).1 ∧ (strictZ l).1 ≤ 4294967295 := by
  obtain ⟨⟨x, b⟩, hx⟩ : ∃ x, strictZ l = x := ⟨_, rfl⟩
  rw [hx]
  cases b with
  | true => have h := strict_back l x hx; exact ⟨h.1, h.2.1⟩
  | false => have h := strict_false l x hx; subst h; exact ⟨Int.le_refl _, by show (0 : Int) ≤ _; omega⟩

theorem rowP_nil (last : Bool) (acc : List Int) : rowP last acc [] = (acc, true) := rfl
theorem rowP_four {last : Bool} {acc : List Int} {p : List UInt8} {r : List (List UInt8)} {x : Int} (h1 : last = true) (h2 : r = []) (h3 : strictZ p = (x, true)) : rowP last acc (p :: r) = (acc ++ [x / 65536, x % 65536], true) := by
  unfold rowP; rw [if_pos ⟨h1, h2, by rw [h3]⟩, h3]
theorem rowP_no {last : Bool} {acc : List Int} {p : List UInt8} {r : List (List UInt8)} {x : Int} (h : ¬ (last = true ∧ r = [] ∧ (strictZ p).2 = true)) (h3 : pieceZ p = (x, false)) : rowP last acc (p :: r) = ([], false) := by
  unfold rowP; rw [if_neg h, h3]; rfl
theorem rowP_yes {last : Bool} {acc : List Int} {p : List UInt8} {r : List (List UInt8)} {x : Int} (h : ¬ (last = true ∧ r = [] ∧ (strictZ p).2 = true)) (h3 : pieceZ p = (x, true)) : rowP last acc (p :: r) = rowP last (acc ++ [x]) r := by
  rw [rowP, if_neg h, h3]; rfl

def In16 (l : List Int) : Prop := ∀ x ∈ l, 0 ≤ x ∧ x ≤ 65535
theorem In16.nil : In16 [] := fun _ h => by cases h
theorem In16.append {a b : List Int} (ha : In16 a) (hb : In16 b) : In16 (a ++ b) := fun x hx => (List.mem_append.1 hx).elim (ha x) (hb x)
theorem In16.zeros (n : Nat) : In16 (List.replicate n 0) := fun x hx => by rw [(List.mem_replicate.1 hx).2]; exact ⟨by decide, by decide⟩
theorem In16.getD {l : List Int} (h : In16 l) (k : Nat) : 0 ≤ l.getD k 0 ∧ l.getD k 0 ≤ 65535 := by
  rw [List.getD_eq_getElem?_getD]
  cases e : l[k]? with
  | none => exact ⟨Int.le_refl _, by show (0 : Int) ≤ _; omega⟩
  | some x => exact h x (List.mem_of_getElem? e)
theorem rowP_in (last : Bool) (ps : List (List UInt8)) : ∀ acc, In16 acc → In16 (rowP last acc ps).1 := by
  induction ps with
  | nil => intro acc h; exact h
  | cons p r ih =>
    intro acc h
    unfold rowP
    split
    · have hb := strictZ_bounds p
      refine h.append fun x hx => ?_
      simp only [List.mem_cons, List.not_mem_nil, or_false] at hx
      rcases hx with rfl | rfl <;> omega
    · split
      · refine ih _ (h.append fun x hx => ?_)
        simp only [List.mem_cons, List.not_mem_nil, or_false] at hx
        subst hx
        exact pieceZ_bounds p
      · exact In16.nil
theorem rowZ_in (l : List UInt8) (last : Bool) : In16 (rowZ l last).1 := by
  unfold rowZ
  split
  · exact In16.nil
  · exact rowP_in _ _ _ In16.nil
theorem rowP_len (last : Bool) (ps : List (List UInt8)) : ∀ acc, (rowP last acc ps).1.length ≤ acc.length + ps.length + 1 := by
  induction ps with
  | nil => intro acc; simp [rowP]
  | cons p r ih =>
    intro acc
    unfold rowP
    split
    · simp only [List.length_append, List.length_cons, List.length_nil]; omega
    · split
      · have := ih (acc ++ [(pieceZ p).1])
        simp only [List.length_append, List.length_cons, List.length_nil] at this ⊢
        omega
      · simp
theorem sixL_in (l : List UInt8) : In16 (sixL l).1 := by
  unfold sixL
  split
  · split
    · exact rowZ_in _ _
    · exact In16.nil
  · split
    · exact ((rowZ_in _ _).append (In16.zeros _)).append (rowZ_in _ _)
    · exact In16.nil
theorem hi4_bounds {l : List Int} (h : In16 l) : 0 ≤ hi4 l ∧ hi4 l ≤ 18446744073709551615 := by
  have h0 := h.getD 0
  have h1 := h.getD 1
  have h2 := h.getD 2
  have h3 := h.getD 3
  unfold hi4
  omega
theorem lo4_bounds {l : List Int} (h : In16 l) : 0 ≤ lo4 l ∧ lo4 l ≤ 18446744073709551615 := by
  have h0 := h.getD 4
  have h1 := h.getD 5
  have h2 := h.getD 6
  have h3 := h.getD 7
  unfold lo4
  omega

def isCC (l : List UInt8) (k : Nat) : Prop := l[k]? = some 58 ∧ l[k + 1]? = some 58
theorem ccAt_none {l : List UInt8} (h : ∀ k, ¬ isCC l k) : ccAt l = none := by
  induction l with
  | nil => rfl
  | cons a r ih =>
    have h0 := h 0
    unfold ccAt
    rw [if_neg fun ⟨h1, h2⟩ => h0 ⟨by simp [h1], by simpa [List.head?_eq_getElem?] using h2⟩, ih fun k hk => h (k + 1) ⟨by simpa using hk.1, by simpa using hk.2⟩]
    rfl
theorem ccAt_some {l : List UInt8} : ∀ {k : Nat}, isCC l k → (∀ j, j < k → ¬ isCC l j) → ccAt l = some k := by
  induction l with
  | nil => intro k h _; exact absurd h.1 (by simp)
  | cons a r ih =>
    intro k h hj
    cases k with
    | zero =>
      unfold ccAt
      rw [if_pos ⟨by simpa using h.1, by simpa [List.head?_eq_getElem?] using h.2⟩]
    | succ k =>
      have h0 := hj 0 (by omega)
      unfold ccAt
      rw [if_neg fun ⟨h1, h2⟩ => h0 ⟨by simp [h1], by simpa [List.head?_eq_getElem?] using h2⟩, ih (k := k) ⟨by simpa using h.1, by simpa using h.2⟩ fun j hk hc => hj (j + 1) (by omega) ⟨by simpa using hc.1, by simpa using hc.2⟩]
      rfl
theorem ccAt_le {l : List UInt8} : ∀ {k : Nat}, ccAt l = some k → k + 2 ≤ l.length := by
  induction l with
  | nil => intro k h; cases h
  | cons a r ih =>
    intro k h
    unfold ccAt at h
    split at h
    · rename_i hc
      cases h
      cases r with
      | nil => exact absurd hc.2 (by simp)
      | cons b r => simp
    · cases hr : ccAt r with
      | none => rw [hr] at h; cases h
      | some j =>
        rw [hr] at h
        have := ih hr
        cases h
        simp only [List.length_cons]
        omega
theorem index_cc (l : List UInt8) : Lib.index l [58, 58] = match ccAt l with | some k => (k : Int) | none => -1 := by
  induction l with
  | nil => rfl
  | cons a r ih =>
    have hp : ([58, 58] : List UInt8).isPrefixOf (a :: r) = decide (a = 58 ∧ r.head? = some 58) := by
      rw [Bool.eq_iff_iff, decide_eq_true_iff]
      cases r with
      | nil => simp [List.isPrefixOf]
      | cons b r =>
        rw [List.isPrefixOf, List.isPrefixOf, List.isPrefixOf, Bool.and_true, Bool.and_eq_true, beq_iff_eq, beq_iff_eq, List.head?_cons, Option.some.injEq]
        exact ⟨fun h => ⟨h.1.symm, h.2.symm⟩, fun h => ⟨h.1.symm, h.2.symm⟩⟩
    unfold Lib.index ccAt
    rw [hp]
    by_cases hc : a = 58 ∧ r.head? = some 58
    · rw [if_pos (by simpa using hc), if_pos hc]; rfl
    · rw [if_neg (by simpa using hc), if_neg hc, ih]
      cases ccAt r with
      | none => rfl
      | some k =>
        have : ((k : Int) == -1) = false := by rw [beq_eq_false_iff_ne]; omega
        simp [this]
theorem cut_none {l : List UInt8} (h : ccAt l = none) : Lib.cut l [58, 58] = (l, [], false) := by
  unfold Lib.cut
  rw [index_cc, h]
  rfl
theorem cut_some {l : List UInt8} {k : Nat} (h : ccAt l = some k) : Lib.cut l [58, 58] = (l.take k, l.drop (k + 2), true) := by
  unfold Lib.cut
  rw [index_cc, h]
  show (if (0 : Int) ≤ (k : Int) then _ else _) = _
  rw [if_pos (by omega)]
  rfl
end Go.Proofs.YtgmfgcpfpopboaaGreatDoor
