/-
  Layer 4: what a text is as an address of four bytes: the definitions.
-/
import Derived.Test.YtaojjkknmaldiaaDoorNumH
import Derived.Test.YtaojjkknmaldiaaDoorNumI
import Derived.Laws.BitsLemmas
namespace Go.Proofs.YtaojjkknmaldiaaDoor
open Go.RowKit


def limZ (n i : Nat) : Int := if i + 1 = n then 256 ^ (5 - n) else 256
def wtZ (n i : Nat) : Int := if i + 1 = n then 1 else 256 ^ (3 - i)
def goF (n : Nat) : Nat → Int → List (List UInt8) → Int × Bool
  | _, A, [] => (A, true)
  | i, A, p :: r => if (parseZ p).2 = true ∧ (parseZ p).1 < limZ n i then goF n (i + 1) (A + (parseZ p).1 * wtZ n i) r else (0, false)
/-- how many parts count -/
def keptN (ps : List (List UInt8)) : Nat := if 1 < ps.length ∧ ps.getD (ps.length - 1) [] = [] then ps.length - 1 else ps.length
def fourP (ps : List (List UInt8)) : Int × Bool := if 4 < keptN ps then (0, false) else goF (keptN ps) 0 0 (ps.take (keptN ps))
def fourZ (l : List UInt8) : Int × Bool := fourP (dotted l)

theorem numZ_bounds (b : Int) (hb : 0 ≤ b) (l : List UInt8) (hd : digsB b l = true) : 0 ≤ numZ b l ∧ numZ b l ≤ 1099511627776 := by
  have key : ∀ (l : List UInt8) (n : Int), 0 ≤ n → n ≤ 1099511627776 → digsB b l = true → 0 ≤ l.foldl (stepN b) n ∧ l.foldl (stepN b) n ≤ 1099511627776 := by
    intro l
    induction l with
    | nil => intro n h0 h1 _; exact ⟨h0, h1⟩
    | cons c l ih =>
      intro n h0 h1 hd
      have h2 : digC b c = true ∧ digsB b l = true := by simpa [digsB] using hd
      have h3 := of_decide_eq_true h2.1
      have hp : 0 ≤ n * b := Int.mul_nonneg h0 hb
      refine ih _ ?_ (capZ_le _) h2.2
      unfold stepN capZ
      split <;> omega
  exact key l 0 (Int.le_refl _) (by omega) hd
theorem parseZ_bounds (l : List UInt8) : 0 ≤ (parseZ l).1 ∧ (parseZ l).1 ≤ 1099511627776 := by
  unfold parseZ
  split
  · exact ⟨Int.le_refl _, by show (0 : Int) ≤ _; omega⟩
  · split
    · have hb := restB_base l
      exact numZ_bounds _ (by omega) _ (by assumption)
    · exact ⟨Int.le_refl _, by show (0 : Int) ≤ _; omega⟩

theorem goF_end (n k : Nat) (A : Int) (ps : List (List UInt8)) (h : n ≤ k) : goF n k A ((ps.take n).drop k) = (A, true) := by
  rw [List.drop_eq_nil_of_le (by simp; omega)]
  rfl
theorem drop_part (n k : Nat) (ps : List (List UInt8)) (h : k < n) (hn : n ≤ ps.length) : (ps.take n).drop k = ps.getD k [] :: (ps.take n).drop (k + 1) := by
  rw [List.drop_eq_getElem_cons (by simp; omega)]
  congr 1
  rw [List.getElem_take, List.getD, List.getElem?_eq_getElem (by omega)]
  rfl
theorem goF_yes (n k : Nat) (A : Int) (ps : List (List UInt8)) (p : List UInt8) (x : Int) (h : k < n) (hn : n ≤ ps.length) (hp : ps.getD k [] = p) (hx : parseZ p = (x, true)) (hl : x < limZ n k) :
    goF n k A ((ps.take n).drop k) = goF n (k + 1) (A + x * wtZ n k) ((ps.take n).drop (k + 1)) := by
  rw [drop_part n k ps h hn, hp]
  show (if _ then _ else _) = _
  rw [hx, if_pos ⟨rfl, hl⟩]
theorem goF_no (n k : Nat) (A : Int) (ps : List (List UInt8)) (p : List UInt8) (x : Int) (b : Bool) (h : k < n) (hn : n ≤ ps.length) (hp : ps.getD k [] = p) (hx : parseZ p = (x, b)) (hl : b = false ∨ limZ n k ≤ x) :
    goF n k A ((ps.take n).drop k) = (0, false) := by
  rw [drop_part n k ps h hn, hp]
  show (if _ then _ else _) = _
  rw [hx, if_neg]
  rintro ⟨h1, h2⟩
  rcases hl with h3 | h3
  · rw [h3] at h1; cases h1
  · exact absurd h2 (by show ¬ x < _; omega)

theorem keptN_last (n : Nat) (ps : List (List UInt8)) (h : ps.length = n + 1) (hc : n = 0 ∨ ps.getD n [] ≠ []) : keptN ps = n + 1 := by
  unfold keptN
  rw [h, Nat.add_sub_cancel, if_neg]
  rintro ⟨h1, h2⟩
  rcases hc with h3 | h3
  · omega
  · exact h3 h2
theorem keptN_before (n : Nat) (ps : List (List UInt8)) (h : ps.length = n + 2) (hx : ps.getD (n + 1) [] = []) : keptN ps = n + 1 := by
  unfold keptN
  rw [h, show n + 2 - 1 = n + 1 from rfl, hx, if_pos ⟨by omega, rfl⟩]
theorem fourZ_of {l : List UInt8} {n : Nat} (hk : keptN (dotted l) = n) (h : n ≤ 4) : fourZ l = goF n 0 0 (((dotted l).take n).drop 0) := by
  unfold fourZ fourP
  rw [hk, if_neg (by omega)]
  rfl
theorem fourZ_many {l : List UInt8} {n : Nat} (hk : keptN (dotted l) = n) (h : 4 < n) : fourZ l = (0, false) := by
  unfold fourZ fourP
  rw [hk, if_pos h]

theorem u32_join (i : Nat) (x y : Int) (hx0 : 0 ≤ x) (hx : x % 2 ^ i = 0) (hx1 : x < 4294967296) (hy0 : 0 ≤ y) (hy : y < 2 ^ i) (hy1 : y < 4294967296) : bits .or .u32 x y = x + y :=
  bits_join .u32 32 (by decide) (fun n h0 h1 => by rw [IntKind.wrap_u32]; omega) i x y hx0 hx hx1 hy0 hy hy1

theorem Parts.form2 {B : Nat} {w : World} {v : Value} {ps : List (List UInt8)} (h : Parts B w v ps) (hn : 0 < ps.length) :
    ∃ g cap, v = .slice (some ⟨g, 0, none⟩) ps.length cap ∧ ps.length ≤ cap ∧ g < w.heap.size ∧ ∀ j, j < ps.length → w.cell? ⟨g, j, none⟩ = some (.string ⟨(ps.getD j []).toArray⟩) := by
  obtain ⟨g, c, rfl, hg, hc⟩ := h.form hn
  refine ⟨g, c, rfl, ?_, hg, hc⟩
  unfold Parts at h
  rcases h.2 with ⟨h0, _⟩ | ⟨g', cap, cur, hv, _, _, hle, _⟩
  · cases h0
  · cases hv; exact hle

def RetAddr (w : World) (x : Int × Bool) (e : Ending) (w' : World) : Prop := e = .returned (.tuple #[.int .u32 x.1, .bool x.2]) ∧ Below w.heap.size w w'
theorem retAddr_of {w w' : World} {x : Int × Bool} {n : Int} {b : Bool} (h : x = (n, b)) (hb : Below w.heap.size w w') : RetAddr w x (.returned (.tuple #[.int .u32 n, .bool b])) w' := by
  subst h; exact ⟨rfl, hb⟩
end Go.Proofs.YtaojjkknmaldiaaDoor
