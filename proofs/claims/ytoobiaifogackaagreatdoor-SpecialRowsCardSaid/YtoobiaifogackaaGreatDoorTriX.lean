/-
  Layer 8: what TrieLongest goes by: the prefixes that were put are the list's; a verdict is the last one.
-/
import Derived.Test.YtoobiaifogackaaGreatDoorTriC
import Derived.Test.YtoobiaifogackaaGreatDoorPreB
namespace Go.Proofs.YtoobiaifogackaaGreatDoor
open Go.RowKit


theorem mem_putL {l : List En} {P k : Nat} {v : Int} {x : En} : x ∈ putL l P k v ↔ x = ⟨P, k, v⟩ ∨ (x ∈ l ∧ ¬ (x.W = P ∧ x.n = k)) := by
  unfold putL; rw [mem_insL, mem_dropL]
theorem getL_insL {e : En} {P : Nat} {k : Int} (h : e.key P k = false) : ∀ l : List En, getL (insL e l) P k = getL l P k
  | [] => by simp [insL, getL, h]
  | y :: l => by
    unfold insL
    by_cases c : befB e y = true
    · rw [if_pos c]; simp [getL, h]
    · rw [if_neg c]; unfold getL; rw [getL_insL h l]
theorem getL_dropL {P P' : Nat} {k k' : Int} (h : ¬ (P' = P ∧ k' = k)) : ∀ l : List En, getL (dropL l P k) P' k' = getL l P' k'
  | [] => rfl
  | y :: l => by
    have ih := getL_dropL h l
    unfold dropL at ih ⊢
    by_cases c : y.key P k = true
    · rw [List.filter_cons_of_neg (by simp [c]), ih]
      have : y.key P' k' = false := by
        unfold En.key at c ⊢
        rw [decide_eq_true_iff] at c
        rw [decide_eq_false_iff_not]
        exact fun q => h ⟨by rw [← q.1, c.1], by rw [← q.2, c.2]⟩
      simp [getL, this]
    · rw [List.filter_cons_of_pos (by simpa using c)]
      unfold getL; rw [ih]
theorem getL_put_other {l : List En} {P k : Nat} {v : Int} {P' k' : Nat} (h : ¬ (P' = P ∧ k' = k)) : getL (putL l P k v) P' k' = getL l P' k' := by
  unfold putL
  rw [getL_insL (by
    unfold En.key
    rw [decide_eq_false_iff_not]
    exact fun q => h ⟨q.1.symm, by have := q.2; simp at this; omega⟩), getL_dropL (fun q => h ⟨q.1, by omega⟩)]
theorem getL_put_same {l : List En} (hs : l.Pairwise En.lt) {P k : Nat} {v : Int} : getL (putL l P k v) P k = some v :=
  getL_of (putL_sorted hs P k v) (x := ⟨P, k, v⟩) (mem_putL.2 (.inl rfl))

/-- of the first j prefixes all that may be are on the list, and no other -/
def HeldZ (z : List (Int × Int × Int)) (j : Nat) (l : List En) : Prop :=
  (∀ i, i < j → ∀ (qh ql : Nat) (qk : Int), z[i]? = some ((qh : Int), (ql : Int), qk) → pRightB (wideN qh ql) qk = true → ∃ x ∈ l, x.W = wideN qh ql ∧ (x.n : Int) = qk) ∧
  (∀ x ∈ l, x.W < 2 ^ 128 ∧ ∃ i, i < j ∧ z[i]? = some ((hiN x.W : Int), (loN x.W : Int), (x.n : Int)))
theorem held_nil (z : List (Int × Int × Int)) : HeldZ z 0 [] := ⟨fun i hi => absurd hi (Nat.not_lt_zero _), fun x hx => by cases hx⟩
theorem held_wrong {z : List (Int × Int × Int)} {j : Nat} {l : List En} (h : HeldZ z j l) {qh ql : Nat} {qk : Int} (hz : z[j]? = some ((qh : Int), (ql : Int), qk)) (hr : pRightB (wideN qh ql) qk = false) : HeldZ z (j + 1) l :=
  ⟨fun i hi h1 l1 k1 e1 r1 => by
    by_cases c : i < j
    · exact h.1 i c h1 l1 k1 e1 r1
    · have : i = j := by omega
      subst this
      rw [hz] at e1
      simp only [Option.some.injEq, Prod.mk.injEq] at e1
      obtain ⟨a, b, c⟩ := e1
      have a' : qh = h1 := by omega
      have b' : ql = l1 := by omega
      subst a' b' c
      exact absurd (hr.symm.trans r1) (by simp), fun x hx => by
    obtain ⟨q, i, hi, e⟩ := h.2 x hx
    exact ⟨q, i, by omega, e⟩⟩
theorem held_put {z : List (Int × Int × Int)} {j : Nat} {l : List En} (h : HeldZ z j l) {qh ql m : Nat} {v : Int} (b1 : qh < 18446744073709551616) (b2 : ql < 18446744073709551616) (hz : z[j]? = some ((qh : Int), (ql : Int), (m : Int))) : HeldZ z (j + 1) (putL l (wideN qh ql) m v) :=
  ⟨fun i hi h1 l1 k1 e1 r1 => by
    by_cases c : i < j
    · obtain ⟨x, x1, x2, x3⟩ := h.1 i c h1 l1 k1 e1 r1
      by_cases d : x.W = wideN qh ql ∧ x.n = m
      · exact ⟨_, mem_putL.2 (.inl rfl), by rw [← x2]; exact d.1.symm, by rw [← x3, d.2]⟩
      · exact ⟨x, mem_putL.2 (.inr ⟨x1, d⟩), x2, x3⟩
    · have : i = j := by omega
      subst this
      rw [hz] at e1
      simp only [Option.some.injEq, Prod.mk.injEq] at e1
      obtain ⟨a, b, c⟩ := e1
      have a' : qh = h1 := by omega
      have b' : ql = l1 := by omega
      subst a' b' c
      exact ⟨_, mem_putL.2 (.inl rfl), rfl, rfl⟩, fun x hx => by
    rcases mem_putL.1 hx with e | ⟨e, _⟩
    · rw [e]
      exact ⟨wide_lt b1 b2, j, by omega, by simp only [hiN_wide b2, loN_wide b2]; exact hz⟩
    · obtain ⟨q, i, hi, e⟩ := h.2 x e
      exact ⟨q, i, by omega, e⟩⟩
theorem longest_none {z : List (Int × Int × Int)} {t : PT} (hi : t.Inv 0 0) (hH : HeldZ z z.length t.list) {A : Nat} (hf : t.find A none = none) {i qh ql : Nat} {qk : Int} (hz : z[i]? = some ((qh : Int), (ql : Int), qk)) : pHasB (wideN qh ql) qk A = false := by
  cases hp : pHasB (wideN qh ql) qk A with
  | false => rfl
  | true =>
    exfalso
    have hr : pRightB (wideN qh ql) qk = true := by unfold pHasB at hp; rw [Bool.and_eq_true] at hp; exact hp.1
    have hil : i < z.length := by
      by_cases c : i < z.length
      · exact c
      · rw [List.getElem?_eq_none (by omega)] at hz; cases hz
    obtain ⟨x, x1, x2, x3⟩ := hH.1 i hil qh ql qk hz hr
    rw [← x2, ← x3] at hp
    exact PT.find_none hi hf x x1 (pHasB_nat.1 hp).2
theorem longest_some {z : List (Int × Int × Int)} {t : PT} (hi : t.Inv 0 0) (hH : HeldZ z z.length t.list) {A : Nat} {y : En} (hf : t.find A none = some y) {i qh ql : Nat} {qk : Int} (hz : z[i]? = some ((qh : Int), (ql : Int), qk)) (hp : pHasB (wideN qh ql) qk A = true) : qk ≤ y.n := by
  have hr : pRightB (wideN qh ql) qk = true := by unfold pHasB at hp; rw [Bool.and_eq_true] at hp; exact hp.1
  have hil : i < z.length := by
    by_cases c : i < z.length
    · exact c
    · rw [List.getElem?_eq_none (by omega)] at hz; cases hz
  obtain ⟨x, x1, x2, x3⟩ := hH.1 i hil qh ql qk hz hr
  rw [← x2, ← x3] at hp
  have := (PT.find_some hi hf).2.2 x x1 (pHasB_nat.1 hp).2
  omega
/-- has one of the first j the address? -/
def someB (z : List (Int × Int × Int)) (j A : Nat) : Bool := (z.take j).any fun q => pHasB (wideN q.1.toNat q.2.1.toNat) q.2.2 A
theorem someB_succ {z : List (Int × Int × Int)} {j A qh ql : Nat} {qk : Int} (hz : z[j]? = some ((qh : Int), (ql : Int), qk)) : someB z (j + 1) A = (someB z j A || pHasB (wideN qh ql) qk A) := by
  unfold someB; rw [List.take_add_one, hz]; simp
theorem longest_in {z : List (Int × Int × Int)} {t : PT} (hi : t.Inv 0 0) (hH : HeldZ z z.length t.list) {A : Nat} {y : En} (hf : t.find A none = some y) : y ∈ t.list ∧ y.W < 2 ^ 128 ∧ y.n ≤ 128 ∧ rt y.W y.n ∧ pHasB y.W y.n A = true ∧ someB z z.length A = true := by
  obtain ⟨h1, h2, _⟩ := PT.find_some hi hf
  obtain ⟨b, i, hl, e⟩ := hH.2 y h1
  obtain ⟨_, c1, c2, _⟩ := PT.bounds hi y h1
  have hp : pHasB y.W y.n A = true := pHasB_nat.2 ⟨⟨c1, c2⟩, h2⟩
  refine ⟨h1, b, c1, c2, hp, ?_⟩
  unfold someB
  rw [List.take_length, List.any_eq_true]
  refine ⟨_, List.mem_of_getElem? e, ?_⟩
  simp only [Int.toNat_natCast, wide_split]
  exact hp
end Go.Proofs.YtoobiaifogackaaGreatDoor
