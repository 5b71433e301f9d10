/-
  Layer 8: what is found behind a prefix that is put, and dropped again.
-/
import Derived.Test.YtoobiaifogackaaGreatDoorTriC
namespace Go.Proofs.YtoobiaifogackaaGreatDoor
open Go.RowKit


theorem back_not {t : PT} (h : t.Inv 0 0) {P k : Nat} (hk : k ≤ 128) (hr : rt P k) (hg : t.get P k = none) {x : En} (hx : x ∈ t.list) : ¬ (x.W = P ∧ x.n = k) := fun e => by
  have := (PT.get_mem h hk hr x.v).2 (by rw [← e.1, ← e.2]; exact hx)
  rw [hg] at this; cases this
theorem back_hit {t : PT} (h : t.Inv 0 0) {P k A : Nat} {v : Int} (hk : k ≤ 128) (hr : rt P k) (hP : P < 2 ^ 128) (hp : pHasB P k A = true) (hs : ∀ y, t.find A none = some y → y.n < k) :
    (t.put P k v).find A none = some ⟨P, k, v⟩ := by
  refine (PT.find_iff (PT.put_inv h hk hr (qt_lt hP) (Nat.zero_le _))).2 ⟨(PT.put_mem h hk hr _).2 (.inl rfl), (pHasB_nat.1 hp).2, fun x hx hA => ?_⟩
  rcases (PT.put_mem h hk hr x).1 hx with e | ⟨e, _⟩
  · rw [e]; exact Nat.le_refl _
  · cases f : t.find A none with
    | none => exact absurd hA (PT.find_none h f x e)
    | some z =>
      have := (PT.find_some h f).2.2 x e hA
      have h2 := hs z f
      show x.n ≤ k
      omega
theorem back_miss {t : PT} (h : t.Inv 0 0) {P k A : Nat} {v : Int} (hk : k ≤ 128) (hr : rt P k) (hP : P < 2 ^ 128) (hg : t.get P k = none) (hs : ¬ (pHasB P k A = true ∧ ∀ y, t.find A none = some y → y.n < k)) :
    (t.put P k v).find A none = t.find A none := by
  have hi := PT.put_inv (v := v) h hk hr (qt_lt hP) (Nat.zero_le _)
  cases f : t.find A none with
  | none =>
    cases f2 : (t.put P k v).find A none with
    | none => rfl
    | some y =>
      exfalso
      obtain ⟨y1, y2, _⟩ := PT.find_some hi f2
      rcases (PT.put_mem h hk hr y).1 y1 with e | ⟨e, _⟩
      · rw [e] at y2
        exact hs ⟨pHasB_nat.2 ⟨⟨hk, hr⟩, y2⟩, fun z hz => by rw [f] at hz; cases hz⟩
      · exact PT.find_none h f y e y2
  | some z =>
    obtain ⟨z1, z2, z3⟩ := PT.find_some h f
    refine (PT.find_iff hi).2 ⟨(PT.put_mem h hk hr z).2 (.inr ⟨z1, back_not h hk hr hg z1⟩), z2, fun x hx hA => ?_⟩
    rcases (PT.put_mem h hk hr x).1 hx with e | ⟨e, _⟩
    · rw [e] at hA ⊢
      by_cases c : z.n < k
      · exact absurd ⟨pHasB_nat.2 ⟨⟨hk, hr⟩, hA⟩, fun y hy => by rw [f] at hy; cases hy; exact c⟩ hs
      · show k ≤ z.n
        omega
    · exact z3 x e hA
theorem back_list {t : PT} (h : t.Inv 0 0) {P k : Nat} {v : Int} (hk : k ≤ 128) (hr : rt P k) (hP : P < 2 ^ 128) (hg : t.get P k = none) : ((t.put P k v).drop P k).list = t.list := by
  have hi := PT.put_inv (v := v) h hk hr (qt_lt hP) (Nat.zero_le _)
  refine sorted_eq (PT.sorted (PT.drop_inv hi)) (PT.sorted h) (fun x => ?_)
  rw [PT.drop_mem hi hk hr ((PT.put_mem h hk hr _).2 (.inl rfl)), PT.put_mem h hk hr]
  constructor
  · rintro ⟨e | e, n⟩
    · exact absurd (by rw [e]; exact ⟨rfl, rfl⟩) n
    · exact e.1
  · exact fun e => ⟨.inr ⟨e, back_not h hk hr hg e⟩, back_not h hk hr hg e⟩
theorem back_find {t : PT} (h : t.Inv 0 0) {P k A : Nat} {v : Int} (hk : k ≤ 128) (hr : rt P k) (hP : P < 2 ^ 128) (hg : t.get P k = none) : ((t.put P k v).drop P k).find A none = t.find A none := by
  rw [PT.find_list (PT.drop_inv (PT.put_inv (v := v) h hk hr (qt_lt hP) (Nat.zero_le _))), back_list h hk hr hP hg, ← PT.find_list h]
theorem back_get {t : PT} (h : t.Inv 0 0) {P k : Nat} {v : Int} (hk : k ≤ 128) (hr : rt P k) (hP : P < 2 ^ 128) : (t.put P k v).get P k = some v :=
  (PT.get_mem (PT.put_inv (v := v) h hk hr (qt_lt hP) (Nat.zero_le _)) hk hr v).2 ((PT.put_mem h hk hr _).2 (.inl rfl))
theorem back_none {t : PT} (h : t.Inv 0 0) {P k : Nat} {v : Int} (hk : k ≤ 128) (hr : rt P k) (hP : P < 2 ^ 128) (hg : t.get P k = none) : ((t.put P k v).drop P k).get P k = none := by
  rw [PT.get_list (PT.drop_inv (PT.put_inv (v := v) h hk hr (qt_lt hP) (Nat.zero_le _))), back_list h hk hr hP hg, ← PT.get_list h, hg]
theorem back_len {t : PT} (h : t.Inv 0 0) {P k : Nat} {v : Int} (hk : k ≤ 128) (hr : rt P k) (hP : P < 2 ^ 128) (hg : t.get P k = none) : (t.put P k v).list.length = t.list.length + 1 := by
  rw [PT.put_list h hk hr hP, putL_len (PT.sorted h), ← PT.get_list h, hg]; rfl
theorem put_len_le {t : PT} (h : t.Inv 0 0) {P k : Nat} {v : Int} (hk : k ≤ 128) (hr : rt P k) (hP : P < 2 ^ 128) : (t.put P k v).list.length ≤ t.list.length + 1 := by
  rw [PT.put_list h hk hr hP, putL_len (PT.sorted h)]
  split <;> omega
end Go.Proofs.YtoobiaifogackaaGreatDoor
