/-
  Layer 9: the table in memory, whoever laid it; what is told of it.
-/
import Derived.Test.YtoobiaifogackaaGreatDoorSpcA
import Derived.Test.YtoobiaifogackaaGreatDoorPreN
namespace Go.Proofs.YtoobiaifogackaaGreatDoor
open Go.RowKit


def cells9 (x : R9) : List Value := [.int .u64 (hiN x.W : Nat), .int .u64 (loN x.W : Nat), .int .i64 (x.n : Nat), .string ⟨x.s.toArray⟩]
/-- the table's cells -/
def flat9 : Array Value := (T9L.flatMap cells9).toArray
theorem flat9_at : ∀ (l : List R9) (j : Nat) (x : R9), l[j]? = some x → ∀ i, i < 4 → (l.flatMap cells9)[j * 4 + i]? = (cells9 x)[i]?
  | [], j, x, h, i, hi => by simp at h
  | y :: l, 0, x, h, i, hi => by
    simp only [List.getElem?_cons_zero, Option.some.injEq] at h
    subst h
    rw [List.flatMap_cons, List.getElem?_append_left (by simp [cells9]; omega)]
    simp
  | y :: l, j + 1, x, h, i, hi => by
    rw [List.flatMap_cons, List.getElem?_append_right (by simp [cells9]; omega), show (j + 1) * 4 + i - (cells9 y).length = j * 4 + i from by simp [cells9]; omega]
    exact flat9_at l j x (by simpa using h) i hi
/-- the table in memory, at a block -/
theorem tab_at {W : World} {b : Nat} {t : TypeId} (h : W.heap[b]? = some (.cells flat9 t)) {j : Nat} {x : R9} (hx : T9[j]? = some x) :
    W.cell? ⟨b, j * 4, none⟩ = some (.int .u64 (hiN x.W : Nat)) ∧ W.cell? ⟨b, j * 4 + 1, none⟩ = some (.int .u64 (loN x.W : Nat)) ∧ W.cell? ⟨b, j * 4 + 2, none⟩ = some (.int .i64 (x.n : Nat)) ∧ W.cell? ⟨b, j * 4 + 3, none⟩ = some (.string ⟨x.s.toArray⟩) := by
  have g : ∀ i u, i < 4 → (cells9 x)[i]? = some u → W.cell? ⟨b, j * 4 + i, none⟩ = some u := fun i u hi hu => by
    have q : flat9[j * 4 + i]? = some u := by
      unfold flat9
      rw [← T9_is, List.getElem?_toArray, flat9_at T9 j x hx i hi, hu]
    simp [World.cell?, h, q]
  exact ⟨g 0 _ (by omega) rfl, g 1 _ (by omega) rfl, g 2 _ (by omega) rfl, g 3 _ (by omega) rfl⟩
theorem Blks.q4 {L : List (Nat × Array Value × TypeId)} {W : World} (h : Blks L W) {b : Nat} {c0 c1 c2 c3 : Value} {t : TypeId} (hm : (b, #[c0, c1, c2, c3], t) ∈ L) :
    b < W.heap.size ∧ W.cell? ⟨b, 0, none⟩ = some c0 ∧ W.cell? ⟨b, 1, none⟩ = some c1 ∧ W.cell? ⟨b, 2, none⟩ = some c2 ∧ W.cell? ⟨b, 3, none⟩ = some c3 :=
  ⟨h.lt hm, cell_row (h _ hm) 0, cell_row (h _ hm) 1, cell_row (h _ hm) 2, cell_row (h _ hm) 3⟩
theorem Blks.fq4 {L : List (Nat × Array Value × TypeId)} {W : World} (h : Blks L W) {b : Nat} {c0 c1 c2 c3 : Value} {t : TypeId} (hm : (b, #[c0, c1, c2, c3], t) ∈ L) :
    W.frozen? ⟨b, 0, none⟩ = false ∧ W.frozen? ⟨b, 1, none⟩ = false ∧ W.frozen? ⟨b, 2, none⟩ = false ∧ W.frozen? ⟨b, 3, none⟩ = false :=
  ⟨frozen_row (h _ hm) 0, frozen_row (h _ hm) 1, frozen_row (h _ hm) 2, frozen_row (h _ hm) 3⟩
theorem set4_belowS {a w : World} (h : Below a.heap.size a w) {b : Nat} (hb : a.heap.size ≤ b) (x0 x1 x2 x3 : Value) : Below a.heap.size a ((((w.setCell ⟨b, 0, none⟩ x0).setCell ⟨b, 1, none⟩ x1).setCell ⟨b, 2, none⟩ x2).setCell ⟨b, 3, none⟩ x3) :=
  (((h.setCell (p := ⟨b, 0, none⟩) hb x0).setCell (p := ⟨b, 1, none⟩) hb x1).setCell (p := ⟨b, 2, none⟩) hb x2).setCell (p := ⟨b, 3, none⟩) hb x3
theorem set4_rowS {w : World} {b : Nat} {c0 c1 c2 c3 : Value} {t : TypeId} (h : w.heap[b]? = some (.cells #[c0, c1, c2, c3] t)) (x0 x1 x2 x3 : Value) : ((((w.setCell ⟨b, 0, none⟩ x0).setCell ⟨b, 1, none⟩ x1).setCell ⟨b, 2, none⟩ x2).setCell ⟨b, 3, none⟩ x3).heap[b]? = some (.cells #[x0, x1, x2, x3] t) :=
  set_row (set_row (set_row (set_row h 0 x0) 1 x1) 2 x2) 3 x3
theorem T9_in {j : Nat} {x : R9} (h : T9[j]? = some x) : x.n ≤ 128 ∧ rt x.W x.n ∧ x.W < 2 ^ 128 := T9_right x (List.mem_of_getElem? h)
theorem T9_get {j : Nat} (h : j < 27) : ∃ x, T9[j]? = some x := ⟨_, List.getElem?_eq_getElem (by rw [T9_len]; exact h)⟩

/-- the first that has an address -/
noncomputable def name9 (p : Nat → Nat → Bool) : Option R9 := T9.find? fun r => p r.W r.n
theorem find_here {p : R9 → Bool} : ∀ {l : List R9} {j : Nat} {x : R9}, l[j]? = some x → (∀ i y, i < j → l[i]? = some y → p y = false) → p x = true → l.find? p = some x
  | [], j, x, h, _, _ => by simp at h
  | y :: l, 0, x, h, _, hp => by
    simp only [List.getElem?_cons_zero, Option.some.injEq] at h
    subst h
    simp [List.find?, hp]
  | y :: l, j + 1, x, h, ho, hp => by
    have := ho 0 y (by omega) rfl
    simp only [List.find?, this]
    exact find_here (j := j) (by simpa using h) (fun i z hi hz => ho (i + 1) z (by omega) (by simpa using hz)) hp
theorem find_not {p : R9 → Bool} {l : List R9} (h : ∀ i y, i < l.length → l[i]? = some y → p y = false) : l.find? p = none := by
  rw [List.find?_eq_none]
  intro x hx
  obtain ⟨i, hi, e⟩ := List.getElem_of_mem hx
  rw [h i x hi (by rw [List.getElem?_eq_getElem hi, e])]
  simp
def nameV : Option R9 → Value
  | none => .tuple #[.string ⟨#[]⟩, .bool false]
  | some r => .tuple #[.string ⟨r.s.toArray⟩, .bool true]

/-- the table, put with one verdict -/
noncomputable def lay9 (v : Int) (t : PT) : PT := T9.foldl (fun t r => t.put r.W r.n v) t
noncomputable def layTo (v : Int) (j : Nat) (t : PT) : PT := (T9.take j).foldl (fun t r => t.put r.W r.n v) t
theorem layTo_succ {v : Int} {j : Nat} {t : PT} {x : R9} (h : T9[j]? = some x) : layTo v (j + 1) t = (layTo v j t).put x.W x.n v := by
  unfold layTo
  rw [List.take_add_one, h, List.foldl_append]; rfl
theorem layTo_end (v : Int) (t : PT) : layTo v 27 t = lay9 v t := by
  unfold layTo lay9; rw [List.take_of_length_le (by rw [T9_len]; exact Nat.le_refl _)]
theorem layTo_inv {v : Int} {t : PT} (h : t.Inv 0 0) : ∀ j, (layTo v j t).Inv 0 0 := fun j => by
  induction j with
  | zero => exact h
  | succ j ih =>
    cases e : T9[j]? with
    | none => unfold layTo at ih ⊢; rw [List.take_add_one, e]; simpa using ih
    | some x =>
      rw [layTo_succ e]
      obtain ⟨h1, h2, h3⟩ := T9_in e
      exact PT.put_inv ih h1 h2 (qt_lt h3) (Nat.zero_le _)
theorem layTo_list {v : Int} {t : PT} (h : t.Inv 0 0) {j : Nat} {x : R9} (e : T9[j]? = some x) : (layTo v (j + 1) t).list = putL (layTo v j t).list x.W x.n v := by
  rw [layTo_succ e]
  obtain ⟨h1, h2, h3⟩ := T9_in e
  exact PT.put_list (layTo_inv h j) h1 h2 h3
theorem putL_le {l : List En} (hs : l.Pairwise En.lt) (P k : Nat) (v : Int) : (putL l P k v).length ≤ l.length + 1 := by
  rw [putL_len hs]; split <;> omega
theorem layTo_len {v : Int} {t : PT} (h : t.Inv 0 0) : ∀ j, (layTo v j t).list.length ≤ t.list.length + j := fun j => by
  induction j with
  | zero => exact Nat.le_refl _
  | succ j ih =>
    cases e : T9[j]? with
    | none => unfold layTo at ih ⊢; rw [List.take_add_one, e]; simp at ih ⊢; omega
    | some x =>
      rw [layTo_list h e]
      have := putL_le (PT.sorted (layTo_inv (v := v) h j)) x.W x.n v
      omega
theorem lay9_len (v : Int) : (lay9 v .nil).list.length = 27 := by unfold lay9; rw [T9_is]; kernel_rfl
theorem mem_layTo {v : Int} {t : PT} (h : t.Inv 0 0) {x : En} : ∀ j, x ∈ (layTo v j t).list ↔ (∃ i r, i < j ∧ T9[i]? = some r ∧ x = ⟨r.W, r.n, v⟩) ∨ (x ∈ t.list ∧ ∀ i r, i < j → T9[i]? = some r → ¬ (x.W = r.W ∧ x.n = r.n)) := fun j => by
  induction j with
  | zero => exact ⟨fun q => .inr ⟨q, fun i r hi => absurd hi (Nat.not_lt_zero _)⟩, fun q => by rcases q with ⟨i, r, hi, _⟩ | q; exact absurd hi (Nat.not_lt_zero _); exact q.1⟩
  | succ j ih =>
    cases e : T9[j]? with
    | none =>
      have e2 : layTo v (j + 1) t = layTo v j t := by unfold layTo; rw [List.take_add_one, e]; simp
      rw [e2, ih]
      constructor
      · rintro (⟨i, r, hi, q⟩ | ⟨q, q2⟩)
        · exact .inl ⟨i, r, by omega, q⟩
        · refine .inr ⟨q, fun i r hi hr => ?_⟩
          by_cases c : i < j
          · exact q2 i r c hr
          · rw [show i = j from by omega, e] at hr; cases hr
      · rintro (⟨i, r, hi, q⟩ | ⟨q, q2⟩)
        · refine .inl ⟨i, r, ?_, q⟩
          by_cases c : i < j
          · exact c
          · rw [show i = j from by omega, e] at q; cases q.1
        · exact .inr ⟨q, fun i r hi hr => q2 i r (by omega) hr⟩
    | some y =>
      rw [layTo_list h e, mem_putL, ih]
      constructor
      · rintro (q | ⟨⟨i, r, hi, q⟩ | ⟨q, q2⟩, q3⟩)
        · exact .inl ⟨j, y, by omega, e, q⟩
        · exact .inl ⟨i, r, by omega, q⟩
        · refine .inr ⟨q, fun i r hi hr => ?_⟩
          by_cases c : i < j
          · exact q2 i r c hr
          · rw [show i = j from by omega, e] at hr
            injection hr with hr
            rw [← hr]; exact q3
      · rintro (⟨i, r, hi, hr, q⟩ | ⟨q, q2⟩)
        · by_cases c : x.W = y.W ∧ x.n = y.n
          · left
            rw [q] at c ⊢
            simp only at c
            rw [c.1, c.2]
          · refine .inr ⟨.inl ⟨i, r, ?_, hr, q⟩, c⟩
            by_cases d : i < j
            · exact d
            · exfalso
              rw [show i = j from by omega, e] at hr
              injection hr with hr
              rw [q, ← hr] at c
              exact c ⟨rfl, rfl⟩
        · exact .inr ⟨.inr ⟨q, fun i r hi hr => q2 i r (by omega) hr⟩, q2 j y (by omega) e⟩
theorem nil_inv : PT.nil.Inv 0 0 := trivial
theorem lay_inv {v : Int} {t : PT} (h : t.Inv 0 0) : (lay9 v t).Inv 0 0 := by
  have q := layTo_inv (v := v) h 27
  rwa [layTo_end v t] at q
theorem lay9_inv {v : Int} {t : PT} (ht : t = lay9 v .nil) : t.Inv 0 0 := ht ▸ lay_inv nil_inv
theorem lay9_mem {v : Int} {t : PT} (ht : t = lay9 v .nil) (x : En) : x ∈ t.list ↔ ∃ i r, i < 27 ∧ T9[i]? = some r ∧ x = ⟨r.W, r.n, v⟩ := by
  rw [ht, ← layTo_end, mem_layTo nil_inv]
  constructor
  · rintro (q | ⟨q, _⟩)
    · exact q
    · cases q
  · exact .inl
/-- found in the table that was laid is just what has a name -/
theorem lay9_none {v : Int} {t : PT} {A : Nat} (ht : t = lay9 v .nil) (hf : t.find A none = none) : name9 (fun W n => pHasB W n A) = none := by
  refine find_not (fun i y hl hy => ?_)
  cases hp : pHasB y.W y.n A with
  | false => exact hp
  | true =>
    exfalso
    exact PT.find_none (lay9_inv ht) hf ⟨y.W, y.n, v⟩ ((lay9_mem ht _).2 ⟨i, y, by rwa [T9_len] at hl, hy, rfl⟩) (pHasB_nat.1 hp).2
theorem lay9_some {v : Int} {t : PT} {A : Nat} {y : En} (ht : t = lay9 v .nil) (hf : t.find A none = some y) : (∃ r, name9 (fun W n => pHasB W n A) = some r) ∧ y.v = v ∧ y.W < 2 ^ 128 ∧ pHasB y.W y.n A = true := by
  obtain ⟨h1, h2, _⟩ := PT.find_some (lay9_inv ht) hf
  obtain ⟨_, c1, c2, _⟩ := PT.bounds (lay9_inv ht) y h1
  have hp : pHasB y.W y.n A = true := pHasB_nat.2 ⟨⟨c1, c2⟩, h2⟩
  obtain ⟨i, r, hl, hr, rfl⟩ := (lay9_mem ht y).1 h1
  refine ⟨?_, rfl, (T9_in hr).2.2, hp⟩
  cases hn : name9 (fun W n => pHasB W n A) with
  | some q => exact ⟨q, rfl⟩
  | none =>
    unfold name9 at hn
    rw [List.find?_eq_none] at hn
    exact absurd hp (hn r (List.mem_of_getElem? hr))
end Go.Proofs.YtoobiaifogackaaGreatDoor
