/-
  Layer 8: the document's lists, and that a trie's list is theirs.
-/
import Derived.Test.YtoobiaifogackaaGreatDoorTriB
namespace Go.Proofs.YtoobiaifogackaaGreatDoor
open Go.RowKit


def En.key (x : En) (P : Nat) (k : Int) : Bool := decide (x.W = P ∧ (x.n : Int) = k)
def befB (e x : En) : Bool := decide (e.W < x.W ∨ (e.W = x.W ∧ e.n < x.n))
theorem befB_iff {e x : En} : befB e x = true ↔ e.lt x := by unfold befB En.lt; rw [decide_eq_true_iff]
def dropL (l : List En) (P : Nat) (k : Int) : List En := l.filter fun x => !x.key P k
def getL : List En → Nat → Int → Option Int
  | [], _, _ => none
  | x :: l, P, k => if x.key P k = true then some x.v else getL l P k
def insL (e : En) : List En → List En
  | [] => [e]
  | x :: l => if befB e x = true then e :: x :: l else x :: insL e l
def putL (l : List En) (P k : Nat) (v : Int) : List En := insL ⟨P, k, v⟩ (dropL l P k)
/-- the longest so far -/
def bestL (A : Nat) : List En → Option En → Option En
  | [], acc => acc
  | x :: l, acc => bestL A l (if pHasB x.W x.n A = true ∧ (∀ y, acc = some y → y.n < x.n) then some x else acc)

theorem key_iff {x : En} {P k : Nat} : x.key P k = true ↔ x.W = P ∧ x.n = k := by
  unfold En.key; rw [decide_eq_true_iff]; constructor <;> rintro ⟨a, b⟩ <;> exact ⟨a, by omega⟩
theorem mem_dropL {l : List En} {P k : Nat} {x : En} : x ∈ dropL l P k ↔ x ∈ l ∧ ¬ (x.W = P ∧ x.n = k) := by
  unfold dropL; rw [List.mem_filter, ← key_iff]; simp
theorem mem_insL {e : En} : ∀ {l : List En} {x : En}, x ∈ insL e l ↔ x = e ∨ x ∈ l
  | [], x => by simp [insL]
  | y :: l, x => by
    unfold insL
    by_cases c : befB e y = true
    · rw [if_pos c]; simp
    · rw [if_neg c, List.mem_cons, mem_insL, List.mem_cons]
      constructor
      · rintro (h | h | h)
        · exact .inr (.inl h)
        · exact .inl h
        · exact .inr (.inr h)
      · rintro (h | h | h)
        · exact .inr (.inl h)
        · exact .inl h
        · exact .inr (.inr h)
theorem insL_len (e : En) : ∀ l : List En, (insL e l).length = l.length + 1
  | [] => rfl
  | y :: l => by
    unfold insL
    split
    · simp
    · simp [insL_len e l]
theorem lt_or {e x : En} (h : ¬ (x.W = e.W ∧ x.n = e.n)) (h2 : ¬ e.lt x) : x.lt e := by unfold En.lt at *; omega
theorem insL_sorted {e : En} : ∀ {l : List En}, l.Pairwise En.lt → (∀ x ∈ l, ¬ (x.W = e.W ∧ x.n = e.n)) → (insL e l).Pairwise En.lt
  | [], _, _ => List.pairwise_singleton _ _
  | y :: l, h, hn => by
    rw [List.pairwise_cons] at h
    unfold insL
    by_cases c : befB e y = true
    · rw [if_pos c]
      refine List.Pairwise.cons (fun x hx => ?_) (List.pairwise_cons.2 h)
      rcases List.mem_cons.1 hx with g | g
      · rw [g]; exact befB_iff.1 c
      · exact En.lt_trans (befB_iff.1 c) (h.1 x g)
    · rw [if_neg c]
      refine List.Pairwise.cons (fun x hx => ?_) (insL_sorted h.2 (fun x hx => hn x (List.mem_cons_of_mem _ hx)))
      rcases mem_insL.1 hx with g | g
      · rw [g]; exact lt_or (hn y (List.mem_cons_self ..)) (fun q => c (befB_iff.2 q))
      · exact h.1 x g
theorem dropL_sorted {l : List En} (h : l.Pairwise En.lt) (P : Nat) (k : Int) : (dropL l P k).Pairwise En.lt := h.filter _
theorem putL_sorted {l : List En} (h : l.Pairwise En.lt) (P k : Nat) (v : Int) : (putL l P k v).Pairwise En.lt :=
  insL_sorted (dropL_sorted h P k) (fun _ hx => (mem_dropL.1 hx).2)

theorem PT.put_list {t : PT} (h : t.Inv 0 0) {P k : Nat} {v : Int} (hk : k ≤ 128) (hp : rt P k) (hP : P < 2 ^ 128) : (t.put P k v).list = putL t.list P k v :=
  sorted_eq (PT.sorted (PT.put_inv h hk hp (qt_lt hP) (Nat.zero_le _))) (putL_sorted (PT.sorted h) P k v)
    (fun x => by rw [PT.put_mem h hk hp x, putL, mem_insL, mem_dropL])
theorem PT.drop_list {t : PT} (h : t.Inv 0 0) {P k : Nat} {v : Int} (hk : k ≤ 128) (hp : rt P k) (hm : (⟨P, k, v⟩ : En) ∈ t.list) : (t.drop P k).list = dropL t.list P k :=
  sorted_eq (PT.sorted (PT.drop_inv h)) (dropL_sorted (PT.sorted h) P k) (fun x => by rw [PT.drop_mem h hk hp hm x, mem_dropL])

theorem getL_mem {P : Nat} {k : Int} : ∀ {l : List En} {v : Int}, getL l P k = some v → ∃ x ∈ l, x.key P k = true ∧ x.v = v
  | [], _, h => by cases h
  | x :: l, v, h => by
    unfold getL at h
    by_cases c : x.key P k = true
    · rw [if_pos c] at h; exact ⟨x, List.mem_cons_self .., c, Option.some.inj h⟩
    · rw [if_neg c] at h
      obtain ⟨y, hy, g⟩ := getL_mem h
      exact ⟨y, List.mem_cons_of_mem _ hy, g⟩
theorem getL_none {P : Nat} {k : Int} : ∀ {l : List En}, getL l P k = none → ∀ x ∈ l, x.key P k = false
  | [], _, x, hx => by cases hx
  | y :: l, h, x, hx => by
    unfold getL at h
    by_cases c : y.key P k = true
    · rw [if_pos c] at h; cases h
    · rw [if_neg c] at h
      rcases List.mem_cons.1 hx with g | g
      · rw [g]; simpa using c
      · exact getL_none h x g
theorem getL_of {l : List En} (hs : l.Pairwise En.lt) {x : En} (hx : x ∈ l) : getL l x.W x.n = some x.v := by
  cases e : getL l x.W x.n with
  | none => have := getL_none e x hx; rw [key_iff.2 ⟨rfl, rfl⟩] at this; cases this
  | some v =>
    obtain ⟨y, hy, g, rfl⟩ := getL_mem e
    obtain ⟨g1, g2⟩ := key_iff.1 g
    rw [key_one hs hy hx g1 g2]
theorem PT.get_list {t : PT} (h : t.Inv 0 0) (P : Nat) (k : Int) : t.get P k = getL t.list P k := by
  cases hr : pRightB P k with
  | false =>
    rw [PT.get_wrong h hr]
    cases e : getL t.list P k with
    | none => rfl
    | some v =>
      obtain ⟨x, hx, g, _⟩ := getL_mem e
      unfold En.key at g
      rw [decide_eq_true_iff] at g
      have := PT.right h hx
      rw [← g.1, ← g.2, pRightB_nat.2 this] at hr
      cases hr
  | true =>
    have h0 : 0 ≤ k := by unfold pRightB at hr; rw [decide_eq_true_iff] at hr; exact hr.1
    obtain ⟨n, rfl⟩ := Int.eq_ofNat_of_zero_le h0
    obtain ⟨r1, r2⟩ := pRightB_nat.1 hr
    have hm := PT.get_mem h r1 r2
    cases e : getL t.list P (n : Int) with
    | none =>
      cases e2 : t.get P (n : Int) with
      | none => rfl
      | some v => have := getL_none e _ ((hm v).1 e2); rw [key_iff.2 ⟨rfl, rfl⟩] at this; cases this
    | some v =>
      obtain ⟨x, hx, g, rfl⟩ := getL_mem e
      obtain ⟨rfl, rfl⟩ := key_iff.1 g
      exact (hm x.v).2 hx

theorem dropL_none {l : List En} {P : Nat} {k : Int} (h : getL l P k = none) : dropL l P k = l := by
  unfold dropL
  rw [List.filter_eq_self]
  intro x hx
  rw [getL_none h x hx]; rfl
theorem dropL_len : ∀ {l : List En}, l.Pairwise En.lt → ∀ {P k : Nat} {v : Int}, getL l P k = some v → (dropL l P k).length + 1 = l.length
  | [], _, _, _, _, h => by cases h
  | x :: l, hs, P, k, v, h => by
    rw [List.pairwise_cons] at hs
    unfold getL at h
    by_cases c : x.key P k = true
    · have hn : getL l P k = none := by
        cases e : getL l P k with
        | none => rfl
        | some u =>
          obtain ⟨y, hy, g, _⟩ := getL_mem e
          have g1 := key_iff.1 g
          have g2 := key_iff.1 c
          have := hs.1 y hy
          unfold En.lt at this; omega
      have := dropL_none hn
      unfold dropL at this ⊢
      rw [List.filter_cons, c]; simp [this]
    · rw [if_neg c] at h
      have ih := dropL_len hs.2 h
      have c' : x.key P k = false := by simpa using c
      unfold dropL at ih ⊢
      rw [List.filter_cons, c']; simp; exact ih
theorem putL_len {l : List En} (hs : l.Pairwise En.lt) (P k : Nat) (v : Int) : (putL l P k v).length = if (getL l P k).isSome = true then l.length else l.length + 1 := by
  unfold putL
  rw [insL_len]
  cases e : getL l P k with
  | none => simp [dropL_none e]
  | some u => simp [dropL_len hs e]
theorem dropL_short {l : List En} (hs : l.Pairwise En.lt) (P k : Nat) : decide ((dropL l P k).length < l.length) = (getL l P k).isSome := by
  cases e : getL l P k with
  | none => rw [dropL_none e]; simp
  | some u => have := dropL_len hs e; simp; omega

theorem bestL_is {A : Nat} : ∀ {l : List En} {acc : Option En}, (∀ y, acc = some y → pHasB y.W y.n A = true) →
    (∀ y, bestL A l acc = some y → (acc = some y ∨ y ∈ l) ∧ pHasB y.W y.n A = true ∧ (∀ x ∈ l, pHasB x.W x.n A = true → x.n ≤ y.n) ∧ (∀ x, acc = some x → x.n ≤ y.n)) ∧ (bestL A l acc = none → acc = none ∧ ∀ x ∈ l, pHasB x.W x.n A = false)
  | [], acc, h => ⟨fun y e => ⟨.inl e, h y e, (fun x hx => by cases hx), fun x g => by rw [show acc = some y from e] at g; cases g; exact Nat.le_refl _⟩, fun e => ⟨e, (fun x hx => by cases hx)⟩⟩
  | x :: l, acc, h => by
    unfold bestL
    by_cases c : pHasB x.W x.n A = true ∧ (∀ y, acc = some y → y.n < x.n)
    · rw [if_pos c]
      obtain ⟨i1, i2⟩ := bestL_is (l := l) (acc := some x) (fun y e => by cases e; exact c.1)
      refine ⟨fun y e => ?_, fun e => ?_⟩
      · obtain ⟨a, b, d, f⟩ := i1 y e
        have fx := f x rfl
        refine ⟨.inr ?_, b, fun z hz hA => ?_, fun z hz => ?_⟩
        · rcases a with a | a
          · cases a; exact List.mem_cons_self ..
          · exact List.mem_cons_of_mem _ a
        · rcases List.mem_cons.1 hz with g | g
          · rw [g]; exact fx
          · exact d z g hA
        · have := c.2 z hz; omega
      · have := (i2 e).1; cases this
    · rw [if_neg c]
      obtain ⟨i1, i2⟩ := bestL_is (l := l) (acc := acc) h
      refine ⟨fun y e => ?_, fun e => ?_⟩
      · obtain ⟨a, b, d, f⟩ := i1 y e
        refine ⟨a.imp id (fun g => List.mem_cons_of_mem _ g), b, fun z hz hA => ?_, f⟩
        rcases List.mem_cons.1 hz with g | g
        · subst g
          rcases Classical.em (∃ y, acc = some y ∧ ¬ y.n < z.n) with ⟨w, hw, hn⟩ | q
          · have := f w hw; omega
          · exact absurd ⟨hA, fun y hy => Classical.byContradiction fun hn => q ⟨y, hy, hn⟩⟩ c
        · exact d z g hA
      · obtain ⟨a, b⟩ := i2 e
        refine ⟨a, fun z hz => ?_⟩
        rcases List.mem_cons.1 hz with g | g
        · subst g
          cases hA : pHasB z.W z.n A with
          | false => rfl
          | true => exact absurd ⟨hA, fun y hy => by rw [a] at hy; cases hy⟩ c
        · exact b z g
theorem PT.find_list {t : PT} (h : t.Inv 0 0) (A : Nat) : t.find A none = bestL A t.list none := by
  obtain ⟨i1, i2⟩ := bestL_is (A := A) (l := t.list) (acc := none) (fun y e => by cases e)
  cases e : bestL A t.list none with
  | none =>
    cases e2 : t.find A none with
    | none => rfl
    | some y =>
      obtain ⟨a, b, _⟩ := PT.find_some h e2
      have := (i2 e).2 y a
      rw [(PT.has_iff h a A).2 b] at this; cases this
  | some y =>
    obtain ⟨a, b, c, _⟩ := i1 y e
    have hm : y ∈ t.list := by rcases a with a | a; cases a; exact a
    rw [PT.find_iff h]
    exact ⟨hm, (PT.has_iff h hm A).1 b, fun x hx hA => c x hx ((PT.has_iff h hx A).2 hA)⟩
end Go.Proofs.YtoobiaifogackaaGreatDoor
