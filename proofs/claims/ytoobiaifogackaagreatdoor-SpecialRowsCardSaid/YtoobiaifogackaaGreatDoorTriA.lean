/-
  Layer 8: tries as trees of numbers: what is held, in its order; put, drop, get, find.
-/
import Derived.Test.YtoobiaifogackaaGreatDoorPreA
namespace Go.Proofs.YtoobiaifogackaaGreatDoor
open Go.RowKit


/-- the n highest bits -/
def qt (X n : Nat) : Nat := X / 2 ^ (128 - n)
def bitZ (W : Nat) (i : Int) : Int := if 0 ≤ i ∧ i < 128 then (bitW W i.toNat : Int) else 0
def pRightB (W : Nat) (n : Int) : Bool := decide (0 ≤ n ∧ n ≤ 128 ∧ W % 2 ^ (128 - n.toNat) = 0)
def pHasB (P : Nat) (n : Int) (A : Nat) : Bool := pRightB P n && decide (qt P n.toNat = qt A n.toNat)
def coversB (P : Nat) (n : Int) (Q : Nat) (m : Int) : Bool := pRightB P n && (pRightB Q m && (decide (n ≤ m) && decide (qt P n.toNat = qt Q n.toNat)))

theorem qt_succ (X n : Nat) (h : n < 128) : qt X (n + 1) = 2 * qt X n + bitW X n := bit_step X n h
theorem qt_lt {X : Nat} (h : X < 2 ^ 128) : qt X 0 = 0 := Nat.div_eq_of_lt h
theorem qt_zero {X : Nat} (h : qt X 0 = 0) : X < 2 ^ 128 := by
  have h' : X / 2 ^ 128 = 0 := h
  rcases Nat.div_eq_zero_iff.1 h' with h2 | h2
  · exact absurd h2 (by decide)
  · exact h2
theorem qt_short {P A n m : Nat} (hn : n ≤ m) (hm : m ≤ 128) (h : qt P m = qt A m) : qt P n = qt A n := div_short hn hm h
theorem bitZ_nat (W n : Nat) (h : n < 128) : bitZ W n = bitW W n := by
  unfold bitZ; rw [if_pos ⟨by omega, by omega⟩]; simp
theorem bitZ_end (W : Nat) : bitZ W (128 : Nat) = 0 := by unfold bitZ; rw [if_neg (by omega)]
theorem bitZ_two (W : Nat) (i : Int) : bitZ W i = 0 ∨ bitZ W i = 1 := by
  unfold bitZ; split
  · rcases bitW_two W i.toNat with h | h <;> rw [h] <;> simp
  · exact .inl rfl

def rt (W n : Nat) : Prop := W % 2 ^ (128 - n) = 0
theorem rt_eq {W n : Nat} (h : rt W n) : W = qt W n * 2 ^ (128 - n) := by
  unfold rt at h; unfold qt
  have := Nat.div_add_mod W (2 ^ (128 - n))
  rw [h, Nat.add_zero, Nat.mul_comm] at this
  exact this.symm
theorem rt_same {W P n : Nat} (h : rt W n) (h2 : rt P n) (e : qt W n = qt P n) : W = P := by rw [rt_eq h, rt_eq h2, e]
theorem rt_le {W X n : Nat} (h : rt W n) (e : qt W n = qt X n) : W ≤ X := by
  rw [rt_eq h, e]; exact Nat.div_mul_le_self _ _
theorem lt_of_qt {X Y n : Nat} (h : qt X n < qt Y n) : X < Y := by
  rcases Nat.lt_or_ge X Y with h1 | h1
  · exact h1
  · have := Nat.div_le_div_right (c := 2 ^ (128 - n)) h1
    unfold qt at h; omega
theorem pRightB_nat {W n : Nat} : pRightB W n = true ↔ n ≤ 128 ∧ rt W n := by
  unfold pRightB rt; rw [decide_eq_true_iff]
  constructor
  · rintro ⟨_, h2, h3⟩; exact ⟨by omega, by simpa using h3⟩
  · rintro ⟨h2, h3⟩; exact ⟨by omega, by omega, by simpa using h3⟩
theorem pHasB_nat {P n A : Nat} : pHasB P n A = true ↔ (n ≤ 128 ∧ rt P n) ∧ qt P n = qt A n := by
  unfold pHasB; rw [Bool.and_eq_true, pRightB_nat, decide_eq_true_iff]; simp
theorem coversB_nat {P n Q m : Nat} : coversB P n Q m = true ↔ (n ≤ 128 ∧ rt P n) ∧ (m ≤ 128 ∧ rt Q m) ∧ n ≤ m ∧ qt P n = qt Q n := by
  unfold coversB; rw [Bool.and_eq_true, Bool.and_eq_true, Bool.and_eq_true, pRightB_nat, pRightB_nat, decide_eq_true_iff, decide_eq_true_iff]; simp
theorem rt_of (X n : Nat) : rt (ofW X n) n := Nat.mul_mod_left _ _
theorem qt_of (X n : Nat) : qt (ofW X n) n = qt X n := ofW_div X n

structure En where
  W : Nat
  n : Nat
  v : Int
deriving DecidableEq
def En.lt (x y : En) : Prop := x.W < y.W ∨ (x.W = y.W ∧ x.n < y.n)

inductive PT where
  | nil
  | node (W n : Nat) (v : Int) (h : Bool) (l r : PT)
def PT.list : PT → List En
  | .nil => []
  | .node W n v h l r => (if h = true then [⟨W, n, v⟩] else []) ++ (l.list ++ r.list)
def PT.Inv : PT → Nat → Nat → Prop
  | .nil, _, _ => True
  | .node W n _ h l r, Q, k => (k ≤ n ∧ n ≤ 128 ∧ rt W n ∧ qt W k = Q) ∧ l.Inv (2 * qt W n) (n + 1) ∧ r.Inv (2 * qt W n + 1) (n + 1) ∧ (h = false → l ≠ .nil ∧ r ≠ .nil)

theorem PT.mem_node {x : En} {W n : Nat} {v : Int} {h : Bool} {l r : PT} : x ∈ (PT.node W n v h l r).list ↔ (h = true ∧ x = ⟨W, n, v⟩) ∨ x ∈ l.list ∨ x ∈ r.list := by
  cases h <;> simp [PT.list]

theorem PT.bounds : ∀ {t : PT} {Q k : Nat}, t.Inv Q k → ∀ x ∈ t.list, k ≤ x.n ∧ x.n ≤ 128 ∧ rt x.W x.n ∧ qt x.W k = Q
  | .nil, _, _, _, x, hx => by cases hx
  | .node W n v h l r, Q, k, ⟨⟨h1, h2, h3, h4⟩, hl, hr, _⟩, x, hx => by
    rcases PT.mem_node.1 hx with ⟨_, rfl⟩ | hx | hx
    · exact ⟨h1, h2, h3, h4⟩
    · obtain ⟨a, b, c, d⟩ := PT.bounds hl x hx
      have := qt_succ x.W n (by omega)
      have hb := bitW_two x.W n
      have e : qt x.W n = qt W n := by omega
      exact ⟨by omega, b, c, by rw [qt_short h1 h2 e]; exact h4⟩
    · obtain ⟨a, b, c, d⟩ := PT.bounds hr x hx
      have := qt_succ x.W n (by omega)
      have hb := bitW_two x.W n
      have e : qt x.W n = qt W n := by omega
      exact ⟨by omega, b, c, by rw [qt_short h1 h2 e]; exact h4⟩
/-- what lies on a side -/
theorem PT.side {t : PT} {q n b : Nat} (h : t.Inv (2 * q + b) (n + 1)) (hb : b < 2) {x : En} (hx : x ∈ t.list) : n < x.n ∧ x.n ≤ 128 ∧ rt x.W x.n ∧ qt x.W n = q ∧ bitW x.W n = b ∧ qt x.W (n + 1) = 2 * q + b := by
  obtain ⟨a, b', c, d⟩ := PT.bounds h x hx
  have := qt_succ x.W n (by omega)
  have hb := bitW_two x.W n
  exact ⟨by omega, b', c, by omega, by omega, d⟩
theorem PT.sorted : ∀ {t : PT} {Q k : Nat}, t.Inv Q k → t.list.Pairwise En.lt
  | .nil, _, _, _ => List.Pairwise.nil
  | .node W n v h l r, Q, k, ⟨⟨h1, h2, h3, h4⟩, hl, hr, _⟩ => by
    have hl' : l.Inv (2 * qt W n + 0) (n + 1) := hl
    have key : (l.list ++ r.list).Pairwise En.lt := by
      rw [List.pairwise_append]
      refine ⟨PT.sorted hl, PT.sorted hr, fun x hx y hy => ?_⟩
      have a := PT.side hl' (by omega) hx
      have b := PT.side hr (by omega) hy
      exact .inl (lt_of_qt (n := n + 1) (by omega))
    show ((if h = true then [(⟨W, n, v⟩ : En)] else []) ++ (l.list ++ r.list)).Pairwise En.lt
    cases h with
    | false => exact key
    | true =>
      refine List.Pairwise.cons (fun x hx => ?_) key
      have : n < x.n ∧ qt x.W n = qt W n := by
        rcases List.mem_append.1 (show x ∈ l.list ++ r.list by simpa using hx) with hx | hx
        · have a := PT.side hl' (by omega) hx; exact ⟨a.1, a.2.2.2.1⟩
        · have a := PT.side hr (by omega) hx; exact ⟨a.1, a.2.2.2.1⟩
      have hle := rt_le h3 this.2.symm
      rcases Nat.lt_or_ge W x.W with h5 | h5
      · exact .inl h5
      · exact .inr ⟨by show W = x.W; omega, this.1⟩

theorem En.lt_irrefl (x : En) : ¬ x.lt x := by unfold En.lt; omega
theorem En.lt_trans {x y z : En} (h : x.lt y) (h2 : y.lt z) : x.lt z := by unfold En.lt at *; omega
/-- two rising lists with the same members are one -/
theorem sorted_eq : ∀ {a b : List En}, a.Pairwise En.lt → b.Pairwise En.lt → (∀ x, x ∈ a ↔ x ∈ b) → a = b
  | [], [], _, _, _ => rfl
  | [], y :: b, _, _, h => by have := (h y).2 (List.mem_cons_self ..); cases this
  | x :: a, [], _, _, h => by have := (h x).1 (List.mem_cons_self ..); cases this
  | x :: a, y :: b, ha, hb, h => by
    rw [List.pairwise_cons] at ha hb
    have e : x = y := by
      rcases List.mem_cons.1 ((h x).1 (List.mem_cons_self ..)) with e | e
      · exact e
      · rcases List.mem_cons.1 ((h y).2 (List.mem_cons_self ..)) with e' | e'
        · exact e'.symm
        · exact absurd (En.lt_trans (ha.1 y e') (hb.1 x e)) (En.lt_irrefl x)
    subst e
    rw [sorted_eq ha.2 hb.2 (fun z => ⟨fun hz => ?_, fun hz => ?_⟩)]
    · rcases List.mem_cons.1 ((h z).1 (List.mem_cons_of_mem _ hz)) with e | e
      · subst e; exact absurd (ha.1 z hz) (En.lt_irrefl z)
      · exact e
    · rcases List.mem_cons.1 ((h z).2 (List.mem_cons_of_mem _ hz)) with e | e
      · subst e; exact absurd (hb.1 z hz) (En.lt_irrefl z)
      · exact e
/-- of a key there is one entry -/
theorem key_one {l : List En} (h : l.Pairwise En.lt) {x y : En} (hx : x ∈ l) (hy : y ∈ l) (e1 : x.W = y.W) (e2 : x.n = y.n) : x = y := by
  induction h with
  | nil => cases hx
  | cons ha _ ih =>
    rcases List.mem_cons.1 hx with gx | gx
    · rcases List.mem_cons.1 hy with gy | gy
      · rw [gx, gy]
      · have := ha y gy; rw [← gx] at this; unfold En.lt at this; omega
    · rcases List.mem_cons.1 hy with gy | gy
      · have := ha x gx; rw [← gy] at this; unfold En.lt at this; omega
      · exact ih gx gy

/-- the verdict -/
def PT.get : PT → Nat → Int → Option Int
  | .nil, _, _ => none
  | .node W n v h l r, P, k => if W = P ∧ (n : Int) = k then (if h = true then some v else none)
    else if coversB W n P k = true then (if bitZ P n = 0 then l.get P k else r.get P k) else none

theorem PT.get_mem : ∀ {t : PT} {Q k0 : Nat}, t.Inv Q k0 → ∀ {P k : Nat}, k ≤ 128 → rt P k → ∀ v, t.get P k = some v ↔ (⟨P, k, v⟩ : En) ∈ t.list
  | .nil, _, _, _, P, k, _, _, v => by simp [PT.get, PT.list]
  | .node W n u h l r, Q, k0, ⟨⟨h1, h2, h3, h4⟩, hl, hr, _⟩, P, k, hk, hp, v => by
    have hl' : l.Inv (2 * qt W n + 0) (n + 1) := hl
    rw [PT.mem_node]
    unfold PT.get
    by_cases e : W = P ∧ (n : Int) = k
    · rw [if_pos e]
      have nl : (⟨P, k, v⟩ : En) ∉ l.list := fun hx => by have := (PT.side hl' (by omega) hx).1; simp at this; omega
      have nr : (⟨P, k, v⟩ : En) ∉ r.list := fun hx => by have := (PT.side hr (by omega) hx).1; simp at this; omega
      obtain ⟨rfl, e2⟩ := e
      have e2 : n = k := by omega
      subst e2
      cases h with
      | false => simp [nl, nr]
      | true => simp [nl, nr, eq_comm]
    · rw [if_neg e]
      have nx : ¬ (h = true ∧ (⟨P, k, v⟩ : En) = ⟨W, n, u⟩) := by
        rintro ⟨_, e2⟩
        injection e2 with a b _
        exact e ⟨a.symm, by omega⟩
      by_cases c : coversB W n P k = true
      · rw [if_pos c]
        have cc := coversB_nat.1 c
        have c1 := cc.2.2.1
        have c2 := cc.2.2.2
        have hlt : n < k := by
          rcases Nat.lt_or_ge n k with g | g
          · exact g
          · have : n = k := by omega
            subst this
            exact absurd ⟨rt_same h3 hp c2, rfl⟩ e
        rw [bitZ_nat P n (by omega)]
        have hb := bitW_two P n
        by_cases b0 : (bitW P n : Int) = 0
        · rw [if_pos b0, PT.get_mem hl hk hp v]
          have nr : (⟨P, k, v⟩ : En) ∉ r.list := fun hx => by have := (PT.side hr (by omega) hx).2.2.2.2.1; simp at this; omega
          constructor
          · exact fun g => .inr (.inl g)
          · rintro (g | g | g)
            · exact absurd g nx
            · exact g
            · exact absurd g nr
        · rw [if_neg b0, PT.get_mem hr hk hp v]
          have nl : (⟨P, k, v⟩ : En) ∉ l.list := fun hx => by have := (PT.side hl' (by omega) hx).2.2.2.2.1; simp at this; omega
          constructor
          · exact fun g => .inr (.inr g)
          · rintro (g | g | g)
            · exact absurd g nx
            · exact absurd g nl
            · exact g
      · rw [if_neg c]
        constructor
        · intro g; cases g
        · rintro (g | g | g)
          · exact absurd g nx
          · obtain ⟨a1, a2, a3, a4, _⟩ := PT.side hl' (by omega) g
            exact absurd (coversB_nat.2 ⟨⟨h2, h3⟩, ⟨hk, hp⟩, by simp at a1; omega, a4.symm⟩) c
          · obtain ⟨a1, a2, a3, a4, _⟩ := PT.side hr (by omega) g
            exact absurd (coversB_nat.2 ⟨⟨h2, h3⟩, ⟨hk, hp⟩, by simp at a1; omega, a4.symm⟩) c
theorem PT.get_wrong : ∀ {t : PT} {Q k0 : Nat}, t.Inv Q k0 → ∀ {P : Nat} {k : Int}, pRightB P k = false → t.get P k = none
  | .nil, _, _, _, _, _, _ => rfl
  | .node W n u h l r, Q, k0, ⟨⟨h1, h2, h3, h4⟩, hl, hr, _⟩, P, k, hp => by
    unfold PT.get
    rw [if_neg (fun e => by obtain ⟨rfl, rfl⟩ := e; rw [pRightB_nat.2 ⟨h2, h3⟩] at hp; cases hp), if_neg (by unfold coversB; rw [hp]; simp)]

/-- how many highest bits two numbers share, from i on, at most f -/
def commonGo (W P : Nat) : Nat → Nat → Nat
  | i, 0 => i
  | i, f + 1 => if bitW W i = bitW P i then commonGo W P (i + 1) f else i
def common (W n P k : Nat) : Nat := commonGo W P 0 (min n k)
theorem commonGo_is (W P : Nat) : ∀ (f i : Nat), i ≤ commonGo W P i f ∧ commonGo W P i f ≤ i + f ∧ (∀ j, i ≤ j → j < commonGo W P i f → bitW W j = bitW P j) ∧ (commonGo W P i f = i + f ∨ bitW W (commonGo W P i f) ≠ bitW P (commonGo W P i f))
  | 0, i => ⟨Nat.le_refl _, Nat.le_refl _, fun j h1 h2 => by unfold commonGo at h2; omega, .inl rfl⟩
  | f + 1, i => by
    unfold commonGo
    by_cases h : bitW W i = bitW P i
    · rw [if_pos h]
      obtain ⟨a, b, c, d⟩ := commonGo_is W P f (i + 1)
      refine ⟨by omega, by omega, fun j h1 h2 => ?_, d.imp (fun e => by omega) id⟩
      rcases Nat.lt_or_ge i j with g | g
      · exact c j g h2
      · rw [show j = i from by omega]; exact h
    · rw [if_neg h]
      exact ⟨Nat.le_refl _, by omega, fun j h1 h2 => by omega, .inr h⟩
theorem qt_of_bits {W P : Nat} (hw : qt W 0 = qt P 0) : ∀ m, m ≤ 128 → (∀ j, j < m → bitW W j = bitW P j) → qt W m = qt P m
  | 0, _, _ => hw
  | m + 1, hm, h => by rw [qt_succ W m (by omega), qt_succ P m (by omega), qt_of_bits hw m (by omega) (fun j hj => h j (by omega)), h m (by omega)]
theorem common_is {W n P k : Nat} (hw : qt W 0 = qt P 0) (hn : n ≤ 128) (hk : k ≤ 128) :
    common W n P k ≤ n ∧ common W n P k ≤ k ∧ qt W (common W n P k) = qt P (common W n P k) ∧ (common W n P k = n ∨ common W n P k = k ∨ bitW W (common W n P k) ≠ bitW P (common W n P k)) := by
  obtain ⟨a, b, c, d⟩ := commonGo_is W P (min n k) 0
  unfold common
  refine ⟨by omega, by omega, qt_of_bits hw _ (by omega) (fun j hj => c j (by omega) hj), ?_⟩
  rcases d with d | d
  · omega
  · exact .inr (.inr d)

/-- a prefix is laid in -/
def PT.leaf (P k : Nat) (v : Int) : PT := .node P k v true .nil .nil
def PT.put : PT → Nat → Nat → Int → PT
  | .nil, P, k, v => .leaf P k v
  | .node W n u h l r, P, k, v =>
    if W = P ∧ n = k then .node W n v true l r
    else if coversB W n P k = true then (if bitZ P n = 0 then .node W n u h (l.put P k v) r else .node W n u h l (r.put P k v))
    else if common W n P k = k then (if bitZ W k = 0 then .node P k v true (.node W n u h l r) .nil else .node P k v true .nil (.node W n u h l r))
    else if bitZ W (common W n P k) = 0 then .node (ofW P (common W n P k)) (common W n P k) 0 false (.node W n u h l r) (.leaf P k v)
    else .node (ofW P (common W n P k)) (common W n P k) 0 false (.leaf P k v) (.node W n u h l r)

/-- where a node does not cover what is laid in, they part ahead of it -/
theorem part_is {W n P k : Nat} (hw : qt W 0 = qt P 0) (hn : n ≤ 128) (hr : rt W n) (hk : k ≤ 128) (hp : rt P k) (c : ¬ coversB W n P k = true) :
    common W n P k < n ∧ common W n P k ≤ k ∧ qt W (common W n P k) = qt P (common W n P k) ∧ (common W n P k < k → bitW W (common W n P k) ≠ bitW P (common W n P k)) := by
  obtain ⟨a, b, d, f⟩ := common_is (n := n) (k := k) hw hn hk
  have hlt : common W n P k < n := by
    rcases Nat.lt_or_ge (common W n P k) n with g | g
    · exact g
    · have e1 : common W n P k = n := by omega
      rw [e1] at d b
      exact absurd (coversB_nat.2 ⟨⟨hn, hr⟩, ⟨hk, hp⟩, b, d⟩) c
  exact ⟨hlt, b, d, fun g => by
    rcases f with f | f | f
    · omega
    · omega
    · exact f⟩

theorem PT.put_ne : ∀ {t : PT} {P k : Nat} {v : Int}, t.put P k v ≠ .nil
  | .nil, _, _, _ => by unfold PT.put PT.leaf; intro h; cases h
  | .node W n u h l r, P, k, v => by
    unfold PT.put
    intro g
    split at g
    · cases g
    · split at g
      · split at g <;> cases g
      · split at g
        · split at g <;> cases g
        · split at g <;> cases g

theorem PT.put_inv : ∀ {t : PT} {Q k0 : Nat}, t.Inv Q k0 → ∀ {P k : Nat} {v : Int}, k ≤ 128 → rt P k → qt P k0 = Q → k0 ≤ k → (t.put P k v).Inv Q k0
  | .nil, Q, k0, _, P, k, v, hk, hp, hq, h0 => by
    exact ⟨⟨h0, hk, hp, hq⟩, trivial, trivial, fun h => by cases h⟩
  | .node W n u h l r, Q, k0, ⟨⟨h1, h2, h3, h4⟩, hl, hr, hh⟩, P, k, v, hk, hp, hq, h0 => by
    have hw : qt W 0 = qt P 0 := qt_short (Nat.zero_le k0) (by omega) (h4.trans hq.symm)
    unfold PT.put
    by_cases e : W = P ∧ n = k
    · rw [if_pos e]
      exact ⟨⟨h1, h2, h3, h4⟩, hl, hr, fun h => by cases h⟩
    rw [if_neg e]
    by_cases c : coversB W n P k = true
    · rw [if_pos c]
      have cc := coversB_nat.1 c
      have c1 := cc.2.2.1
      have c2 := cc.2.2.2
      have hlt : n < k := by
        rcases Nat.lt_or_ge n k with g | g
        · exact g
        · have : n = k := by omega
          subst this
          exact absurd ⟨rt_same h3 hp c2, rfl⟩ e
      rw [bitZ_nat P n (by omega)]
      have hs := qt_succ P n (by omega)
      have hb := bitW_two P n
      by_cases b0 : (bitW P n : Int) = 0
      · rw [if_pos b0]
        exact ⟨⟨h1, h2, h3, h4⟩, PT.put_inv hl hk hp (by omega) hlt, hr, fun g => ⟨PT.put_ne, (hh g).2⟩⟩
      · rw [if_neg b0]
        exact ⟨⟨h1, h2, h3, h4⟩, hl, PT.put_inv hr hk hp (by omega) hlt, fun g => ⟨(hh g).1, PT.put_ne⟩⟩
    · rw [if_neg c]
      obtain ⟨p1, p2, p3, p4⟩ := part_is hw h2 h3 hk hp c
      have hm0 : k0 ≤ common W n P k := by
        rcases Nat.lt_or_ge (common W n P k) k with g | g
        · rcases Nat.lt_or_ge (common W n P k) k0 with g2 | g2
          · have e1 := qt_short (show common W n P k + 1 ≤ k0 by omega) (by omega) (h4.trans hq.symm)
            rw [qt_succ W _ (by omega), qt_succ P _ (by omega), p3] at e1
            exact absurd (by omega) (p4 g)
          · exact g2
        · omega
      have hs := qt_succ W (common W n P k) (by omega)
      have hb := bitW_two W (common W n P k)
      have hs2 := qt_succ P (common W n P k)
      have hb2 := bitW_two P (common W n P k)
      have hc : (common W n P k : Int) < 128 := by omega
      have hz := bitZ_nat W (common W n P k) (by omega)
      have hof : qt (ofW P (common W n P k)) k0 = Q := (ofW_short P k0 (common W n P k) hm0 (by omega)).trans hq
      by_cases e2 : common W n P k = k
      · rw [if_pos e2]
        rw [e2] at hs hb p3 hz p1
        rw [hz]
        by_cases b0 : (bitW W k : Int) = 0
        · rw [if_pos b0]
          exact ⟨⟨h0, hk, hp, hq⟩, ⟨⟨by omega, h2, h3, by omega⟩, hl, hr, hh⟩, trivial, fun h => by cases h⟩
        · rw [if_neg b0]
          exact ⟨⟨h0, hk, hp, hq⟩, trivial, ⟨⟨by omega, h2, h3, by omega⟩, hl, hr, hh⟩, fun h => by cases h⟩
      · rw [if_neg e2, hz]
        have p5 := p4 (by omega)
        have hs3 := hs2 (by omega)
        by_cases b0 : (bitW W (common W n P k) : Int) = 0
        · rw [if_pos b0]
          refine ⟨⟨hm0, by omega, rt_of _ _, hof⟩, ⟨⟨by omega, h2, h3, by rw [qt_of]; omega⟩, hl, hr, hh⟩, ⟨⟨by omega, hk, hp, by rw [qt_of]; omega⟩, trivial, trivial, fun h => by cases h⟩, fun _ => ⟨(fun h => by cases h), (fun h => by cases h)⟩⟩
        · rw [if_neg b0]
          refine ⟨⟨hm0, by omega, rt_of _ _, hof⟩, ⟨⟨by omega, hk, hp, by rw [qt_of]; omega⟩, trivial, trivial, fun h => by cases h⟩, ⟨⟨by omega, h2, h3, by rw [qt_of]; omega⟩, hl, hr, hh⟩, fun _ => ⟨(fun h => by cases h), (fun h => by cases h)⟩⟩

theorem PT.mem_leaf {x : En} {P k : Nat} {v : Int} : x ∈ (PT.leaf P k v).list ↔ x = ⟨P, k, v⟩ := by simp [PT.leaf, PT.list]
theorem PT.put_mem : ∀ {t : PT} {Q k0 : Nat}, t.Inv Q k0 → ∀ {P k : Nat} {v : Int}, k ≤ 128 → rt P k → ∀ x, x ∈ (t.put P k v).list ↔ x = ⟨P, k, v⟩ ∨ (x ∈ t.list ∧ ¬ (x.W = P ∧ x.n = k))
  | .nil, _, _, _, P, k, v, _, _, x => by
    unfold PT.put; rw [PT.mem_leaf]; simp [PT.list]
  | .node W n u h l r, Q, k0, hi, P, k, v, hk, hp, x => by
    obtain ⟨⟨h1, h2, h3, h4⟩, hl, hr, hh⟩ := id hi
    have hl' : l.Inv (2 * qt W n + 0) (n + 1) := hl
    have kl : ∀ y ∈ l.list, ¬ (y.W = W ∧ y.n = n) := fun y hy g => by have := (PT.side hl' (by omega) hy).1; omega
    have kr : ∀ y ∈ r.list, ¬ (y.W = W ∧ y.n = n) := fun y hy g => by have := (PT.side hr (by omega) hy).1; omega
    have gm := PT.get_mem hi hk hp
    unfold PT.put
    by_cases e : W = P ∧ n = k
    · rw [if_pos e, PT.mem_node, PT.mem_node]
      obtain ⟨rfl, rfl⟩ := e
      constructor
      · rintro (⟨_, g⟩ | g | g)
        · exact .inl g
        · exact .inr ⟨.inr (.inl g), kl x g⟩
        · exact .inr ⟨.inr (.inr g), kr x g⟩
      · rintro (g | ⟨⟨_, g⟩ | g | g, g2⟩)
        · exact .inl ⟨rfl, g⟩
        · rw [g] at g2; exact absurd ⟨rfl, rfl⟩ g2
        · exact .inr (.inl g)
        · exact .inr (.inr g)
    rw [if_neg e]
    by_cases c : coversB W n P k = true
    · rw [if_pos c]
      have cc := coversB_nat.1 c
      have c1 := cc.2.2.1
      have c2 := cc.2.2.2
      have hlt : n < k := by
        rcases Nat.lt_or_ge n k with g | g
        · exact g
        · have : n = k := by omega
          subst this
          exact absurd ⟨rt_same h3 hp c2, rfl⟩ e
      rw [bitZ_nat P n (by omega)]
      have hb := bitW_two P n
      have nx : ∀ {y : En}, y = ⟨W, n, u⟩ → ¬ (y.W = P ∧ y.n = k) := fun {y} g g2 => by rw [g] at g2; exact e g2
      by_cases b0 : (bitW P n : Int) = 0
      · rw [if_pos b0, PT.mem_node, PT.mem_node, PT.put_mem hl hk hp x]
        have nr : ∀ y ∈ r.list, ¬ (y.W = P ∧ y.n = k) := fun y hy g => by have := (PT.side hr (by omega) hy).2.2.2.2.1; rw [g.1] at this; omega
        constructor
        · rintro (⟨g1, g⟩ | (g | ⟨g, g2⟩) | g)
          · exact .inr ⟨.inl ⟨g1, g⟩, nx g⟩
          · exact .inl g
          · exact .inr ⟨.inr (.inl g), g2⟩
          · exact .inr ⟨.inr (.inr g), nr x g⟩
        · rintro (g | ⟨⟨g1, g⟩ | g | g, g2⟩)
          · exact .inr (.inl (.inl g))
          · exact .inl ⟨g1, g⟩
          · exact .inr (.inl (.inr ⟨g, g2⟩))
          · exact .inr (.inr g)
      · rw [if_neg b0, PT.mem_node, PT.mem_node, PT.put_mem hr hk hp x]
        have nl : ∀ y ∈ l.list, ¬ (y.W = P ∧ y.n = k) := fun y hy g => by have := (PT.side hl' (by omega) hy).2.2.2.2.1; rw [g.1] at this; omega
        constructor
        · rintro (⟨g1, g⟩ | g | (g | ⟨g, g2⟩))
          · exact .inr ⟨.inl ⟨g1, g⟩, nx g⟩
          · exact .inr ⟨.inr (.inl g), nl x g⟩
          · exact .inl g
          · exact .inr ⟨.inr (.inr g), g2⟩
        · rintro (g | ⟨⟨g1, g⟩ | g | g, g2⟩)
          · exact .inr (.inr (.inl g))
          · exact .inl ⟨g1, g⟩
          · exact .inr (.inl g)
          · exact .inr (.inr (.inr ⟨g, g2⟩))
    · rw [if_neg c]
      have none : ∀ y ∈ (PT.node W n u h l r).list, ¬ (y.W = P ∧ y.n = k) := fun y hy g => by
        have := (gm y.v).2 (by rw [← g.1, ← g.2]; exact hy)
        unfold PT.get at this
        rw [if_neg (fun q => e ⟨q.1, by omega⟩), if_neg c] at this
        cases this
      have key : x ∈ (PT.node W n u h l r).list ↔ (x ∈ (PT.node W n u h l r).list ∧ ¬ (x.W = P ∧ x.n = k)) := ⟨fun g => ⟨g, none x g⟩, fun g => g.1⟩
      rw [← key]
      by_cases e2 : common W n P k = k
      · rw [if_pos e2]
        split
        · rw [PT.mem_node (h := true)]; simp [PT.list]
        · rw [PT.mem_node (h := true)]; simp [PT.list]
      · rw [if_neg e2]
        split
        · rw [PT.mem_node (h := false), PT.mem_leaf]; simp [or_comm]
        · rw [PT.mem_node (h := false), PT.mem_leaf]; simp
end Go.Proofs.YtoobiaifogackaaGreatDoor
