/-
  Layer 8: a prefix taken out; the longest one.
-/
import Derived.Test.YtoobiaifogackaaGreatDoorTriA
namespace Go.Proofs.YtoobiaifogackaaGreatDoor
open Go.RowKit


def PT.isNil : PT → Bool
  | .nil => true
  | .node .. => false
theorem PT.isNil_iff {t : PT} : t.isNil = true ↔ t = .nil := by cases t <;> simp [PT.isNil]
theorem PT.isNil_false {t : PT} : t.isNil = false ↔ t ≠ .nil := by cases t <;> simp [PT.isNil]
/-- the node that stays -/
def PT.join (W n : Nat) (u : Int) (h : Bool) (l r : PT) : PT :=
  if (h || (!l.isNil && !r.isNil)) = true then .node W n u h l r else if l.isNil = false then l else r
def PT.drop : PT → Nat → Nat → PT
  | .nil, _, _ => .nil
  | .node W n u h l r, P, k => if W = P ∧ n = k then PT.join W n 0 false l r else if bitZ P n = 0 then PT.join W n u h (l.drop P k) r else PT.join W n u h l (r.drop P k)

theorem PT.join_mem {x : En} {W n : Nat} {u : Int} {h : Bool} {l r : PT} : x ∈ (PT.join W n u h l r).list ↔ x ∈ (PT.node W n u h l r).list := by
  unfold PT.join
  cases h with
  | true => simp
  | false =>
    cases l with
    | nil => cases r <;> simp [PT.isNil, PT.list]
    | node => cases r <;> simp [PT.isNil, PT.list]
theorem PT.inv_up {t : PT} {W n b Q k0 : Nat} (hb : b < 2) (h : t.Inv (2 * qt W n + b) (n + 1)) (h1 : k0 ≤ n) (h2 : n ≤ 128) (h4 : qt W k0 = Q) : t.Inv Q k0 := by
  cases t with
  | nil => trivial
  | node W' n' u hd l r =>
    obtain ⟨⟨a, b', c, d⟩, e⟩ := h
    have := qt_succ W' n (by omega)
    have hb2 := bitW_two W' n
    exact ⟨⟨by omega, b', c, by rw [← h4]; exact qt_short h1 h2 (by omega)⟩, e⟩
theorem PT.join_inv {W n : Nat} {u : Int} {h : Bool} {l r : PT} {Q k0 : Nat} (h0 : k0 ≤ n ∧ n ≤ 128 ∧ rt W n ∧ qt W k0 = Q) (hl : l.Inv (2 * qt W n) (n + 1)) (hr : r.Inv (2 * qt W n + 1) (n + 1)) : (PT.join W n u h l r).Inv Q k0 := by
  have hl' : l.Inv (2 * qt W n + 0) (n + 1) := hl
  unfold PT.join
  by_cases c : (h || (!l.isNil && !r.isNil)) = true
  · rw [if_pos c]
    refine ⟨h0, hl, hr, fun g => ?_⟩
    rw [g] at c
    simp [PT.isNil_false] at c
    exact c
  · rw [if_neg c]
    split
    · exact PT.inv_up (by omega) hl' h0.1 h0.2.1 h0.2.2.2
    · exact PT.inv_up (by omega) hr h0.1 h0.2.1 h0.2.2.2
set_option maxRecDepth 20000 in
theorem PT.drop_inv : ∀ {t : PT} {Q k0 : Nat}, t.Inv Q k0 → ∀ {P k : Nat}, (t.drop P k).Inv Q k0
  | .nil, _, _, _, _, _ => trivial
  | .node W n u h l r, Q, k0, ⟨h0, hl, hr, hh⟩, P, k => by
    unfold PT.drop
    by_cases e : W = P ∧ n = k
    · rw [if_pos e]; exact PT.join_inv h0 hl hr
    · rw [if_neg e]
      by_cases b : bitZ P n = 0
      · rw [if_pos b]; exact PT.join_inv h0 (PT.drop_inv hl) hr
      · rw [if_neg b]; exact PT.join_inv h0 hl (PT.drop_inv hr)
theorem PT.drop_mem : ∀ {t : PT} {Q k0 : Nat}, t.Inv Q k0 → ∀ {P k : Nat} {v : Int}, k ≤ 128 → rt P k → (⟨P, k, v⟩ : En) ∈ t.list → ∀ x, x ∈ (t.drop P k).list ↔ x ∈ t.list ∧ ¬ (x.W = P ∧ x.n = k)
  | .nil, _, _, _, P, k, v, _, _, hm, x => by cases hm
  | .node W n u h l r, Q, k0, ⟨⟨h1, h2, h3, h4⟩, hl, hr, hh⟩, P, k, v, hk, hp, hm, x => by
    have hl' : l.Inv (2 * qt W n + 0) (n + 1) := hl
    have kl : ∀ y ∈ l.list, ¬ (y.W = W ∧ y.n = n) := fun y hy g => by have := (PT.side hl' (by omega) hy).1; omega
    have kr : ∀ y ∈ r.list, ¬ (y.W = W ∧ y.n = n) := fun y hy g => by have := (PT.side hr (by omega) hy).1; omega
    unfold PT.drop
    by_cases e : W = P ∧ n = k
    · rw [if_pos e, PT.join_mem, PT.mem_node, PT.mem_node]
      obtain ⟨rfl, rfl⟩ := e
      constructor
      · rintro (⟨g, _⟩ | g | g)
        · cases g
        · exact ⟨.inr (.inl g), kl x g⟩
        · exact ⟨.inr (.inr g), kr x g⟩
      · rintro ⟨⟨_, g⟩ | g | g, g2⟩
        · rw [g] at g2; exact absurd ⟨rfl, rfl⟩ g2
        · exact .inr (.inl g)
        · exact .inr (.inr g)
    rw [if_neg e]
    have nx : ∀ {y : En}, y = ⟨W, n, u⟩ → ¬ (y.W = P ∧ y.n = k) := fun {y} g g2 => by rw [g] at g2; exact e g2
    have hm2 : (⟨P, k, v⟩ : En) ∈ l.list ∨ (⟨P, k, v⟩ : En) ∈ r.list := by
      rcases PT.mem_node.1 hm with ⟨_, g⟩ | g
      · exact absurd ⟨rfl, rfl⟩ (nx g)
      · exact g
    have hlt : n < k := by
      rcases hm2 with g | g
      · exact (PT.side hl' (by omega) g).1
      · exact (PT.side hr (by omega) g).1
    rw [bitZ_nat P n (by omega)]
    have hb := bitW_two P n
    by_cases b0 : (bitW P n : Int) = 0
    · have nr : ∀ y ∈ r.list, ¬ (y.W = P ∧ y.n = k) := fun y hy g => by have := (PT.side hr (by omega) hy).2.2.2.2.1; rw [g.1] at this; omega
      have hm3 : (⟨P, k, v⟩ : En) ∈ l.list := hm2.resolve_right (fun g => nr _ g ⟨rfl, rfl⟩)
      rw [if_pos b0, PT.join_mem, PT.mem_node, PT.mem_node, PT.drop_mem hl hk hp hm3 x]
      constructor
      · rintro (⟨g1, g⟩ | ⟨g, g2⟩ | g)
        · exact ⟨.inl ⟨g1, g⟩, nx g⟩
        · exact ⟨.inr (.inl g), g2⟩
        · exact ⟨.inr (.inr g), nr x g⟩
      · rintro ⟨⟨g1, g⟩ | g | g, g2⟩
        · exact .inl ⟨g1, g⟩
        · exact .inr (.inl ⟨g, g2⟩)
        · exact .inr (.inr g)
    · have nl : ∀ y ∈ l.list, ¬ (y.W = P ∧ y.n = k) := fun y hy g => by have := (PT.side hl' (by omega) hy).2.2.2.2.1; rw [g.1] at this; omega
      have hm3 : (⟨P, k, v⟩ : En) ∈ r.list := hm2.resolve_left (fun g => nl _ g ⟨rfl, rfl⟩)
      rw [if_neg b0, PT.join_mem, PT.mem_node, PT.mem_node, PT.drop_mem hr hk hp hm3 x]
      constructor
      · rintro (⟨g1, g⟩ | g | ⟨g, g2⟩)
        · exact ⟨.inl ⟨g1, g⟩, nx g⟩
        · exact ⟨.inr (.inl g), nl x g⟩
        · exact ⟨.inr (.inr g), g2⟩
      · rintro ⟨⟨g1, g⟩ | g | g, g2⟩
        · exact .inl ⟨g1, g⟩
        · exact .inr (.inl g)
        · exact .inr (.inr ⟨g, g2⟩)

/-- the longest one, behind what was found above -/
def PT.find : PT → Nat → Option En → Option En
  | .nil, _, acc => acc
  | .node W n v h l r, A, acc => if pHasB W n A = true then (if bitZ A n = 0 then l.find A (if h = true then some ⟨W, n, v⟩ else acc) else r.find A (if h = true then some ⟨W, n, v⟩ else acc)) else acc
def En.has (x : En) (A : Nat) : Prop := qt x.W x.n = qt A x.n
theorem PT.find_is : ∀ {t : PT} {Q k0 : Nat}, t.Inv Q k0 → ∀ (A : Nat) (acc : Option En),
    ((∃ x, x ∈ t.list ∧ x.has A) → ∃ y, t.find A acc = some y ∧ y ∈ t.list ∧ y.has A ∧ ∀ x ∈ t.list, x.has A → x.n ≤ y.n) ∧ ((∀ x ∈ t.list, ¬ x.has A) → t.find A acc = acc)
  | .nil, _, _, _, A, acc => ⟨(fun ⟨x, hx, _⟩ => by cases hx), fun _ => rfl⟩
  | .node W n u h l r, Q, k0, ⟨⟨h1, h2, h3, h4⟩, hl, hr, hh⟩, A, acc => by
    have hl' : l.Inv (2 * qt W n + 0) (n + 1) := hl
    have up : ∀ x, x ∈ l.list ∨ x ∈ r.list → x.has A → qt W n = qt A n ∧ n < 128 := fun x hx hA => by
      have : n < x.n ∧ x.n ≤ 128 ∧ qt x.W n = qt W n := by
        rcases hx with g | g
        · have a := PT.side hl' (by omega) g; exact ⟨a.1, a.2.1, a.2.2.2.1⟩
        · have a := PT.side hr (by omega) g; exact ⟨a.1, a.2.1, a.2.2.2.1⟩
      have e := qt_short (n := n) (by omega) this.2.1 hA
      exact ⟨by omega, by omega⟩
    unfold PT.find
    by_cases c : pHasB W n A = true
    · rw [if_pos c]
      have c2 := (pHasB_nat.1 c).2
      have nl : ∀ b, bitW A n = b → b ≠ 0 → ∀ y ∈ l.list, ¬ y.has A := fun b e hb y hy g => by
        have a := PT.side hl' (by omega) hy
        have e1 := qt_short (n := n + 1) (by omega) a.2.1 g
        have e2 := qt_succ A n (by omega)
        omega
      have nr : bitW A n ≠ 1 → ∀ y ∈ r.list, ¬ y.has A := fun hb y hy g => by
        have a := PT.side hr (by omega) hy
        have e1 := qt_short (n := n + 1) (by omega) a.2.1 g
        have e2 := qt_succ A n (by omega)
        have e3 := bitW_two A n
        omega
      have nl1 : bitW A n ≠ 0 → ∀ y ∈ l.list, ¬ y.has A := fun hb => nl _ rfl hb
      have hb2 := bitW_two A n
      -- on one side alone there may be some
      have main : ∀ (s o : PT), (∀ y, y ∈ (PT.node W n u h l r).list ↔ (h = true ∧ y = ⟨W, n, u⟩) ∨ y ∈ s.list ∨ y ∈ o.list) → (∀ y ∈ o.list, ¬ y.has A) → (∀ y ∈ s.list, n < y.n) →
          (∀ acc, ((∃ x, x ∈ s.list ∧ x.has A) → ∃ y, s.find A acc = some y ∧ y ∈ s.list ∧ y.has A ∧ ∀ x ∈ s.list, x.has A → x.n ≤ y.n) ∧ ((∀ x ∈ s.list, ¬ x.has A) → s.find A acc = acc)) →
          ((∃ x, x ∈ (PT.node W n u h l r).list ∧ x.has A) → ∃ y, s.find A (if h = true then some ⟨W, n, u⟩ else acc) = some y ∧ y ∈ (PT.node W n u h l r).list ∧ y.has A ∧ ∀ x ∈ (PT.node W n u h l r).list, x.has A → x.n ≤ y.n) ∧
          ((∀ x ∈ (PT.node W n u h l r).list, ¬ x.has A) → s.find A (if h = true then some ⟨W, n, u⟩ else acc) = acc) := by
        intro s o hm ho hs ih
        obtain ⟨i1, i2⟩ := ih (if h = true then some ⟨W, n, u⟩ else acc)
        by_cases g : ∃ x, x ∈ s.list ∧ x.has A
        · obtain ⟨y, y1, y2, y3, y4⟩ := i1 g
          refine ⟨fun _ => ⟨y, y1, (hm y).2 (.inr (.inl y2)), y3, fun x hx hA => ?_⟩, fun q => absurd y3 (q y ((hm y).2 (.inr (.inl y2))))⟩
          rcases (hm x).1 hx with ⟨_, e⟩ | e | e
          · rw [e]; exact Nat.le_of_lt (hs y y2)
          · exact y4 x e hA
          · exact absurd hA (ho x e)
        · have g' : ∀ x ∈ s.list, ¬ x.has A := fun x hx hA => g ⟨x, hx, hA⟩
          rw [i2 g']
          cases h with
          | true =>
            have hmem : (⟨W, n, u⟩ : En) ∈ (PT.node W n u true l r).list := (hm _).2 (.inl ⟨rfl, rfl⟩)
            refine ⟨fun _ => ⟨⟨W, n, u⟩, if_pos rfl, hmem, c2, fun x hx hA => ?_⟩, fun q => absurd c2 (q _ hmem)⟩
            rcases (hm x).1 hx with ⟨_, e⟩ | e | e
            · rw [e]; exact Nat.le_refl _
            · exact absurd hA (g' x e)
            · exact absurd hA (ho x e)
          | false =>
            refine ⟨fun ⟨x, hx, hA⟩ => ?_, fun _ => if_neg (by simp)⟩
            rcases (hm x).1 hx with ⟨e, _⟩ | e | e
            · cases e
            · exact absurd hA (g' x e)
            · exact absurd hA (ho x e)
      have sl : ∀ y ∈ l.list, n < y.n := fun y hy => (PT.side hl' (by omega) hy).1
      have sr : ∀ y ∈ r.list, n < y.n := fun y hy => (PT.side hr (by omega) hy).1
      have ml : ∀ y, y ∈ (PT.node W n u h l r).list ↔ (h = true ∧ y = ⟨W, n, u⟩) ∨ y ∈ l.list ∨ y ∈ r.list := fun y => PT.mem_node
      have mr : ∀ y, y ∈ (PT.node W n u h l r).list ↔ (h = true ∧ y = ⟨W, n, u⟩) ∨ y ∈ r.list ∨ y ∈ l.list := fun y => PT.mem_node.trans (by rw [or_comm (a := y ∈ l.list)])
      by_cases hn : n < 128
      · rw [bitZ_nat A n hn]
        by_cases b0 : (bitW A n : Int) = 0
        · rw [if_pos b0]
          exact main l r ml (nr (by omega)) sl (PT.find_is hl A)
        · rw [if_neg b0]
          exact main r l mr (nl1 (by omega)) sr (PT.find_is hr A)
      · have e128 : n = 128 := by omega
        subst e128
        rw [bitZ_end, if_pos rfl]
        exact main l r ml (fun y hy _ => by have a := PT.side hr (by omega) hy; omega) sl (PT.find_is hl A)
    · rw [if_neg c]
      refine ⟨fun ⟨x, hx, hA⟩ => ?_, fun _ => rfl⟩
      rcases PT.mem_node.1 hx with ⟨_, e⟩ | e
      · rw [e] at hA
        exact absurd (pHasB_nat.2 ⟨⟨h2, h3⟩, hA⟩) c
      · exact absurd (pHasB_nat.2 ⟨⟨h2, h3⟩, (up x e hA).1⟩) c

/-- of two that have an address, and are of the same length, there is one -/
theorem has_one {x y : En} {A : Nat} (hx : rt x.W x.n) (hy : rt y.W y.n) (ex : x.has A) (ey : y.has A) (e : x.n = y.n) : x.W = y.W := by
  unfold En.has at ex ey
  rw [e] at hx ex
  exact rt_same hx hy (ex.trans ey.symm)
theorem PT.right {t : PT} {Q k : Nat} (h : t.Inv Q k) {x : En} (hx : x ∈ t.list) : x.n ≤ 128 ∧ rt x.W x.n := by
  have := PT.bounds h x hx; exact ⟨this.2.1, this.2.2.1⟩
theorem PT.small {t : PT} (h : t.Inv 0 0) {x : En} (hx : x ∈ t.list) : x.W < 2 ^ 128 := qt_zero (PT.bounds h x hx).2.2.2
theorem PT.has_iff {t : PT} {Q k : Nat} (h : t.Inv Q k) {x : En} (hx : x ∈ t.list) (A : Nat) : pHasB x.W x.n A = true ↔ x.has A := by
  rw [pHasB_nat]; exact ⟨fun g => g.2, fun g => ⟨PT.right h hx, g⟩⟩
theorem PT.find_some {t : PT} {Q k : Nat} (h : t.Inv Q k) {A : Nat} {y : En} (e : t.find A none = some y) : y ∈ t.list ∧ y.has A ∧ ∀ x ∈ t.list, x.has A → x.n ≤ y.n := by
  obtain ⟨h1, h2⟩ := PT.find_is h A none
  by_cases g : ∃ x, x ∈ t.list ∧ x.has A
  · obtain ⟨z, z1, z2⟩ := h1 g
    rw [e] at z1; cases z1; exact z2
  · rw [h2 (fun x hx hA => g ⟨x, hx, hA⟩)] at e; cases e
theorem PT.find_none {t : PT} {Q k : Nat} (h : t.Inv Q k) {A : Nat} (e : t.find A none = none) : ∀ x ∈ t.list, ¬ x.has A := by
  obtain ⟨h1, _⟩ := PT.find_is h A none
  intro x hx hA
  obtain ⟨z, z1, _⟩ := h1 ⟨x, hx, hA⟩
  rw [e] at z1; cases z1
/-- what is found is said by the list alone -/
theorem PT.find_iff {t : PT} {Q k : Nat} (h : t.Inv Q k) {A : Nat} {y : En} : t.find A none = some y ↔ (y ∈ t.list ∧ y.has A ∧ ∀ x ∈ t.list, x.has A → x.n ≤ y.n) := by
  refine ⟨PT.find_some h, fun ⟨h1, h2, h3⟩ => ?_⟩
  obtain ⟨z, z1, z2, z3, z4⟩ := (PT.find_is h A none).1 ⟨y, h1, h2⟩
  have e : z.n = y.n := Nat.le_antisymm (h3 z z2 z3) (z4 y h1 h2)
  rw [z1, key_one (PT.sorted h) z2 h1 (has_one (PT.right h z2).2 (PT.right h h1).2 z3 h2 e) e]
end Go.Proofs.YtoobiaifogackaaGreatDoor
