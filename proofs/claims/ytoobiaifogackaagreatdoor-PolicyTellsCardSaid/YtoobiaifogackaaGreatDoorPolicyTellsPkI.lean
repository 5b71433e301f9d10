/-
  What the law PolicyTells leans on, and its walk (9 of 16).
-/
import Derived.Lib.ItoaLen
import Derived.Test.YtoobiaifogackaaGreatDoorPolicyTellsPkH
namespace Go.Proofs.YtoobiaifogackaaGreatDoor
section
open Go.RowKit
theorem drew_c {x W : World} (h : Below x.drew.heap.size x.drew W) : Below x.heap.size x W := (Below.refl _ _).drew.trans h
end

section
open Go.RowKit
/-- the listed blocks hold what is listed -/
def Blks (L : List (Nat × Array Value × TypeId)) (W : World) : Prop := ∀ e ∈ L, W.heap[e.1]? = some (.cells e.2.1 e.2.2)
theorem Blks.empty (W : World) : Blks [] W := fun e he => by cases he
theorem Blks.keep {L : List (Nat × Array Value × TypeId)} {x y : World} (h : Blks L x) (hb : Below x.heap.size x y) : Blks L y := fun e he => (hb.block e.1 (block_lt (h e he))).trans (h e he)
theorem Blks.new {L : List (Nat × Array Value × TypeId)} {x : World} (h : Blks L x) (c : Array Value) (t : TypeId) : Blks ((x.heap.size, c, t) :: L) (x.alloc (.cells c t)) := fun e he => by
  rcases List.mem_cons.1 he with g | g
  · rw [g]; exact Go.Deep.blk_alloc_new _ _
  · exact h.keep ((Below.refl _ _).alloc (Nat.le_refl _) _) e g
theorem Blks.lt {L : List (Nat × Array Value × TypeId)} {x : World} (h : Blks L x) {b : Nat} {c : Array Value} {t : TypeId} (hm : (b, c, t) ∈ L) : b < x.heap.size := block_lt (h _ hm)
theorem Blks.r3 {L : List (Nat × Array Value × TypeId)} {W : World} (h : Blks L W) {b : Nat} {x y z : Value} {t : TypeId} (hm : (b, #[x, y, z], t) ∈ L) :
    b < W.heap.size ∧ W.cell? ⟨b, 0, none⟩ = some x ∧ W.cell? ⟨b, 1, none⟩ = some y ∧ W.cell? ⟨b, 2, none⟩ = some z := ⟨h.lt hm, (row3 (h _ hm)).1⟩
theorem Blks.r2 {L : List (Nat × Array Value × TypeId)} {W : World} (h : Blks L W) {b : Nat} {x y : Value} {t : TypeId} (hm : (b, #[x, y], t) ∈ L) :
    b < W.heap.size ∧ W.cell? ⟨b, 0, none⟩ = some x ∧ W.cell? ⟨b, 1, none⟩ = some y := ⟨h.lt hm, cell_row (h _ hm) 0, cell_row (h _ hm) 1⟩
end

section
open Go.RowKit
def cells9 (x : R9) : List Value := [.int .u64 (hiN x.W : Nat), .int .u64 (loN x.W : Nat), .int .i64 (x.n : Nat), .string ⟨x.s.toArray⟩]
/-- the table's cells -/
def flat9 : Array Value := (T9L.flatMap cells9).toArray
theorem flat9_at : ∀ (l : List R9) (j : Nat) (x : R9), l[j]? = some x → ∀ i, i < 4 → (l.flatMap cells9)[j * 4 + i]? = (cells9 x)[i]?
  | [], j, x, h, i, hi => by simp at h
  | y :: l, 0, x, h, i, hi => by
    simp only [List.getElem?_cons_zero, Option.some.injEq] at h
    subst h
    rw [List.flatMap_cons, List.getElem?_append_left (by simp [cells9]; omega)]
    simp
  | y :: l, j + 1, x, h, i, hi => by
    rw [List.flatMap_cons, List.getElem?_append_right (by simp [cells9]; omega), show (j + 1) * 4 + i - (cells9 y).length = j * 4 + i from by simp [cells9]; omega]
    exact flat9_at l j x (by simpa using h) i hi
/-- the table in memory, at a block -/
theorem tab_at {W : World} {b : Nat} {t : TypeId} (h : W.heap[b]? = some (.cells flat9 t)) {j : Nat} {x : R9} (hx : T9[j]? = some x) :
    W.cell? ⟨b, j * 4, none⟩ = some (.int .u64 (hiN x.W : Nat)) ∧ W.cell? ⟨b, j * 4 + 1, none⟩ = some (.int .u64 (loN x.W : Nat)) ∧ W.cell? ⟨b, j * 4 + 2, none⟩ = some (.int .i64 (x.n : Nat)) ∧ W.cell? ⟨b, j * 4 + 3, none⟩ = some (.string ⟨x.s.toArray⟩) := by
  have g : ∀ i u, i < 4 → (cells9 x)[i]? = some u → W.cell? ⟨b, j * 4 + i, none⟩ = some u := fun i u hi hu => by
    have q : flat9[j * 4 + i]? = some u := by
      unfold flat9
      rw [← T9_is, List.getElem?_toArray, flat9_at T9 j x hx i hi, hu]
    simp [World.cell?, h, q]
  exact ⟨g 0 _ (by omega) rfl, g 1 _ (by omega) rfl, g 2 _ (by omega) rfl, g 3 _ (by omega) rfl⟩
theorem Blks.q4 {L : List (Nat × Array Value × TypeId)} {W : World} (h : Blks L W) {b : Nat} {c0 c1 c2 c3 : Value} {t : TypeId} (hm : (b, #[c0, c1, c2, c3], t) ∈ L) :
    b < W.heap.size ∧ W.cell? ⟨b, 0, none⟩ = some c0 ∧ W.cell? ⟨b, 1, none⟩ = some c1 ∧ W.cell? ⟨b, 2, none⟩ = some c2 ∧ W.cell? ⟨b, 3, none⟩ = some c3 :=
  ⟨h.lt hm, cell_row (h _ hm) 0, cell_row (h _ hm) 1, cell_row (h _ hm) 2, cell_row (h _ hm) 3⟩
theorem Blks.fq4 {L : List (Nat × Array Value × TypeId)} {W : World} (h : Blks L W) {b : Nat} {c0 c1 c2 c3 : Value} {t : TypeId} (hm : (b, #[c0, c1, c2, c3], t) ∈ L) :
    W.frozen? ⟨b, 0, none⟩ = false ∧ W.frozen? ⟨b, 1, none⟩ = false ∧ W.frozen? ⟨b, 2, none⟩ = false ∧ W.frozen? ⟨b, 3, none⟩ = false :=
  ⟨frozen_row (h _ hm) 0, frozen_row (h _ hm) 1, frozen_row (h _ hm) 2, frozen_row (h _ hm) 3⟩
theorem set4_belowS {a w : World} (h : Below a.heap.size a w) {b : Nat} (hb : a.heap.size ≤ b) (x0 x1 x2 x3 : Value) : Below a.heap.size a ((((w.setCell ⟨b, 0, none⟩ x0).setCell ⟨b, 1, none⟩ x1).setCell ⟨b, 2, none⟩ x2).setCell ⟨b, 3, none⟩ x3) :=
  (((h.setCell (p := ⟨b, 0, none⟩) hb x0).setCell (p := ⟨b, 1, none⟩) hb x1).setCell (p := ⟨b, 2, none⟩) hb x2).setCell (p := ⟨b, 3, none⟩) hb x3
theorem set4_rowS {w : World} {b : Nat} {c0 c1 c2 c3 : Value} {t : TypeId} (h : w.heap[b]? = some (.cells #[c0, c1, c2, c3] t)) (x0 x1 x2 x3 : Value) : ((((w.setCell ⟨b, 0, none⟩ x0).setCell ⟨b, 1, none⟩ x1).setCell ⟨b, 2, none⟩ x2).setCell ⟨b, 3, none⟩ x3).heap[b]? = some (.cells #[x0, x1, x2, x3] t) :=
  set_row (set_row (set_row (set_row h 0 x0) 1 x1) 2 x2) 3 x3
theorem T9_in {j : Nat} {x : R9} (h : T9[j]? = some x) : x.n ≤ 128 ∧ rt x.W x.n ∧ x.W < 2 ^ 128 := T9_right x (List.mem_of_getElem? h)
theorem T9_get {j : Nat} (h : j < 27) : ∃ x, T9[j]? = some x := ⟨_, List.getElem?_eq_getElem (by rw [T9_len]; exact h)⟩
/-- the first that has an address -/
noncomputable def name9 (p : Nat → Nat → Bool) : Option R9 := T9.find? fun r => p r.W r.n
theorem find_here {p : R9 → Bool} : ∀ {l : List R9} {j : Nat} {x : R9}, l[j]? = some x → (∀ i y, i < j → l[i]? = some y → p y = false) → p x = true → l.find? p = some x
  | [], j, x, h, _, _ => by simp at h
  | y :: l, 0, x, h, _, hp => by
    simp only [List.getElem?_cons_zero, Option.some.injEq] at h
    subst h
    simp [List.find?, hp]
  | y :: l, j + 1, x, h, ho, hp => by
    have := ho 0 y (by omega) rfl
    simp only [List.find?, this]
    exact find_here (j := j) (by simpa using h) (fun i z hi hz => ho (i + 1) z (by omega) (by simpa using hz)) hp
theorem find_not {p : R9 → Bool} {l : List R9} (h : ∀ i y, i < l.length → l[i]? = some y → p y = false) : l.find? p = none := by
  rw [List.find?_eq_none]
  intro x hx
  obtain ⟨i, hi, e⟩ := List.getElem_of_mem hx
  rw [h i x hi (by rw [List.getElem?_eq_getElem hi, e])]
  simp
def nameV : Option R9 → Value
  | none => .tuple #[.string ⟨#[]⟩, .bool false]
  | some r => .tuple #[.string ⟨r.s.toArray⟩, .bool true]
/-- the table, put with one verdict -/
noncomputable def lay9 (v : Int) (t : PT) : PT := T9.foldl (fun t r => t.put r.W r.n v) t
noncomputable def layTo (v : Int) (j : Nat) (t : PT) : PT := (T9.take j).foldl (fun t r => t.put r.W r.n v) t
theorem layTo_succ {v : Int} {j : Nat} {t : PT} {x : R9} (h : T9[j]? = some x) : layTo v (j + 1) t = (layTo v j t).put x.W x.n v := by
  unfold layTo
  rw [List.take_add_one, h, List.foldl_append]; rfl
theorem layTo_end (v : Int) (t : PT) : layTo v 27 t = lay9 v t := by
  unfold layTo lay9; rw [List.take_of_length_le (by rw [T9_len]; exact Nat.le_refl _)]
theorem layTo_inv {v : Int} {t : PT} (h : t.Inv 0 0) : ∀ j, (layTo v j t).Inv 0 0 := fun j => by
  induction j with
  | zero => exact h
  | succ j ih =>
    cases e : T9[j]? with
    | none => unfold layTo at ih ⊢; rw [List.take_add_one, e]; simpa using ih
    | some x =>
      rw [layTo_succ e]
      obtain ⟨h1, h2, h3⟩ := T9_in e
      exact PT.put_inv ih h1 h2 (qt_lt h3) (Nat.zero_le _)
theorem layTo_list {v : Int} {t : PT} (h : t.Inv 0 0) {j : Nat} {x : R9} (e : T9[j]? = some x) : (layTo v (j + 1) t).list = putL (layTo v j t).list x.W x.n v := by
  rw [layTo_succ e]
  obtain ⟨h1, h2, h3⟩ := T9_in e
  exact PT.put_list (layTo_inv h j) h1 h2 h3
theorem putL_le {l : List En} (hs : l.Pairwise En.lt) (P k : Nat) (v : Int) : (putL l P k v).length ≤ l.length + 1 := by
  rw [putL_len hs]; split <;> omega
theorem layTo_len {v : Int} {t : PT} (h : t.Inv 0 0) : ∀ j, (layTo v j t).list.length ≤ t.list.length + j := fun j => by
  induction j with
  | zero => exact Nat.le_refl _
  | succ j ih =>
    cases e : T9[j]? with
    | none => unfold layTo at ih ⊢; rw [List.take_add_one, e]; simp at ih ⊢; omega
    | some x =>
      rw [layTo_list h e]
      have := putL_le (PT.sorted (layTo_inv (v := v) h j)) x.W x.n v
      omega
theorem lay9_len (v : Int) : (lay9 v .nil).list.length = 27 := by unfold lay9; rw [T9_is]; kernel_rfl
theorem mem_layTo {v : Int} {t : PT} (h : t.Inv 0 0) {x : En} : ∀ j, x ∈ (layTo v j t).list ↔ (∃ i r, i < j ∧ T9[i]? = some r ∧ x = ⟨r.W, r.n, v⟩) ∨ (x ∈ t.list ∧ ∀ i r, i < j → T9[i]? = some r → ¬ (x.W = r.W ∧ x.n = r.n)) := fun j => by
  induction j with
  | zero => exact ⟨fun q => .inr ⟨q, fun i r hi => absurd hi (Nat.not_lt_zero _)⟩, fun q => by rcases q with ⟨i, r, hi, _⟩ | q; exact absurd hi (Nat.not_lt_zero _); exact q.1⟩
  | succ j ih =>
    cases e : T9[j]? with
    | none =>
      have e2 : layTo v (j + 1) t = layTo v j t := by unfold layTo; rw [List.take_add_one, e]; simp
      rw [e2, ih]
      constructor
      · rintro (⟨i, r, hi, q⟩ | ⟨q, q2⟩)
        · exact .inl ⟨i, r, by omega, q⟩
        · refine .inr ⟨q, fun i r hi hr => ?_⟩
          by_cases c : i < j
          · exact q2 i r c hr
          · rw [show i = j from by omega, e] at hr; cases hr
      · rintro (⟨i, r, hi, q⟩ | ⟨q, q2⟩)
        · refine .inl ⟨i, r, ?_, q⟩
          by_cases c : i < j
          · exact c
          · rw [show i = j from by omega, e] at q; cases q.1
        · exact .inr ⟨q, fun i r hi hr => q2 i r (by omega) hr⟩
    | some y =>
      rw [layTo_list h e, mem_putL, ih]
      constructor
      · rintro (q | ⟨⟨i, r, hi, q⟩ | ⟨q, q2⟩, q3⟩)
        · exact .inl ⟨j, y, by omega, e, q⟩
        · exact .inl ⟨i, r, by omega, q⟩
        · refine .inr ⟨q, fun i r hi hr => ?_⟩
          by_cases c : i < j
          · exact q2 i r c hr
          · rw [show i = j from by omega, e] at hr
            injection hr with hr
            rw [← hr]; exact q3
      · rintro (⟨i, r, hi, hr, q⟩ | ⟨q, q2⟩)
        · by_cases c : x.W = y.W ∧ x.n = y.n
          · left
            rw [q] at c ⊢
            simp only at c
            rw [c.1, c.2]
          · refine .inr ⟨.inl ⟨i, r, ?_, hr, q⟩, c⟩
            by_cases d : i < j
            · exact d
            · exfalso
              rw [show i = j from by omega, e] at hr
              injection hr with hr
              rw [q, ← hr] at c
              exact c ⟨rfl, rfl⟩
        · exact .inr ⟨.inr ⟨q, fun i r hi hr => q2 i r (by omega) hr⟩, q2 j y (by omega) e⟩
theorem nil_inv : PT.nil.Inv 0 0 := trivial
theorem lay_inv {v : Int} {t : PT} (h : t.Inv 0 0) : (lay9 v t).Inv 0 0 := by
  have q := layTo_inv (v := v) h 27
  rwa [layTo_end v t] at q
theorem lay9_mem {v : Int} {t : PT} (ht : t = lay9 v .nil) (x : En) : x ∈ t.list ↔ ∃ i r, i < 27 ∧ T9[i]? = some r ∧ x = ⟨r.W, r.n, v⟩ := by
  rw [ht, ← layTo_end, mem_layTo nil_inv]
  constructor
  · rintro (q | ⟨q, _⟩)
    · exact q
    · cases q
  · exact .inl
end

section
open Go.RowKit
theorem ofW_succ (P i : Nat) (h : i < 128) : ofW P (i + 1) = ofW P i + bitW P i * 2 ^ (127 - i) := by
  show qt P (i + 1) * 2 ^ (128 - (i + 1)) = qt P i * 2 ^ (128 - i) + _
  rw [qt_succ P i h, show 128 - (i + 1) = 127 - i from by omega, show 128 - i = (127 - i) + 1 from by omega, Nat.pow_succ, Nat.add_mul, Nat.mul_comm 2 (qt P i), Nat.mul_assoc, Nat.mul_comm 2]
theorem rt_hi {hi lo n : Nat} (h2 : lo < 18446744073709551616) (hn : n < 64) (h : rt (wideN hi lo) n) : hi % 2 ^ (64 - n) = 0 := by
  have e := rt_eq h
  have e2 : (2 : Nat) ^ (128 - n) = 2 ^ (64 - n) * 18446744073709551616 := by rw [show 18446744073709551616 = 2 ^ 64 from by decide, ← Nat.pow_add]; congr 1; omega
  have e3 : hi = qt (wideN hi lo) n * 2 ^ (64 - n) := by
    have q := hiN_wide (hi := hi) h2
    rw [e, e2, ← Nat.mul_assoc] at q
    unfold hiN at q
    rw [Nat.mul_div_cancel _ (by decide)] at q
    exact q.symm
  rw [e3]; exact Nat.mul_mod_left _ _
theorem rt_lo {hi lo n : Nat} (hn : 64 ≤ n) (hn2 : n ≤ 128) (h : rt (wideN hi lo) n) : lo % 2 ^ (128 - n) = 0 := by
  have e : (18446744073709551616 : Nat) = 2 ^ (128 - n) * 2 ^ (n - 64) := by rw [← Nat.pow_add, show 128 - n + (n - 64) = 64 from by omega]
  have d : 2 ^ (128 - n) ∣ wideN hi lo := Nat.dvd_of_mod_eq_zero h
  have d2 : 2 ^ (128 - n) ∣ hi * 2 ^ 64 := by
    rw [show (2 : Nat) ^ 64 = 18446744073709551616 from by decide, e]
    exact ⟨hi * 2 ^ (n - 64), by ac_rfl⟩
  have d3 : 2 ^ (128 - n) ∣ wideN hi lo - hi * 2 ^ 64 := Nat.dvd_sub d d2
  rw [show wideN hi lo - hi * 2 ^ 64 = lo from by unfold wideN; omega] at d3
  exact Nat.mod_eq_zero_of_dvd d3
theorem room_pow {x d : Nat} (hx : x % (2 * d) = 0) (N : Nat) (hN : N % (2 * d) = 0) (h : x < N) : x + d < N := by
  obtain ⟨a, rfl⟩ := Nat.dvd_of_mod_eq_zero hx
  obtain ⟨b, rfl⟩ := Nat.dvd_of_mod_eq_zero hN
  have : a < b := Nat.lt_of_mul_lt_mul_left h
  have : 2 * d * (a + 1) ≤ 2 * d * b := Nat.mul_le_mul_left _ this
  rw [Nat.mul_add, Nat.mul_one] at this
  omega
theorem pow_two_sub {a n : Nat} (h : n < a) : 2 ^ (a - n) = 2 * 2 ^ (a - 1 - n) := by rw [show a - n = (a - 1 - n) + 1 from by omega, Nat.pow_succ, Nat.mul_comm]
theorem pow_mod (a b : Nat) (h : b ≤ a) : 2 ^ a % 2 ^ b = 0 := Nat.mod_eq_zero_of_dvd (Nat.pow_dvd_pow 2 h)
theorem room_hi {hi n : Nat} (h1 : hi < 18446744073709551616) (hn : n < 64) (h : hi % 2 ^ (64 - n) = 0) : hi + 2 ^ (63 - n) < 18446744073709551616 := by
  rw [pow_two_sub hn] at h
  exact room_pow h _ (by rw [← pow_two_sub hn, show 18446744073709551616 = 2 ^ 64 from by decide]; exact pow_mod _ _ (by omega)) h1
theorem room_lo {lo n : Nat} (h1 : lo < 18446744073709551616) (hn : 64 ≤ n) (hn2 : n < 128) (h : lo % 2 ^ (128 - n) = 0) : lo + 2 ^ (127 - n) < 18446744073709551616 := by
  rw [pow_two_sub hn2] at h
  exact room_pow h _ (by rw [← pow_two_sub hn2, show 18446744073709551616 = 2 ^ 64 from by decide]; exact pow_mod _ _ (by omega)) h1
theorem or_join {x : Nat} (s : Nat) (h1 : x + 2 ^ s < 18446744073709551616) (h : x % 2 ^ (s + 1) = 0) : bits .or .u64 (x : Int) ((2 : Int) ^ s) = (x : Int) + (2 : Int) ^ s := by
  have hp : ((2 : Int) ^ s) = ((2 ^ s : Nat) : Int) := by simp
  have hb : 2 ^ s < 2 ^ (s + 1) := Nat.pow_lt_pow_right (by decide) (by omega)
  have hm : ((x : Int) % 2 ^ (s + 1)) = 0 := by
    have := congrArg (Nat.cast (R := Int)) h
    simpa using this
  have hb2 : ((2 ^ s : Nat) : Int) < 2 ^ (s + 1) := by
    have : (((2 ^ s : Nat) : Int)) < ((2 ^ (s + 1) : Nat) : Int) := by omega
    simpa using this
  rw [hp]
  exact u64_join (s + 1) (x : Int) ((2 ^ s : Nat) : Int) (by omega) hm (by omega) (by omega) hb2 (by omega)
theorem wrap_nat (m : Nat) (h : m < 18446744073709551616) : IntKind.u64.wrap (m : Int) = (m : Int) := by rw [IntKind.wrap_u64]; omega
theorem or_zero (x : Nat) (h : x < 18446744073709551616) : bits .or .u64 (x : Int) 0 = (x : Int) := by
  rw [show (0 : Int) = ((0 : Nat) : Int) from rfl, u64_or_nat x 0 h (by decide), Nat.or_zero]
theorem wide_add (x y a : Nat) : wideN (x + a) y = wideN x y + a * 2 ^ 64 := by unfold wideN; rw [Nat.add_mul, Nat.add_right_comm]
theorem wide_low (x y a : Nat) : wideN x (y + a) = wideN x y + a := by unfold wideN; rw [Nat.add_assoc]
end

section
open Go.RowKit
set_option maxRecDepth 100000 in
set_option maxHeartbeats 1000000 in
theorem row9_any (s n : ByteArray) (W k : Nat) (w : World) (hs : s.size ≤ 1073741824) (hmax : MaxVar w) (hp : parseP s.data.toList = some (W, k)) :
    Calls Tryz.prog 56 #[.string s, .string n] w fun e w' => e = .returned (.agg #[.int .u64 (hiN W : Nat), .int .u64 (loN W : Nat), .int .i64 (k : Nat), .string n]) ∧ Below w.heap.size w w' := by
  have HP := Lib.hid hp
  have HX := Lib.hid hmax
  clear hp hmax
  go_enter Tryz.func56, Tryz.ntmps56
  go_wp2_with fail
  refine (pParse_any _ _ hs (maxVar_below HX.out ((Below.refl _ _).alloc (Nat.le_refl _) _))).mono ?_
  rw [HP.out]
  rintro e x1 ⟨rfl, hb1⟩
  simp only [optP, pfW, pfV, Option.isSome]
  have HB1 := Lib.hid ((((Blks.empty w).new #[.int .u64 0, .int .u64 0, .int .i64 0, .string ⟨#[]⟩] 55).keep hb1).new #[.int .u64 (hiN W : Nat), .int .u64 (loN W : Nat), .int .i64 (k : Nat)] 37)
  have HW1 := Lib.hid ((alloc_then hb1).alloc (alloc_then hb1).size (.cells #[.int .u64 (hiN W : Nat), .int .u64 (loN W : Nat), .int .i64 (k : Nat)] 37))
  clear hb1
  obtain ⟨l1, d0, d1, d2, d3⟩ := HB1.out.q4 (.tail _ (.head _))
  obtain ⟨f0, f1, f2, f3⟩ := HB1.out.fq4 (.tail _ (.head _))
  have hrow := set4_rowS (HB1.out (w.heap.size, _, _) (.tail _ (.head _))) (.int .u64 (hiN W : Nat)) (.int .u64 (loN W : Nat)) (.int .i64 (k : Nat)) (.string n)
  have r0 := cell_row hrow 0
  have r1 := cell_row hrow 1
  have r2 := cell_row hrow 2
  have r3 := cell_row hrow 3
  have HB2 := Lib.hid (set4_belowS HW1.out (Nat.le_refl _) (.int .u64 (hiN W : Nat)) (.int .u64 (loN W : Nat)) (.int .i64 (k : Nat)) (.string n))
  simp at r0 r1 r2 r3
  have HR := Lib.hid (And.intro r0 (And.intro r1 (And.intro r2 r3)))
  clear r0 r1 r2 r3 hrow
  go_wp2
  obtain ⟨r0, r1, r2, r3⟩ := HR.out
  refine bodyPost_ret (v := .agg #[.int .u64 (hiN W : Nat), .int .u64 (loN W : Nat), .int .i64 (k : Nat), .string n]) (by simp [results, Tryz.results56, go_sem, r0, r1, r2, r3]) rfl ⟨rfl, ?_⟩
  exact HB2.out
set_option maxRecDepth 100000 in
set_option maxHeartbeats 8000000 in
theorem rows9_any (w : World) (hmax : MaxVar w) :
    Calls Tryz.prog 24 #[] w fun e w' => ∃ b, e = .returned (.slice (some ⟨b, 0, none⟩) 27 27) ∧ w.heap.size ≤ b ∧ w'.heap[b]? = some (.cells flat9 55) ∧ Below w.heap.size w w' := by
  have HX := Lib.hid hmax
  clear hmax
  have hb0 : Below w.heap.size w w := Below.refl _ _
  go_enter Tryz.func24, Tryz.ntmps24
  go_wp2_with fail
  refine (row9_any _ _ 281470681743360 104 _ (by decide) (maxVar_below HX.out hb0) p9_0).mono ?_
  rintro e x1 ⟨rfl, hc⟩
  have hb1 := below_chain7 hb0 hc
  clear hc hb0
  go_wp2_with fail
  refine (row9_any _ _ 281470849515520 104 _ (by decide) (maxVar_below HX.out hb1) p9_1).mono ?_
  rintro e x2 ⟨rfl, hc⟩
  have hb2 := below_chain7 hb1 hc
  clear hc hb1
  go_wp2_with fail
  refine (row9_any _ _ 281472363659264 106 _ (by decide) (maxVar_below HX.out hb2) p9_2).mono ?_
  rintro e x3 ⟨rfl, hc⟩
  have hb3 := below_chain7 hb2 hc
  clear hc hb2
  go_wp2_with fail
  refine (row9_any _ _ 281472812449792 104 _ (by decide) (maxVar_below HX.out hb3) p9_3).mono ?_
  rintro e x4 ⟨rfl, hc⟩
  have hb4 := below_chain7 hb3 hc
  clear hc hb3
  go_wp2_with fail
  refine (row9_any _ _ 281473533739008 112 _ (by decide) (maxVar_below HX.out hb4) p9_4).mono ?_
  rintro e x5 ⟨rfl, hc⟩
  have hb5 := below_chain7 hb4 hc
  clear hc hb4
  go_wp2_with fail
  refine (row9_any _ _ 281473568473088 108 _ (by decide) (maxVar_below HX.out hb5) p9_5).mono ?_
  rintro e x6 ⟨rfl, hc⟩
  have hb6 := below_chain7 hb5 hc
  clear hc hb5
  go_wp2_with fail
  refine (row9_any _ _ 281473902968832 120 _ (by decide) (maxVar_below HX.out hb6) p9_6).mono ?_
  rintro e x7 ⟨rfl, hc⟩
  have hb7 := below_chain7 hb6 hc
  clear hc hb6
  go_wp2_with fail
  refine (row9_any _ _ 281473902969344 120 _ (by decide) (maxVar_below HX.out hb7) p9_7).mono ?_
  rintro e x8 ⟨rfl, hc⟩
  have hb8 := below_chain7 hb7 hc
  clear hc hb7
  go_wp2_with fail
  refine (row9_any _ _ 281473908761344 120 _ (by decide) (maxVar_below HX.out hb8) p9_8).mono ?_
  rintro e x9 ⟨rfl, hc⟩
  have hb9 := below_chain7 hb8 hc
  clear hc hb8
  go_wp2_with fail
  refine (row9_any _ _ 281473913978880 112 _ (by decide) (maxVar_below HX.out hb9) p9_9).mono ?_
  rintro e x10 ⟨rfl, hc⟩
  have hb10 := below_chain7 hb9 hc
  clear hc hb9
  go_wp2_with fail
  refine (row9_any _ _ 281474004811776 111 _ (by decide) (maxVar_below HX.out hb10) p9_10).mono ?_
  rintro e x11 ⟨rfl, hc⟩
  have hb11 := below_chain7 hb10 hc
  clear hc hb10
  go_wp2_with fail
  refine (row9_any _ _ 281474007000064 120 _ (by decide) (maxVar_below HX.out hb11) p9_11).mono ?_
  rintro e x12 ⟨rfl, hc⟩
  have hb12 := below_chain7 hb11 hc
  clear hc hb11
  go_wp2_with fail
  refine (row9_any _ _ 281474087547136 120 _ (by decide) (maxVar_below HX.out hb12) p9_12).mono ?_
  rintro e x13 ⟨rfl, hc⟩
  have hb13 := below_chain7 hb12 hc
  clear hc hb12
  go_wp2_with fail
  refine (row9_any _ _ 281474439839744 100 _ (by decide) (maxVar_below HX.out hb13) p9_13).mono ?_
  rintro e x14 ⟨rfl, hc⟩
  have hb14 := below_chain7 hb13 hc
  clear hc hb13
  go_wp2_with fail
  refine (row9_any _ _ 281474708275200 100 _ (by decide) (maxVar_below HX.out hb14) p9_14).mono ?_
  rintro e x15 ⟨rfl, hc⟩
  have hb15 := below_chain7 hb14 hc
  clear hc hb14
  go_wp2_with fail
  refine (row9_any _ _ 0 128 _ (by decide) (maxVar_below HX.out hb15) p9_15).mono ?_
  rintro e x16 ⟨rfl, hc⟩
  have hb16 := below_chain7 hb15 hc
  clear hc hb15
  go_wp2_with fail
  refine (row9_any _ _ 1 128 _ (by decide) (maxVar_below HX.out hb16) p9_16).mono ?_
  rintro e x17 ⟨rfl, hc⟩
  have hb17 := below_chain7 hb16 hc
  clear hc hb16
  go_wp2_with fail
  refine (row9_any _ _ 524413980668812575603097810486951936 48 _ (by decide) (maxVar_below HX.out hb17) p9_17).mono ?_
  rintro e x18 ⟨rfl, hc⟩
  have hb18 := below_chain7 hb17 hc
  clear hc hb17
  go_wp2_with fail
  refine (row9_any _ _ 1329227995784915872903807060280344576 64 _ (by decide) (maxVar_below HX.out hb18) p9_18).mono ?_
  rintro e x19 ⟨rfl, hc⟩
  have hb19 := below_chain7 hb18 hc
  clear hc hb18
  go_wp2_with fail
  refine (row9_any _ _ 42540488161975842760550356425300246528 23 _ (by decide) (maxVar_below HX.out hb19) p9_19).mono ?_
  rintro e x20 ⟨rfl, hc⟩
  have hb20 := below_chain7 hb19 hc
  clear hc hb19
  go_wp2_with fail
  refine (row9_any _ _ 42540766411282592856903984951653826560 32 _ (by decide) (maxVar_below HX.out hb20) p9_20).mono ?_
  rintro e x21 ⟨rfl, hc⟩
  have hb21 := below_chain7 hb20 hc
  clear hc hb20
  go_wp2_with fail
  refine (row9_any _ _ 85065399433376081038215121361612832768 20 _ (by decide) (maxVar_below HX.out hb21) p9_21).mono ?_
  rintro e x22 ⟨rfl, hc⟩
  have hb22 := below_chain7 hb21 hc
  clear hc hb21
  go_wp2_with fail
  refine (row9_any _ _ 126276659599567007925861670726632734720 16 _ (by decide) (maxVar_below HX.out hb22) p9_22).mono ?_
  rintro e x23 ⟨rfl, hc⟩
  have hb23 := below_chain7 hb22 hc
  clear hc hb22
  go_wp2_with fail
  refine (row9_any _ _ 334965454937798799971759379190646833152 7 _ (by decide) (maxVar_below HX.out hb23) p9_23).mono ?_
  rintro e x24 ⟨rfl, hc⟩
  have hb24 := below_chain7 hb23 hc
  clear hc hb23
  go_wp2_with fail
  refine (row9_any _ _ 338288524927261089654018896841347694592 10 _ (by decide) (maxVar_below HX.out hb24) p9_24).mono ?_
  rintro e x25 ⟨rfl, hc⟩
  have hb25 := below_chain7 hb24 hc
  clear hc hb24
  go_wp2_with fail
  refine (row9_any _ _ 338620831926207318622244848606417780736 10 _ (by decide) (maxVar_below HX.out hb25) p9_25).mono ?_
  rintro e x26 ⟨rfl, hc⟩
  have hb26 := below_chain7 hb25 hc
  clear hc hb25
  go_wp2_with fail
  refine (row9_any _ _ 338953138925153547590470800371487866880 8 _ (by decide) (maxVar_below HX.out hb26) p9_26).mono ?_
  rintro e x27 ⟨rfl, hc⟩
  have hb27 := below_chain7 hb26 hc
  clear hc hb26
  have hn : ∀ t, (x27.alloc (.cells flat9 t)).heap[x27.heap.size]? = some (.cells flat9 t) := fun t => Go.Deep.blk_alloc_new _ _
  go_wp2
  go_ret
  exact ⟨x27.heap.size, rfl, hb27.size, hn _, hb27.alloc hb27.size _⟩
end

section
open Go.RowKit
set_option maxRecDepth 100000 in
set_option maxHeartbeats 1000000 in
theorem low9_any (a b c n W k : Nat) (s : ByteArray) (w : World) (h : a < 256 ∧ b < 256 ∧ c < 256 ∧ n ≤ 32 ∧ W = 281470681743360 + (a * 16777216 + b * 65536 + c * 256) ∧ k = 96 + n) :
    Calls Tryz.prog 54 #[.int .i64 (a : Nat), .int .i64 (b : Nat), .int .i64 (c : Nat), .int .i64 (n : Nat), .string s] w fun e w' => e = .returned (.agg #[.int .u64 (hiN W : Nat), .int .u64 (loN W : Nat), .int .i64 (k : Nat), .string s]) ∧ Below w.heap.size w w' := by
  obtain ⟨ha, hb, hc, hn, hW, hk⟩ := h
  have e1 : IntKind.i64.wrap ((a : Int) * 16777216) = a * 16777216 := IntWalk.i64_in _ (by omega)
  have e2 : IntKind.i64.wrap ((b : Int) * 65536) = b * 65536 := IntWalk.i64_in _ (by omega)
  have e3 : IntKind.i64.wrap ((a : Int) * 16777216 + b * 65536) = a * 16777216 + b * 65536 := IntWalk.i64_in _ (by omega)
  have e4 : IntKind.i64.wrap ((c : Int) * 256) = c * 256 := IntWalk.i64_in _ (by omega)
  have e5 : IntKind.i64.wrap ((a : Int) * 16777216 + b * 65536 + c * 256) = a * 16777216 + b * 65536 + c * 256 := IntWalk.i64_in _ (by omega)
  have e6 : IntKind.u64.wrap ((a : Int) * 16777216 + b * 65536 + c * 256) = a * 16777216 + b * 65536 + c * 256 := by rw [IntKind.wrap_u64]; omega
  have e7 : IntKind.u64.wrap (281470681743360 + ((a : Int) * 16777216 + b * 65536 + c * 256)) = 281470681743360 + ((a : Int) * 16777216 + b * 65536 + c * 256) := by rw [IntKind.wrap_u64]; omega
  have e8 : IntKind.i64.wrap (96 + (n : Int)) = 96 + (n : Int) := IntWalk.i64_in _ (by omega)
  have h0 : ((hiN W : Nat) : Int) = 0 := by unfold hiN; omega
  have h1 : ((loN W : Nat) : Int) = 281470681743360 + ((a : Int) * 16777216 + b * 65536 + c * 256) := by unfold loN; omega
  have h2 : ((k : Nat) : Int) = 96 + (n : Int) := by omega
  rw [h0, h1, h2]
  clear h0 h1 h2 hW hk
  go_enter Tryz.func54, Tryz.ntmps54
  go_wp2
  refine bodyPost_ret (v := .agg #[.int .u64 0, .int .u64 (281470681743360 + ((a : Int) * 16777216 + b * 65536 + c * 256)), .int .i64 (96 + (n : Int)), .string s]) (by simp [results, Tryz.results54, go_sem]) rfl ⟨rfl, ?_⟩
  exact (Below.refl _ _).alloc (Nat.le_refl _) _
set_option maxRecDepth 100000 in
set_option maxHeartbeats 1000000 in
theorem high9_any (a b c n W : Nat) (s : ByteArray) (w : World) (h : a < 65536 ∧ b < 65536 ∧ c < 65536 ∧ n ≤ 128 ∧ W = (a * 281474976710656 + b * 4294967296 + c * 65536) * 18446744073709551616) :
    Calls Tryz.prog 55 #[.int .u64 (a : Nat), .int .u64 (b : Nat), .int .u64 (c : Nat), .int .i64 (n : Nat), .string s] w fun e w' => e = .returned (.agg #[.int .u64 (hiN W : Nat), .int .u64 (loN W : Nat), .int .i64 (n : Nat), .string s]) ∧ Below w.heap.size w w' := by
  obtain ⟨ha, hb, hc, hn, hW⟩ := h
  have e1 : IntKind.u64.wrap ((a : Int) * 281474976710656) = a * 281474976710656 := by rw [IntKind.wrap_u64]; omega
  have e2 : IntKind.u64.wrap ((b : Int) * 4294967296) = b * 4294967296 := by rw [IntKind.wrap_u64]; omega
  have e3 : IntKind.u64.wrap ((a : Int) * 281474976710656 + b * 4294967296) = a * 281474976710656 + b * 4294967296 := by rw [IntKind.wrap_u64]; omega
  have e4 : IntKind.u64.wrap ((c : Int) * 65536) = c * 65536 := by rw [IntKind.wrap_u64]; omega
  have e5 : IntKind.u64.wrap ((a : Int) * 281474976710656 + b * 4294967296 + c * 65536) = a * 281474976710656 + b * 4294967296 + c * 65536 := by rw [IntKind.wrap_u64]; omega
  have h0 : ((hiN W : Nat) : Int) = (a : Int) * 281474976710656 + b * 4294967296 + c * 65536 := by unfold hiN; omega
  have h1 : ((loN W : Nat) : Int) = 0 := by unfold loN; omega
  rw [h0, h1]
  clear h0 h1 hW
  go_enter Tryz.func55, Tryz.ntmps55
  go_wp2
  refine bodyPost_ret (v := .agg #[.int .u64 ((a : Int) * 281474976710656 + b * 4294967296 + c * 65536), .int .u64 0, .int .i64 (n : Int), .string s]) (by simp [results, Tryz.results55, go_sem]) rfl ⟨rfl, ?_⟩
  exact (Below.refl _ _).alloc (Nat.le_refl _) _
set_option maxRecDepth 100000 in
set_option maxHeartbeats 8000000 in
theorem refRows9_any (w : World) :
    Calls Tryz.prog 19 #[] w fun e w' => ∃ b, e = .returned (.slice (some ⟨b, 0, none⟩) 27 27) ∧ w.heap.size ≤ b ∧ w'.heap[b]? = some (.cells flat9 57) ∧ Below w.heap.size w w' := by
  have hb0 : Below w.heap.size w w := Below.refl _ _
  go_enter Tryz.func19, Tryz.ntmps19
  go_wp2_with fail
  refine (low9_any 0 0 0 8 281470681743360 104 _ _ (by decide)).mono ?_
  rintro e x1 ⟨rfl, hc⟩
  have hb1 := below_chain7 hb0 hc
  clear hc hb0
  go_wp2_with fail
  refine (low9_any 10 0 0 8 281470849515520 104 _ _ (by decide)).mono ?_
  rintro e x2 ⟨rfl, hc⟩
  have hb2 := below_chain7 hb1 hc
  clear hc hb1
  go_wp2_with fail
  refine (low9_any 100 64 0 10 281472363659264 106 _ _ (by decide)).mono ?_
  rintro e x3 ⟨rfl, hc⟩
  have hb3 := below_chain7 hb2 hc
  clear hc hb2
  go_wp2_with fail
  refine (low9_any 127 0 0 8 281472812449792 104 _ _ (by decide)).mono ?_
  rintro e x4 ⟨rfl, hc⟩
  have hb4 := below_chain7 hb3 hc
  clear hc hb3
  go_wp2_with fail
  refine (low9_any 169 254 0 16 281473533739008 112 _ _ (by decide)).mono ?_
  rintro e x5 ⟨rfl, hc⟩
  have hb5 := below_chain7 hb4 hc
  clear hc hb4
  go_wp2_with fail
  refine (low9_any 172 16 0 12 281473568473088 108 _ _ (by decide)).mono ?_
  rintro e x6 ⟨rfl, hc⟩
  have hb6 := below_chain7 hb5 hc
  clear hc hb5
  go_wp2_with fail
  refine (low9_any 192 0 0 24 281473902968832 120 _ _ (by decide)).mono ?_
  rintro e x7 ⟨rfl, hc⟩
  have hb7 := below_chain7 hb6 hc
  clear hc hb6
  go_wp2_with fail
  refine (low9_any 192 0 2 24 281473902969344 120 _ _ (by decide)).mono ?_
  rintro e x8 ⟨rfl, hc⟩
  have hb8 := below_chain7 hb7 hc
  clear hc hb7
  go_wp2_with fail
  refine (low9_any 192 88 99 24 281473908761344 120 _ _ (by decide)).mono ?_
  rintro e x9 ⟨rfl, hc⟩
  have hb9 := below_chain7 hb8 hc
  clear hc hb8
  go_wp2_with fail
  refine (low9_any 192 168 0 16 281473913978880 112 _ _ (by decide)).mono ?_
  rintro e x10 ⟨rfl, hc⟩
  have hb10 := below_chain7 hb9 hc
  clear hc hb9
  go_wp2_with fail
  refine (low9_any 198 18 0 15 281474004811776 111 _ _ (by decide)).mono ?_
  rintro e x11 ⟨rfl, hc⟩
  have hb11 := below_chain7 hb10 hc
  clear hc hb10
  go_wp2_with fail
  refine (low9_any 198 51 100 24 281474007000064 120 _ _ (by decide)).mono ?_
  rintro e x12 ⟨rfl, hc⟩
  have hb12 := below_chain7 hb11 hc
  clear hc hb11
  go_wp2_with fail
  refine (low9_any 203 0 113 24 281474087547136 120 _ _ (by decide)).mono ?_
  rintro e x13 ⟨rfl, hc⟩
  have hb13 := below_chain7 hb12 hc
  clear hc hb12
  go_wp2_with fail
  refine (low9_any 224 0 0 4 281474439839744 100 _ _ (by decide)).mono ?_
  rintro e x14 ⟨rfl, hc⟩
  have hb14 := below_chain7 hb13 hc
  clear hc hb13
  go_wp2_with fail
  refine (low9_any 240 0 0 4 281474708275200 100 _ _ (by decide)).mono ?_
  rintro e x15 ⟨rfl, hc⟩
  have hb15 := below_chain7 hb14 hc
  clear hc hb14
  go_wp2_with fail
  refine (high9_any 0 0 0 128 0 _ _ (by decide)).mono ?_
  rintro e x16 ⟨rfl, hc⟩
  have hb16 := below_chain7 hb15 hc
  clear hc hb15
  go_wp2_with fail
  refine (high9_any 100 65435 1 48 524413980668812575603097810486951936 _ _ (by decide)).mono ?_
  rintro e x17 ⟨rfl, hc⟩
  have hb17 := below_chain7 hb16 hc
  clear hc hb16
  go_wp2_with fail
  refine (high9_any 256 0 0 64 1329227995784915872903807060280344576 _ _ (by decide)).mono ?_
  rintro e x18 ⟨rfl, hc⟩
  have hb18 := below_chain7 hb17 hc
  clear hc hb17
  go_wp2_with fail
  refine (high9_any 8193 0 0 23 42540488161975842760550356425300246528 _ _ (by decide)).mono ?_
  rintro e x19 ⟨rfl, hc⟩
  have hb19 := below_chain7 hb18 hc
  clear hc hb18
  go_wp2_with fail
  refine (high9_any 8193 3512 0 32 42540766411282592856903984951653826560 _ _ (by decide)).mono ?_
  rintro e x20 ⟨rfl, hc⟩
  have hb20 := below_chain7 hb19 hc
  clear hc hb19
  go_wp2_with fail
  refine (high9_any 16383 0 0 20 85065399433376081038215121361612832768 _ _ (by decide)).mono ?_
  rintro e x21 ⟨rfl, hc⟩
  have hb21 := below_chain7 hb20 hc
  clear hc hb20
  go_wp2_with fail
  refine (high9_any 24320 0 0 16 126276659599567007925861670726632734720 _ _ (by decide)).mono ?_
  rintro e x22 ⟨rfl, hc⟩
  have hb22 := below_chain7 hb21 hc
  clear hc hb21
  go_wp2_with fail
  refine (high9_any 64512 0 0 7 334965454937798799971759379190646833152 _ _ (by decide)).mono ?_
  rintro e x23 ⟨rfl, hc⟩
  have hb23 := below_chain7 hb22 hc
  clear hc hb22
  go_wp2_with fail
  refine (high9_any 65152 0 0 10 338288524927261089654018896841347694592 _ _ (by decide)).mono ?_
  rintro e x24 ⟨rfl, hc⟩
  have hb24 := below_chain7 hb23 hc
  clear hc hb23
  go_wp2_with fail
  refine (high9_any 65216 0 0 10 338620831926207318622244848606417780736 _ _ (by decide)).mono ?_
  rintro e x25 ⟨rfl, hc⟩
  have hb25 := below_chain7 hb24 hc
  clear hc hb24
  go_wp2_with fail
  refine (high9_any 65280 0 0 8 338953138925153547590470800371487866880 _ _ (by decide)).mono ?_
  rintro e x26 ⟨rfl, hc⟩
  have hb26 := below_chain7 hb25 hc
  clear hc hb25
  have hn : ∀ t, (x26.alloc (.cells flat9 t)).heap[x26.heap.size]? = some (.cells flat9 t) := fun t => Go.Deep.blk_alloc_new _ _
  go_wp2
  go_ret
  exact ⟨x26.heap.size, rfl, hb26.size, hn _, hb26.alloc hb26.size _⟩
end

end Go.Proofs.YtoobiaifogackaaGreatDoor
