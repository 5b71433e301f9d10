/-
  What the law PolicyTells leans on, and its walk (12 of 16).
-/
import Derived.Deep.Slices
import Derived.Laws.AppendOwn
import Derived.OwnWalk
import Derived.Test.YtoobiaifogackaaGreatDoorPolicyTellsPkG
import Derived.Test.YtoobiaifogackaaGreatDoorPolicyTellsPkA
namespace Go.Proofs.YtoobiaifogackaaGreatDoor
section
open Go.RowKit
def cellsE (x : En) : List Value := [.int .u64 (hiN x.W : Nat), .int .u64 (loN x.W : Nat), .int .i64 (x.n : Nat), .int .i64 x.v]
def cellsP (x : En) : List Value := [.int .u64 (hiN x.W : Nat), .int .u64 (loN x.W : Nat), .int .i64 (x.n : Nat)]
def flatE (l : List En) : List Value := l.flatMap cellsE
def flatP (l : List En) : List Value := l.flatMap cellsP
theorem flat_at (f : En → List Value) (s : Nat) (h : ∀ x, (f x).length = s) : ∀ (l : List En) (j : Nat) (x : En), l[j]? = some x → ∀ i, i < s → (l.flatMap f)[j * s + i]? = (f x)[i]?
  | [], j, x, e, i, hi => by simp at e
  | y :: l, 0, x, e, i, hi => by
    simp at e; subst e
    rw [List.flatMap_cons, List.getElem?_append_left (by rw [h]; omega)]; simp
  | y :: l, j + 1, x, e, i, hi => by
    rw [List.flatMap_cons, List.getElem?_append_right (by rw [h, Nat.add_mul]; omega), h, show (j + 1) * s + i - s = j * s + i from by rw [Nat.add_mul]; omega]
    exact flat_at f s h l j x (by simpa using e) i hi
theorem cellsE_len (x : En) : (cellsE x).length = 4 := rfl
theorem cellsP_len (x : En) : (cellsP x).length = 3 := rfl
/-- the slice v is a row of the call's own that holds these entries -/
def OwnE (w : World) (base : Nat) (v : Value) (l : List En) : Prop := w.ownsRow base 134 4 v l.length (flatE l)
def OwnP (w : World) (base : Nat) (v : Value) (l : List En) : Prop := w.ownsRow base 37 3 v l.length (flatP l)
/-- the slice v holds these prefixes -/
def RowP (w : World) (v : Value) (l : List En) : Prop :=
  ∃ ao c, v = .slice ao l.length c ∧ ∀ (j : Nat) (x : En), l[j]? = some x → ∃ ad, ao = some ad ∧ (w.cell? (Addr.add ad (j * 3)) = some (.int .u64 (hiN x.W : Nat)) ∧ w.cell? ⟨(Addr.add ad (j * 3)).block, (Addr.add ad (j * 3)).off + 1, none⟩ = some (.int .u64 (loN x.W : Nat)) ∧
    w.cell? ⟨(Addr.add ad (j * 3)).block, (Addr.add ad (j * 3)).off + 2, none⟩ = some (.int .i64 (x.n : Nat)))
theorem RowP.keep {w w' : World} {v : Value} {l : List En} (h : RowP w v l) (hb : Below w.heap.size w w') : RowP w' v l := by
  obtain ⟨ao, c, rfl, hc⟩ := h
  have kp : ∀ (p : Addr) (u : Value), w.cell? p = some u → w'.cell? p = some u := fun p u hp => (hb.cell (World.block_lt_of_cell? w p hp)).trans hp
  refine ⟨ao, c, rfl, fun j x hx => ?_⟩
  obtain ⟨ad, ha, c0, c1, c2⟩ := hc j x hx
  exact ⟨ad, ha, kp _ _ c0, kp _ _ c1, kp _ _ c2⟩
theorem OwnP.row {w : World} {base : Nat} {v : Value} {l : List En} (h : OwnP w base v l) : RowP w v l := by
  have h0 := h
  rcases h.2 with ⟨e, hn⟩ | ⟨g, cap, cur, e, _⟩
  · have : l = [] := List.eq_nil_of_length_eq_zero hn
    subst this
    exact ⟨none, 0, e, fun j x hx => by simp at hx⟩
  · refine ⟨_, _, e, fun j x hx => ⟨_, rfl, ?_, ?_, ?_⟩⟩
    · exact h0.cells (g := g) (by rw [e]; rfl) (j * 3) _ ((flat_at cellsP 3 cellsP_len l j x hx 0 (by omega)).trans rfl)
    · have := h0.cells (g := g) (by rw [e]; rfl) (j * 3 + 1) _ ((flat_at cellsP 3 cellsP_len l j x hx 1 (by omega)).trans rfl)
      rw [← Go.Deep.add_add] at this; exact this
    · have := h0.cells (g := g) (by rw [e]; rfl) (j * 3 + 2) _ ((flat_at cellsP 3 cellsP_len l j x hx 2 (by omega)).trans rfl)
      rw [← Go.Deep.add_add] at this; exact this
theorem OwnE.same {w w' : World} {base : Nat} {v : Value} {l : List En} (h : OwnE w base v l) (he : ∀ b, v.ownBlock = some b → w'.heap[b]? = w.heap[b]?) : OwnE w' base v l := by
  refine ⟨h.1, ?_⟩
  rcases h.2 with q | ⟨g, cap, cur, e, hb, hg, r⟩
  · exact .inl q
  · exact .inr ⟨g, cap, cur, e, hb, (he g (by rw [e]; rfl)).trans hg, r⟩
theorem OwnE.keep {w w' : World} {base : Nat} {v : Value} {l : List En} (h : OwnE w base v l) (hb : Below w.heap.size w w') : OwnE w' base v l :=
  h.same fun b hb' => hb.block b (World.ownsRow.lt h b hb').2
theorem OwnE.only {w w' : World} {base : Nat} {v : Value} {l : List En} {F : List Nat} (h : OwnE w base v l) (ho : Only F w w') (hn : ∀ b ∈ F, v.ownBlock ≠ some b) : OwnE w' base v l :=
  h.same fun b hb' => ho.block b (World.ownsRow.lt h b hb').2 (fun q => hn b q hb')
theorem OwnE.lower {w : World} {base base' : Nat} {v : Value} {l : List En} (h : OwnE w base v l) (hb : base' ≤ base) : OwnE w base' v l := by
  refine ⟨h.1, ?_⟩
  rcases h.2 with q | ⟨g, cap, cur, e, hg, r⟩
  · exact .inl q
  · exact .inr ⟨g, cap, cur, e, Nat.le_trans hb hg, r⟩
theorem ownE_nil (w : World) (base : Nat) : OwnE w base (.slice none 0 0) [] := World.ownsRow_nil _ _ _ _
theorem dropL_take_in {l : List En} {P : Nat} {k : Int} {j : Nat} {x : En} (hx : l[j]? = some x) (h : x.key P k = true) : dropL (l.take (j + 1)) P k = dropL (l.take j) P k := by
  rw [List.take_add_one, hx]; simp [dropL, List.filter_append, h]
theorem dropL_take_out {l : List En} {P : Nat} {k : Int} {j : Nat} {x : En} (hx : l[j]? = some x) (h : x.key P k = false) : dropL (l.take (j + 1)) P k = dropL (l.take j) P k ++ [x] := by
  rw [List.take_add_one, hx]; simp [dropL, List.filter_append, h]
theorem dropL_le (l : List En) (P : Nat) (k : Int) : (dropL l P k).length ≤ l.length := List.length_filter_le _ _
theorem insL_past {e : En} : ∀ {m : List En} (r : List En), (∀ x ∈ m, befB e x = false) → insL e (m ++ r) = m ++ insL e r
  | [], r, _ => rfl
  | y :: m, r, h => by
    rw [List.cons_append, insL, if_neg (by rw [h y (List.mem_cons_self ..)]; simp), insL_past r (fun x hx => h x (List.mem_cons_of_mem _ hx))]; rfl
theorem insL_in {e : En} : ∀ {m : List En} (r : List En), (∃ x ∈ m, befB e x = true) → insL e (m ++ r) = insL e m ++ r
  | [], r, h => by obtain ⟨x, hx, _⟩ := h; cases hx
  | y :: m, r, h => by
    rw [List.cons_append, insL, insL]
    by_cases c : befB e y = true
    · rw [if_pos c, if_pos c]; rfl
    · rw [if_neg c, if_neg c, insL_in r (by
        obtain ⟨x, hx, hb⟩ := h
        rcases List.mem_cons.1 hx with q | q
        · rw [q] at hb; exact absurd hb c
        · exact ⟨x, q, hb⟩)]; rfl
/-- what is put out behind the list m, with e in its place or not yet -/
def Mid (e : En) (m : List En) (done : Bool) (out : List En) : Prop :=
  (done = false ∧ out = m ∧ ∀ x ∈ m, befB e x = false) ∨ (done = true ∧ out = insL e m ∧ ∃ x ∈ m, befB e x = true)
theorem mid_nil (e : En) : Mid e [] false [] := .inl ⟨rfl, rfl, fun x hx => by cases hx⟩
theorem mid_here {e x : En} {m out : List En} (h : Mid e m false out) (hb : befB e x = true) : Mid e (m ++ [x]) true (out ++ [e] ++ [x]) := by
  rcases h with ⟨_, h2, h3⟩ | ⟨h1, _⟩
  · refine .inr ⟨rfl, ?_, x, by simp, hb⟩
    rw [insL_past _ h3, h2, insL, if_pos hb]; simp
  · cases h1
theorem mid_on {e x : En} {m out : List En} (h : Mid e m false out) (hb : befB e x = false) : Mid e (m ++ [x]) false (out ++ [x]) := by
  rcases h with ⟨_, h2, h3⟩ | ⟨h1, _⟩
  · refine .inl ⟨rfl, by rw [h2], fun y hy => ?_⟩
    rcases List.mem_append.1 hy with q | q
    · exact h3 y q
    · rw [List.mem_singleton.1 q]; exact hb
  · cases h1
theorem mid_done {e x : En} {m out : List En} (h : Mid e m true out) : Mid e (m ++ [x]) true (out ++ [x]) := by
  rcases h with ⟨h1, _⟩ | ⟨_, h2, y, hy, hb⟩
  · cases h1
  · exact .inr ⟨rfl, by rw [h2, insL_in _ ⟨y, hy, hb⟩], y, List.mem_append_left _ hy, hb⟩
theorem mid_end {e : En} {m out : List En} (h : Mid e m false out) : out ++ [e] = insL e m := by
  rcases h with ⟨_, h2, h3⟩ | ⟨h1, _⟩
  · have := insL_past [] h3
    rw [List.append_nil] at this
    rw [this, h2]; rfl
  · cases h1
theorem mid_stop {e : En} {m out : List En} (h : Mid e m true out) : out = insL e m := by
  rcases h with ⟨h1, _⟩ | ⟨_, h2, _⟩
  · cases h1
  · exact h2
theorem take_snoc {l : List En} {j : Nat} {x : En} (hx : l[j]? = some x) : l.take (j + 1) = l.take j ++ [x] := by rw [List.take_add_one, hx]; rfl
theorem bestL_snoc (A : Nat) (x : En) : ∀ (m : List En) (acc : Option En), bestL A (m ++ [x]) acc = if pHasB x.W x.n A = true ∧ (∀ y, bestL A m acc = some y → y.n < x.n) then some x else bestL A m acc
  | [], acc => rfl
  | z :: m, acc => by rw [List.cons_append, bestL, bestL_snoc A x m]; rfl
theorem bestL_miss {A j : Nat} {l : List En} {x : En} (hx : l[j]? = some x) (h : pHasB x.W x.n A = false) : bestL A (l.take (j + 1)) none = bestL A (l.take j) none := by
  rw [take_snoc hx, bestL_snoc, if_neg (by rw [h]; simp)]
theorem bestL_hit {A j : Nat} {l : List En} {x : En} (hx : l[j]? = some x) (h : pHasB x.W x.n A = true) (hb : ∀ y, bestL A (l.take j) none = some y → y.n < x.n) : bestL A (l.take (j + 1)) none = some x := by
  rw [take_snoc hx, bestL_snoc, if_pos ⟨h, hb⟩]
theorem bestL_keep {A j : Nat} {l : List En} {x y : En} (hx : l[j]? = some x) (hy : bestL A (l.take j) none = some y) (hb : ¬ y.n < x.n) : bestL A (l.take (j + 1)) none = some y := by
  rw [take_snoc hx, bestL_snoc, if_neg (fun q => hb (q.2 y hy)), hy]
theorem cells_new (w : World) (c : List Value) (t : TypeId) : ∀ (j : Nat) (u : Value), c[j]? = some u → (w.alloc (.cells c.toArray t)).cell? ((⟨w.heap.size, 0, none⟩ : Addr).add j) = some u := by
  intro j u hj
  have e : (⟨w.heap.size, 0, none⟩ : Addr).add j = ⟨w.heap.size, j, none⟩ := by simp [Addr.add]; intro h; omega
  rw [e, cell_row (heap_alloc_new w _)]
  simpa using hj
theorem oneCellsE (x : En) : ∀ u ∈ cellsE x, u.oneCell' = true := by
  intro u hu
  simp [cellsE] at hu
  rcases hu with rfl | rfl | rfl | rfl <;> rfl
theorem info_parts' {P : Program} {e : TypeId} {z : Option Value} {s b : Nat} (h : (P.info? e).map (fun i => (i.zero, i.size, i.bytes)) = some (z, s, b)) : ∃ i, P.info? e = some i ∧ i.zero = z ∧ i.size = s ∧ i.bytes = b := by
  cases hi : P.info? e with
  | none => rw [hi] at h; cases h
  | some i => rw [hi] at h; simp at h; exact ⟨i, rfl, h.1, h.2.1, h.2.2⟩
theorem OwnP.snoc {w : World} {base : Nat} {v : Value} {l : List En} {x : En} (h : w.ownsRow base 37 3 v (l.length + 1) (flatP l ++ cellsP x)) : OwnP w base v (l ++ [x]) := by
  unfold OwnP flatP
  rw [List.flatMap_append, List.length_append]
  simpa [flatP] using h
theorem OwnP.same {w w' : World} {base : Nat} {v : Value} {l : List En} (h : OwnP w base v l) (he : ∀ b, v.ownBlock = some b → w'.heap[b]? = w.heap[b]?) : OwnP w' base v l := by
  refine ⟨h.1, ?_⟩
  rcases h.2 with q | ⟨g, cap, cur, e, hb, hg, r⟩
  · exact .inl q
  · exact .inr ⟨g, cap, cur, e, hb, (he g (by rw [e]; rfl)).trans hg, r⟩
theorem OwnP.keep {w w' : World} {base : Nat} {v : Value} {l : List En} (h : OwnP w base v l) (hb : Below w.heap.size w w') : OwnP w' base v l :=
  h.same fun b hb' => hb.block b (World.ownsRow.lt h b hb').2
end

end Go.Proofs.YtoobiaifogackaaGreatDoor
