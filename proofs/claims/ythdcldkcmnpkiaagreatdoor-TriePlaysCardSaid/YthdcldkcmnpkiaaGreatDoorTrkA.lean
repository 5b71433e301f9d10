/-
  Layer 8: lists of entries and of prefixes in rows of the call's own.
  Layer 8: the document's lists, made element by element.
  Layer 8: node.collect: the list with what a tree holds behind it.
-/
import Derived.Test.YthdcldkcmnpkiaaGreatDoorTriE
import Derived.Test.YthdcldkcmnpkiaaGreatDoorTriX
import Derived.Deep.Slices
import Derived.Laws.AppendOwn
import Derived.OwnWalk
namespace Go.Proofs.YthdcldkcmnpkiaaGreatDoor
open Go.RowKit


def cellsE (x : En) : List Value := [.int .u64 (hiN x.W : Nat), .int .u64 (loN x.W : Nat), .int .i64 (x.n : Nat), .int .i64 x.v]
def cellsP (x : En) : List Value := [.int .u64 (hiN x.W : Nat), .int .u64 (loN x.W : Nat), .int .i64 (x.n : Nat)]
def flatE (l : List En) : List Value := l.flatMap cellsE
def flatP (l : List En) : List Value := l.flatMap cellsP
theorem flat_len (f : En → List Value) (s : Nat) (h : ∀ x, (f x).length = s) : ∀ l : List En, (l.flatMap f).length = l.length * s
  | [] => by simp
  | x :: l => by rw [List.flatMap_cons, List.length_append, h, flat_len f s h l, List.length_cons, Nat.add_mul]; omega
theorem flat_at (f : En → List Value) (s : Nat) (h : ∀ x, (f x).length = s) : ∀ (l : List En) (j : Nat) (x : En), l[j]? = some x → ∀ i, i < s → (l.flatMap f)[j * s + i]? = (f x)[i]?
  | [], j, x, e, i, hi => by simp at e
  | y :: l, 0, x, e, i, hi => by
    simp at e; subst e
    rw [List.flatMap_cons, List.getElem?_append_left (by rw [h]; omega)]; simp
  | y :: l, j + 1, x, e, i, hi => by
    rw [List.flatMap_cons, List.getElem?_append_right (by rw [h, Nat.add_mul]; omega), h, show (j + 1) * s + i - s = j * s + i from by rw [Nat.add_mul]; omega]
    exact flat_at f s h l j x (by simpa using e) i hi
theorem cellsE_len (x : En) : (cellsE x).length = 4 := rfl
theorem cellsP_len (x : En) : (cellsP x).length = 3 := rfl
/-- the slice v is a row of the call's own that holds these entries -/
def OwnE (w : World) (base : Nat) (v : Value) (l : List En) : Prop := w.ownsRow base 101 4 v l.length (flatE l)
def OwnP (w : World) (base : Nat) (v : Value) (l : List En) : Prop := w.ownsRow base 24 3 v l.length (flatP l)
/-- the slice v holds these prefixes -/
def RowP (w : World) (v : Value) (l : List En) : Prop :=
  ∃ ao c, v = .slice ao l.length c ∧ ∀ (j : Nat) (x : En), l[j]? = some x → ∃ ad, ao = some ad ∧ (w.cell? (Addr.add ad (j * 3)) = some (.int .u64 (hiN x.W : Nat)) ∧ w.cell? ⟨(Addr.add ad (j * 3)).block, (Addr.add ad (j * 3)).off + 1, none⟩ = some (.int .u64 (loN x.W : Nat)) ∧
    w.cell? ⟨(Addr.add ad (j * 3)).block, (Addr.add ad (j * 3)).off + 2, none⟩ = some (.int .i64 (x.n : Nat)))
theorem RowP.keep {w w' : World} {v : Value} {l : List En} (h : RowP w v l) (hb : Below w.heap.size w w') : RowP w' v l := by
  obtain ⟨ao, c, rfl, hc⟩ := h
  have kp : ∀ (p : Addr) (u : Value), w.cell? p = some u → w'.cell? p = some u := fun p u hp => (hb.cell (World.block_lt_of_cell? w p hp)).trans hp
  refine ⟨ao, c, rfl, fun j x hx => ?_⟩
  obtain ⟨ad, ha, c0, c1, c2⟩ := hc j x hx
  exact ⟨ad, ha, kp _ _ c0, kp _ _ c1, kp _ _ c2⟩
theorem OwnP.row {w : World} {base : Nat} {v : Value} {l : List En} (h : OwnP w base v l) : RowP w v l := by
  have h0 := h
  rcases h.2 with ⟨e, hn⟩ | ⟨g, cap, cur, e, _⟩
  · have : l = [] := List.eq_nil_of_length_eq_zero hn
    subst this
    exact ⟨none, 0, e, fun j x hx => by simp at hx⟩
  · refine ⟨_, _, e, fun j x hx => ⟨_, rfl, ?_, ?_, ?_⟩⟩
    · exact h0.cells (g := g) (by rw [e]; rfl) (j * 3) _ ((flat_at cellsP 3 cellsP_len l j x hx 0 (by omega)).trans rfl)
    · have := h0.cells (g := g) (by rw [e]; rfl) (j * 3 + 1) _ ((flat_at cellsP 3 cellsP_len l j x hx 1 (by omega)).trans rfl)
      rw [← Go.Deep.add_add] at this; exact this
    · have := h0.cells (g := g) (by rw [e]; rfl) (j * 3 + 2) _ ((flat_at cellsP 3 cellsP_len l j x hx 2 (by omega)).trans rfl)
      rw [← Go.Deep.add_add] at this; exact this
theorem OwnE.same {w w' : World} {base : Nat} {v : Value} {l : List En} (h : OwnE w base v l) (he : ∀ b, v.ownBlock = some b → w'.heap[b]? = w.heap[b]?) : OwnE w' base v l := by
  refine ⟨h.1, ?_⟩
  rcases h.2 with q | ⟨g, cap, cur, e, hb, hg, r⟩
  · exact .inl q
  · exact .inr ⟨g, cap, cur, e, hb, (he g (by rw [e]; rfl)).trans hg, r⟩
theorem OwnE.keep {w w' : World} {base : Nat} {v : Value} {l : List En} (h : OwnE w base v l) (hb : Below w.heap.size w w') : OwnE w' base v l :=
  h.same fun b hb' => hb.block b (World.ownsRow.lt h b hb').2
theorem OwnE.only {w w' : World} {base : Nat} {v : Value} {l : List En} {F : List Nat} (h : OwnE w base v l) (ho : Only F w w') (hn : ∀ b ∈ F, v.ownBlock ≠ some b) : OwnE w' base v l :=
  h.same fun b hb' => ho.block b (World.ownsRow.lt h b hb').2 (fun q => hn b q hb')
theorem OwnE.lower {w : World} {base base' : Nat} {v : Value} {l : List En} (h : OwnE w base v l) (hb : base' ≤ base) : OwnE w base' v l := by
  refine ⟨h.1, ?_⟩
  rcases h.2 with q | ⟨g, cap, cur, e, hg, r⟩
  · exact .inl q
  · exact .inr ⟨g, cap, cur, e, Nat.le_trans hb hg, r⟩
theorem ownE_nil (w : World) (base : Nat) : OwnE w base (.slice none 0 0) [] := World.ownsRow_nil _ _ _ _

theorem dropL_nil (P : Nat) (k : Int) : dropL [] P k = [] := rfl
theorem dropL_take_in {l : List En} {P : Nat} {k : Int} {j : Nat} {x : En} (hx : l[j]? = some x) (h : x.key P k = true) : dropL (l.take (j + 1)) P k = dropL (l.take j) P k := by
  rw [List.take_add_one, hx]; simp [dropL, List.filter_append, h]
theorem dropL_take_out {l : List En} {P : Nat} {k : Int} {j : Nat} {x : En} (hx : l[j]? = some x) (h : x.key P k = false) : dropL (l.take (j + 1)) P k = dropL (l.take j) P k ++ [x] := by
  rw [List.take_add_one, hx]; simp [dropL, List.filter_append, h]
theorem dropL_le (l : List En) (P : Nat) (k : Int) : (dropL l P k).length ≤ l.length := List.length_filter_le _ _
theorem getL_neg {P : Nat} {k : Int} (hk : k < 0) : ∀ l : List En, getL l P k = none
  | [] => rfl
  | x :: l => by
    have : x.key P k = false := by unfold En.key; rw [decide_eq_false_iff_not]; omega
    unfold getL; rw [this]; exact getL_neg hk l
theorem dropL_shortI {l : List En} (hs : l.Pairwise En.lt) (P : Nat) (k : Int) : decide ((dropL l P k).length < l.length) = (getL l P k).isSome := by
  by_cases hk : 0 ≤ k
  · obtain ⟨n, rfl⟩ : ∃ n : Nat, k = n := ⟨k.toNat, by omega⟩
    exact dropL_short hs P n
  · have := getL_neg (P := P) (k := k) (by omega) l
    rw [this, dropL_none this]; simp
theorem insL_past {e : En} : ∀ {m : List En} (r : List En), (∀ x ∈ m, befB e x = false) → insL e (m ++ r) = m ++ insL e r
  | [], r, _ => rfl
  | y :: m, r, h => by
    rw [List.cons_append, insL, if_neg (by rw [h y (List.mem_cons_self ..)]; simp), insL_past r (fun x hx => h x (List.mem_cons_of_mem _ hx))]; rfl
theorem insL_in {e : En} : ∀ {m : List En} (r : List En), (∃ x ∈ m, befB e x = true) → insL e (m ++ r) = insL e m ++ r
  | [], r, h => by obtain ⟨x, hx, _⟩ := h; cases hx
  | y :: m, r, h => by
    rw [List.cons_append, insL, insL]
    by_cases c : befB e y = true
    · rw [if_pos c, if_pos c]; rfl
    · rw [if_neg c, if_neg c, insL_in r (by
        obtain ⟨x, hx, hb⟩ := h
        rcases List.mem_cons.1 hx with q | q
        · rw [q] at hb; exact absurd hb c
        · exact ⟨x, q, hb⟩)]; rfl
/-- what is put out behind the list m, with e in its place or not yet -/
def Mid (e : En) (m : List En) (done : Bool) (out : List En) : Prop :=
  (done = false ∧ out = m ∧ ∀ x ∈ m, befB e x = false) ∨ (done = true ∧ out = insL e m ∧ ∃ x ∈ m, befB e x = true)
theorem mid_nil (e : En) : Mid e [] false [] := .inl ⟨rfl, rfl, fun x hx => by cases hx⟩
theorem mid_here {e x : En} {m out : List En} (h : Mid e m false out) (hb : befB e x = true) : Mid e (m ++ [x]) true (out ++ [e] ++ [x]) := by
  rcases h with ⟨_, h2, h3⟩ | ⟨h1, _⟩
  · refine .inr ⟨rfl, ?_, x, by simp, hb⟩
    rw [insL_past _ h3, h2, insL, if_pos hb]; simp
  · cases h1
theorem mid_on {e x : En} {m out : List En} (h : Mid e m false out) (hb : befB e x = false) : Mid e (m ++ [x]) false (out ++ [x]) := by
  rcases h with ⟨_, h2, h3⟩ | ⟨h1, _⟩
  · refine .inl ⟨rfl, by rw [h2], fun y hy => ?_⟩
    rcases List.mem_append.1 hy with q | q
    · exact h3 y q
    · rw [List.mem_singleton.1 q]; exact hb
  · cases h1
theorem mid_done {e x : En} {m out : List En} (h : Mid e m true out) : Mid e (m ++ [x]) true (out ++ [x]) := by
  rcases h with ⟨h1, _⟩ | ⟨_, h2, y, hy, hb⟩
  · cases h1
  · exact .inr ⟨rfl, by rw [h2, insL_in _ ⟨y, hy, hb⟩], y, List.mem_append_left _ hy, hb⟩
theorem mid_end {e : En} {m out : List En} (h : Mid e m false out) : out ++ [e] = insL e m := by
  rcases h with ⟨_, h2, h3⟩ | ⟨h1, _⟩
  · have := insL_past [] h3
    rw [List.append_nil] at this
    rw [this, h2]; rfl
  · cases h1
theorem mid_stop {e : En} {m out : List En} (h : Mid e m true out) : out = insL e m := by
  rcases h with ⟨h1, _⟩ | ⟨_, h2, _⟩
  · cases h1
  · exact h2
theorem mid_len {e : En} {m out : List En} {d : Bool} (h : Mid e m d out) : out.length ≤ m.length + 1 := by
  rcases h with ⟨_, h2, _⟩ | ⟨_, h2, _⟩
  · rw [h2]; omega
  · rw [h2, insL_len]; omega
theorem take_snoc {l : List En} {j : Nat} {x : En} (hx : l[j]? = some x) : l.take (j + 1) = l.take j ++ [x] := by rw [List.take_add_one, hx]; rfl
theorem bestL_snoc (A : Nat) (x : En) : ∀ (m : List En) (acc : Option En), bestL A (m ++ [x]) acc = if pHasB x.W x.n A = true ∧ (∀ y, bestL A m acc = some y → y.n < x.n) then some x else bestL A m acc
  | [], acc => rfl
  | z :: m, acc => by rw [List.cons_append, bestL, bestL_snoc A x m]; rfl
theorem bestL_miss {A j : Nat} {l : List En} {x : En} (hx : l[j]? = some x) (h : pHasB x.W x.n A = false) : bestL A (l.take (j + 1)) none = bestL A (l.take j) none := by
  rw [take_snoc hx, bestL_snoc, if_neg (by rw [h]; simp)]
theorem bestL_hit {A j : Nat} {l : List En} {x : En} (hx : l[j]? = some x) (h : pHasB x.W x.n A = true) (hb : ∀ y, bestL A (l.take j) none = some y → y.n < x.n) : bestL A (l.take (j + 1)) none = some x := by
  rw [take_snoc hx, bestL_snoc, if_pos ⟨h, hb⟩]
theorem bestL_keep {A j : Nat} {l : List En} {x y : En} (hx : l[j]? = some x) (hy : bestL A (l.take j) none = some y) (hb : ¬ y.n < x.n) : bestL A (l.take (j + 1)) none = some y := by
  rw [take_snoc hx, bestL_snoc, if_neg (fun q => hb (q.2 y hy)), hy]

theorem idx2_0 (W : World) (a b : Option Addr) : (Instr.index 107 (.agg #[.pointer a, .pointer b]) (.int .i64 0)).run Tryz.prog W = .ok (.pointer a) W := by
  simp [Instr.index, run_underlying Tryz.underlying107, asIntOf, go_sem, Tryz.sizeOf96, Tryz.isAgg96]
theorem idx2_1 (W : World) (a b : Option Addr) : (Instr.index 107 (.agg #[.pointer a, .pointer b]) (.int .i64 1)).run Tryz.prog W = .ok (.pointer b) W := by
  simp [Instr.index, run_underlying Tryz.underlying107, asIntOf, go_sem, Tryz.sizeOf96, Tryz.isAgg96]
theorem HT.ptr_is (T : HT) : ∃ u, T.ptr = .pointer u := by cases T <;> exact ⟨_, rfl⟩
theorem cells_new (w : World) (c : List Value) (t : TypeId) : ∀ (j : Nat) (u : Value), c[j]? = some u → (w.alloc (.cells c.toArray t)).cell? ((⟨w.heap.size, 0, none⟩ : Addr).add j) = some u := by
  intro j u hj
  have e : (⟨w.heap.size, 0, none⟩ : Addr).add j = ⟨w.heap.size, j, none⟩ := by simp [Addr.add]; intro h; omega
  rw [e, cell_row (heap_alloc_new w _)]
  simpa using hj
theorem oneCells (x : En) : ∀ u ∈ cellsP x, u.oneCell' = true := by
  intro u hu
  simp [cellsP] at hu
  rcases hu with rfl | rfl | rfl <;> rfl
theorem oneCellsE (x : En) : ∀ u ∈ cellsE x, u.oneCell' = true := by
  intro u hu
  simp [cellsE] at hu
  rcases hu with rfl | rfl | rfl | rfl <;> rfl
theorem infoP : (Tryz.prog.info? 24).map (fun i => (i.zero, i.size, i.bytes)) = some (some (.agg #[.int .u64 0, .int .u64 0, .int .i64 0]), 3, 24) := by kernel_rfl
theorem info_parts' {P : Program} {e : TypeId} {z : Option Value} {s b : Nat} (h : (P.info? e).map (fun i => (i.zero, i.size, i.bytes)) = some (z, s, b)) : ∃ i, P.info? e = some i ∧ i.zero = z ∧ i.size = s ∧ i.bytes = b := by
  cases hi : P.info? e with
  | none => rw [hi] at h; cases h
  | some i => rw [hi] at h; simp at h; exact ⟨i, rfl, h.1, h.2.1, h.2.2⟩
theorem OwnP.snoc {w : World} {base : Nat} {v : Value} {l : List En} {x : En} (h : w.ownsRow base 24 3 v (l.length + 1) (flatP l ++ cellsP x)) : OwnP w base v (l ++ [x]) := by
  unfold OwnP flatP
  rw [List.flatMap_append, List.length_append]
  simpa [flatP] using h
theorem OwnP.same {w w' : World} {base : Nat} {v : Value} {l : List En} (h : OwnP w base v l) (he : ∀ b, v.ownBlock = some b → w'.heap[b]? = w.heap[b]?) : OwnP w' base v l := by
  refine ⟨h.1, ?_⟩
  rcases h.2 with q | ⟨g, cap, cur, e, hb, hg, r⟩
  · exact .inl q
  · exact .inr ⟨g, cap, cur, e, hb, (he g (by rw [e]; rfl)).trans hg, r⟩
theorem OwnP.keep {w w' : World} {base : Nat} {v : Value} {l : List En} (h : OwnP w base v l) (hb : Below w.heap.size w w') : OwnP w' base v l :=
  h.same fun b hb' => hb.block b (World.ownsRow.lt h b hb').2

/-- the slice that comes back holds the list; what is below the base is as it was -/
def RetS (base : Nat) (w : World) (l : List En) (e : Ending) (w' : World) : Prop := ∃ v', e = .returned v' ∧ OwnP w' base v' l ∧ Below base w w'
set_option maxHeartbeats 1000000 in
theorem collect_nil (w : World) (base : Nat) (sv : Value) (m : List En) (hown : OwnP w base sv m) : Calls Tryz.prog 62 #[HT.nil.ptr, sv] w (RetS base w (m ++ HT.nil.pt.list)) := by
  show Calls Tryz.prog 62 #[.pointer none, sv] w _
  have H := Lib.hid hown
  clear hown
  go_enter Tryz.func62, Tryz.ntmps62
  go_wp2
  go_ret
  exact ⟨_, rfl, by simpa [HT.pt, PT.list] using H.out, Below.refl _ _⟩
set_option maxRecDepth 100000 in
set_option maxHeartbeats 8000000 in
theorem collect_sides (b W n : Nat) (v : Int) (h : Bool) (l r : HT) (w : World) (base : Nat) (sv : Value) (m : List En) (hin : (HT.node b W n v h l r).In w) (hbase : base ≤ w.heap.size) (hown : OwnP w base sv m) (hlen : m.length + ((if h = true then 1 else 0) + (l.pt.list.length + r.pt.list.length)) < 1000000) (hbb : b < base)
    (HL : Hid (∀ X sv m, Below base w X → OwnP X base sv m → m.length + l.pt.list.length < 1000000 → Calls Tryz.prog 62 #[l.ptr, sv] X (RetS base X (m ++ l.pt.list))))
    (HR : Hid (∀ X sv m, Below base w X → OwnP X base sv m → m.length + r.pt.list.length < 1000000 → Calls Tryz.prog 62 #[r.ptr, sv] X (RetS base X (m ++ r.pt.list)))) :
    Calls Tryz.prog 62 #[(HT.node b W n v h l r).ptr, sv] w (RetS base w (m ++ (HT.node b W n v h l r).pt.list)) := by
  show Calls Tryz.prog 62 #[.pointer (some ⟨b, 0, none⟩), sv] w _
  obtain ⟨⟨c0, c1, c2⟩, c3, c4, c5, c6⟩ := node_cells hin.1
  obtain ⟨ul, hul⟩ := HT.ptr_is l
  obtain ⟨ur, hur⟩ := HT.ptr_is r
  have HUL := Lib.hid hul
  have HUR := Lib.hid hur
  rw [hul] at c5
  rw [hur] at c6
  have hi0 := fun W => idx2_0 W ul ur
  have hi1 := fun W => idx2_1 W ul ur
  obtain ⟨i0, hi, hz0, hz1, hz2⟩ := info_parts' infoP
  have HPP : Hid (∀ V, Below base w V → (V.cell? ⟨b, 5, none⟩ = some (.pointer ul) ∧ V.cell? ⟨b, 6, none⟩ = some (.pointer ur))) := fun V hV => ⟨(hV.cell hbb).trans c5, (hV.cell hbb).trans c6⟩
  have HLIST : Hid ((HT.node b W n v h l r).pt.list = (if h = true then [⟨W, n, v⟩] else []) ++ (l.pt.list ++ r.pt.list)) := rfl
  have HX : Hid (cellsP ⟨W, n, v⟩ = [.int .u64 (hiN W : Nat), .int .u64 (loN W : Nat), .int .i64 (n : Nat)]) := rfl
  have hlt := block_lt hin.1
  have HL' : Hid (∀ X sv m, Below base w X → OwnP X base sv m → m.length + l.pt.list.length < 1000000 → Calls Tryz.prog 62 #[.pointer ul, sv] X (RetS base X (m ++ l.pt.list))) := by have := HL.out; rwa [HUL.out] at this
  have HR' : Hid (∀ X sv m, Below base w X → OwnP X base sv m → m.length + r.pt.list.length < 1000000 → Calls Tryz.prog 62 #[.pointer ur, sv] X (RetS base X (m ++ r.pt.list))) := by have := HR.out; rwa [HUR.out] at this
  clear hin hul hur HL HR
  generalize hiN W = wh at *
  generalize loN W = wl at *
  cases h with
  | false =>
    simp only [Bool.false_eq_true, if_false] at hlen
    have HEND : Hid ((HT.node b W n v false l r).pt.list = l.pt.list ++ r.pt.list) := by show _ = _; rw [HLIST.out]; simp
    have H0 := Lib.hid (And.intro (Below.refl base w) hown)
    clear hown
    go_enter Tryz.func62, Tryz.ntmps62
    go_wp2
    go_loopw [25, 1] (fun i s wr => (i = .int .i64 0 ∧ Hid (Below base w wr ∧ OwnP wr base s m)) ∨ (i = .int .i64 1 ∧ Hid (Below base w wr ∧ OwnP wr base s (m ++ l.pt.list))) ∨ (i = .int .i64 2 ∧ Hid (Below base w wr ∧ OwnP wr base s (m ++ l.pt.list ++ r.pt.list)))) (fun i _ _ => 2 - (intOf i).toNat)
    case atStart => exact .inl ⟨rfl, H0⟩
    case round =>
      rcases hrel with ⟨rfl, HS⟩ | ⟨rfl, HS⟩ | ⟨rfl, HS⟩
      · go_wp2_with fail
        refine (HL'.out _ _ _ HS.out.1 HS.out.2 (by omega)).mono ?_
        rintro e y ⟨sv', rfl, ho, hb⟩
        have HS1 := Lib.hid (And.intro (HS.out.1.trans hb) ho)
        clear ho hb
        go_wp2
        go_roundw
        case rel => exact .inr (.inl ⟨by go_num, HS1⟩)
        case measure => simp [intOf]
      · go_wp2_with fail
        refine (HR'.out _ _ _ HS.out.1 HS.out.2 (by simp; omega)).mono ?_
        rintro e y ⟨sv', rfl, ho, hb⟩
        have HS1 := Lib.hid (And.intro (HS.out.1.trans hb) ho)
        clear ho hb
        go_wp2
        go_roundw
        case rel => exact .inr (.inr ⟨by go_num, HS1⟩)
        case measure => simp [intOf]
      · go_wp2
        go_ret
        exact ⟨_, rfl, by rw [HEND.out, ← List.append_assoc]; exact HS.out.2, HS.out.1⟩
  | true =>
    simp only [if_true] at hlen
    have HEND : Hid ((HT.node b W n v true l r).pt.list = [⟨W, n, v⟩] ++ (l.pt.list ++ r.pt.list)) := by show _ = _; rw [HLIST.out]; simp
    have hcn := cells_new w [.int .u64 (wh : Nat), .int .u64 (wl : Nat), .int .i64 (n : Nat)] 24
    have hoc : ∀ u ∈ [Value.int .u64 (wh : Nat), .int .u64 (wl : Nat), .int .i64 (n : Nat)], u.oneCell' = true := by
      intro u hu
      simp at hu
      rcases hu with rfl | rfl | rfl <;> rfl
    have HOA := Lib.hid (hown.keep ((Below.refl _ _).alloc (Nat.le_refl _) (.cells #[.int .u64 (wh : Nat), .int .u64 (wl : Nat), .int .i64 (n : Nat)] 24)))
    have HGR : Hid (∀ Y, (w.alloc (.cells #[.int .u64 (wh : Nat), .int .u64 (wl : Nat), .int .i64 (n : Nat)] 24)).grownBy Y sv.ownBlock → Below base w Y) := fun Y hY =>
      ((Below.refl base w).alloc hbase _).grown hY (by simp; omega) (fun k hk => (World.ownsRow.lt hown k hk).1)
    go_enter Tryz.func62, Tryz.ntmps62
    go_wp2_with (first
      | (at_builtin; refine wpList_append_own _ rfl _ _ 62 rfl base 24 i0 (.agg #[.int .u64 0, .int .u64 0, .int .i64 0]) 3 24 Tryz.underlying62 hi hz0 hz1 hz2 rfl (by decide) sv m.length (flatP m) rfl HOA.out ⟨w.heap.size, 0, none⟩ 1 1 [.int .u64 (wh : Nat), .int .u64 (wl : Nat), .int .i64 (n : Nat)] rfl rfl hcn hoc (by unfold maxLen; omega) (by omega) (by simp; omega) ?_; intro sv1 w1 hown1 hgrow1 hnil1; have hbw := HGR.out _ hgrow1; obtain ⟨p5, p6⟩ := HPP.out _ hbw)
      | go_in)
    rw [← HX.out] at hown1
    have HS0 := Lib.hid (And.intro hbw (OwnP.snoc hown1 : OwnP w1 base sv1 (m ++ [⟨W, n, v⟩])))
    have hlm : (m ++ [(⟨W, n, v⟩ : En)]).length = m.length + 1 := by simp
    obtain ⟨m1, hm1⟩ : ∃ m1, m ++ [(⟨W, n, v⟩ : En)] = m1 := ⟨_, rfl⟩
    rw [hm1] at HS0 hlm
    have HM1 := Lib.hid hm1
    clear hm1
    clear hown1 hgrow1 hnil1 hown HOA HGR hcn hoc p5 p6
    go_loopw [25, 1] (fun i s wr => (i = .int .i64 0 ∧ Hid (Below base w wr ∧ OwnP wr base s m1)) ∨ (i = .int .i64 1 ∧ Hid (Below base w wr ∧ OwnP wr base s (m1 ++ l.pt.list))) ∨ (i = .int .i64 2 ∧ Hid (Below base w wr ∧ OwnP wr base s (m1 ++ l.pt.list ++ r.pt.list)))) (fun i _ _ => 2 - (intOf i).toNat)
    case atStart => exact .inl ⟨rfl, HS0⟩
    case round =>
      rcases hrel with ⟨rfl, HS⟩ | ⟨rfl, HS⟩ | ⟨rfl, HS⟩
      · go_wp2_with fail
        refine (HL'.out _ _ _ HS.out.1 HS.out.2 (by omega)).mono ?_
        rintro e y ⟨sv', rfl, ho, hb⟩
        have HS1 := Lib.hid (And.intro (HS.out.1.trans hb) ho)
        clear ho hb
        go_wp2
        go_roundw
        case rel => exact .inr (.inl ⟨by go_num, HS1⟩)
        case measure => simp [intOf]
      · go_wp2_with fail
        refine (HR'.out _ _ _ HS.out.1 HS.out.2 (by simp; omega)).mono ?_
        rintro e y ⟨sv', rfl, ho, hb⟩
        have HS1 := Lib.hid (And.intro (HS.out.1.trans hb) ho)
        clear ho hb
        go_wp2
        go_roundw
        case rel => exact .inr (.inr ⟨by go_num, HS1⟩)
        case measure => simp [intOf]
      · go_wp2
        go_ret
        exact ⟨_, rfl, by rw [HEND.out, ← List.append_assoc, HM1.out, ← List.append_assoc]; exact HS.out.2, HS.out.1⟩
theorem collect_any : ∀ (T : HT) (w : World) (base : Nat) (sv : Value) (m : List En), T.In w → (∀ b ∈ T.blocks, b < base) → base ≤ w.heap.size → OwnP w base sv m → m.length + T.pt.list.length < 1000000 → Calls Tryz.prog 62 #[T.ptr, sv] w (RetS base w (m ++ T.pt.list))
  | .nil, w, base, sv, m, _, _, _, ho, _ => collect_nil w base sv m ho
  | .node b W n v h l r, w, base, sv, m, hin, hb, hbase, ho, hlen => by
    have e : (HT.node b W n v h l r).pt.list.length = (if h = true then 1 else 0) + (l.pt.list.length + r.pt.list.length) := by
      show ((if h = true then [(⟨W, n, v⟩ : En)] else []) ++ (l.pt.list ++ r.pt.list)).length = _
      cases h <;> simp; omega
    exact collect_sides b W n v h l r w base sv m hin hbase ho (by rw [← e]; exact hlen) (hb b (List.mem_cons_self ..))
      (fun X sv' m' hX ho' hl' => collect_any l X base sv' m' (HT.in_belowB hin.2.2.1 hX (fun x hx => hb x (List.mem_cons_of_mem _ (List.mem_append_left _ hx)))) (fun x hx => hb x (List.mem_cons_of_mem _ (List.mem_append_left _ hx))) (Nat.le_trans hbase hX.size) ho' hl')
      (fun X sv' m' hX ho' hl' => collect_any r X base sv' m' (HT.in_belowB hin.2.2.2 hX (fun x hx => hb x (List.mem_cons_of_mem _ (List.mem_append_right _ hx)))) (fun x hx => hb x (List.mem_cons_of_mem _ (List.mem_append_right _ hx))) (Nat.le_trans hbase hX.size) ho' hl')
end Go.Proofs.YthdcldkcmnpkiaaGreatDoor
