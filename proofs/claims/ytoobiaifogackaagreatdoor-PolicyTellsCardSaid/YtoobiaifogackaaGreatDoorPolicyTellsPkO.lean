/-
  What the law PolicyTells leans on, and its walk (15 of 16).
-/
import Derived.Test.YtoobiaifogackaaGreatDoorPolicyTellsPkJ
import Derived.Test.YtoobiaifogackaaGreatDoorPolicyTellsPkL
namespace Go.Proofs.YtoobiaifogackaaGreatDoor
section
open Go.RowKit
theorem OwnE.row {w : World} {base : Nat} {v : Value} {l : List En} (h : OwnE w base v l) : RowE w v l := by
  have h0 := h
  rcases h.2 with ⟨e, hn⟩ | ⟨g, cap, cur, e, _⟩
  · have : l = [] := List.eq_nil_of_length_eq_zero hn
    subst this
    exact ⟨none, 0, e, fun j x hx => by simp at hx⟩
  · refine ⟨_, _, e, fun j x hx => ⟨_, rfl, ?_, ?_, ?_, ?_⟩⟩
    · exact h0.cells (g := g) (by rw [e]; rfl) (j * 4) _ ((flat_at cellsE 4 cellsE_len l j x hx 0 (by omega)).trans rfl)
    · have := h0.cells (g := g) (by rw [e]; rfl) (j * 4 + 1) _ ((flat_at cellsE 4 cellsE_len l j x hx 1 (by omega)).trans rfl)
      rw [← Go.Deep.add_add] at this; exact this
    · have := h0.cells (g := g) (by rw [e]; rfl) (j * 4 + 2) _ ((flat_at cellsE 4 cellsE_len l j x hx 2 (by omega)).trans rfl)
      rw [← Go.Deep.add_add] at this; exact this
    · have := h0.cells (g := g) (by rw [e]; rfl) (j * 4 + 3) _ ((flat_at cellsE 4 cellsE_len l j x hx 3 (by omega)).trans rfl)
      rw [← Go.Deep.add_add] at this; exact this
theorem neqPr_guard (u v : Array Value) : ∀ (p q : Operand) (W : World), (eqGuard .neq 50 p q (.agg u) (.agg v)).run Tryz.prog W = .ok () W := by
  intro p q W; kernel_rfl
theorem neqPr (a b c a' b' c' : Int) : ∀ W : World, (binOp .neq 50 (.agg #[.int .u64 a, .int .u64 b, .int .i64 c]) (.agg #[.int .u64 a', .int .u64 b', .int .i64 c'])).run Tryz.prog W = .ok (.bool (!(a == a' && (b == b' && c == c')))) W := by
  intro W
  have e1 : (Op.equal 50 (.agg #[.int .u64 a, .int .u64 b, .int .i64 c]) (.agg #[.int .u64 a', .int .u64 b', .int .i64 c'])).run Tryz.prog W = .ok (a == a' && (b == b' && c == c')) W := by
    show (Op.equalIn 10000 50 _ _).run Tryz.prog W = _
    rw [run_equalIn_struct W 9999 50 _ _ (by kernel_rfl) (by kernel_rfl)]
    simp [Program.fieldsOf, Tryz.underlying50, Op.eqFields, go_sem, part, Tryz.sizeOf22, Tryz.isAgg22, Tryz.underlying22, Tryz.sizeOf3, Tryz.isAgg3, Tryz.underlying3]
    by_cases g1 : a = a' <;> by_cases g2 : b = b' <;> by_cases g3 : c = c' <;> simp [g1, g2, g3]
  show ((Op.equal _ _ _ >>= fun b => pure (Value.bool (!b))) : Sem Value).run _ _ = _
  rw [Sem.run_bind, e1]; rfl
theorem infoE : (Tryz.prog.info? 134).map (fun i => (i.zero, i.size, i.bytes)) = some (some (.agg #[.int .u64 0, .int .u64 0, .int .i64 0, .int .i64 0]), 4, 32) := by kernel_rfl
theorem OwnE.snoc {w : World} {base : Nat} {v : Value} {l : List En} {x : En} (h : w.ownsRow base 134 4 v (l.length + 1) (flatE l ++ cellsE x)) : OwnE w base v (l ++ [x]) := by
  unfold OwnE flatE
  rw [List.flatMap_append, List.length_append]
  simpa [flatE] using h
theorem OwnE.form {w : World} {base : Nat} {v : Value} {l : List En} (h : OwnE w base v l) : ∃ a c, v = .slice a l.length c := by
  rcases h.2 with ⟨e, hn⟩ | ⟨g, cap, cur, e, _⟩
  · exact ⟨_, _, by rw [e, hn]⟩
  · exact ⟨_, _, e⟩
theorem Blks.keepB {L : List (Nat × Array Value × TypeId)} {x y : World} {B : Nat} (h : Blks L x) (hb : Below B x y) (hL : ∀ e ∈ L, e.1 < B) : Blks L y := fun e he => (hb.block e.1 (hL e he)).trans (h e he)
/-- a list under way, in a row of the call's own behind the call's blocks -/
structure LS (w x : World) (base : Nat) (L : List (Nat × Array Value × TypeId)) (s : Value) (m : List En) : Prop where
  below : Below w.heap.size w x
  blks : Blks L x
  lt : ∀ e ∈ L, e.1 < base
  row : OwnE x base s m
  size : base ≤ x.heap.size
  old : w.heap.size ≤ base
theorem LS.keep {w x y : World} {base : Nat} {L : List (Nat × Array Value × TypeId)} {s : Value} {m : List En} (h : LS w x base L s m) (hb : Below x.heap.size x y) : LS w y base L s m :=
  ⟨below_chain7 h.below hb, h.blks.keep hb, h.lt, h.row.keep hb, Nat.le_trans h.size hb.size, h.old⟩
theorem LS.app {w x y z : World} {base : Nat} {L : List (Nat × Array Value × TypeId)} {s s' : Value} {m : List En} {e : En} (h : LS w x base L s m) (hb : Below x.heap.size x y) (hg : y.grownBy z s.ownBlock) (hr : z.ownsRow base 134 4 s' (m.length + 1) (flatE m ++ cellsE e)) : LS w z base L s' (m ++ [e]) := by
  have h1 := h.keep hb
  have h2 : Below base y z := (Below.refl base y).grown hg h1.size (fun k hk => (World.ownsRow.lt h1.row k hk).1)
  exact ⟨h1.below.trans (h2.mono h.old), h1.blks.keepB h2 h.lt, h.lt, OwnE.snoc hr, Nat.le_trans h1.size h2.size, h.old⟩
theorem cells4_new (w : World) (x : En) : ∀ (j : Nat) (u : Value), [Value.int .u64 (hiN x.W : Nat), .int .u64 (loN x.W : Nat), .int .i64 (x.n : Nat), .int .i64 x.v][j]? = some u → (w.alloc (.cells #[.int .u64 (hiN x.W : Nat), .int .u64 (loN x.W : Nat), .int .i64 (x.n : Nat), .int .i64 x.v] 134)).cell? ((⟨w.heap.size, 0, none⟩ : Addr).add j) = some u :=
  cells_new w _ _
theorem hoc4 (x : En) : ∀ u ∈ [Value.int .u64 (hiN x.W : Nat), .int .u64 (loN x.W : Nat), .int .i64 (x.n : Nat), .int .i64 x.v], u.oneCell' = true := oneCellsE x
set_option maxRecDepth 100000 in
set_option maxHeartbeats 8000000 in
theorem refDrop8_any (v : Value) (l : List En) (hi lo : Nat) (k : Int) (w : World) (h2 : lo < 18446744073709551616) (hl : l.length < 100000) (hr : RowE w v l) :
    Calls Tryz.prog 92 #[v, .agg #[.int .u64 (hi : Nat), .int .u64 (lo : Nat), .int .i64 k]] w fun e w' => ∃ v', e = .returned (.tuple #[v', .bool (decide ((dropL l (wideN hi lo) k).length < l.length))]) ∧ OwnE w' w.heap.size v' (dropL l (wideN hi lo) k) ∧ Below w.heap.size w w' := by
  have HR := Lib.hid (fun w' (hb : Below w.heap.size w w') => hr.keep hb)
  obtain ⟨ao, c, rfl, hc⟩ := hr
  have HC : Hid (∀ (wr : World), Below w.heap.size w wr → ∀ (j : Nat) (x : En), l[j]? = some x → ∃ ad, ao = some ad ∧ (wr.cell? (Addr.add ad (j * 4)) = some (.int .u64 (hiN x.W : Nat)) ∧ wr.cell? ⟨(Addr.add ad (j * 4)).block, (Addr.add ad (j * 4)).off + 1, none⟩ = some (.int .u64 (loN x.W : Nat)) ∧
    wr.cell? ⟨(Addr.add ad (j * 4)).block, (Addr.add ad (j * 4)).off + 2, none⟩ = some (.int .i64 (x.n : Nat)) ∧ wr.cell? ⟨(Addr.add ad (j * 4)).block, (Addr.add ad (j * 4)).off + 3, none⟩ = some (.int .i64 x.v))) := fun wr hb j x hx => by
    obtain ⟨ao', c', e, hc'⟩ := HR.out wr hb
    simp only [Value.slice.injEq] at e
    obtain ⟨rfl, _, rfl⟩ := e
    exact hc' j x hx
  clear hc HR
  obtain ⟨i0, hi0, hz0, hz1, hz2⟩ := info_parts' infoE
  have hg := neqPr_guard
  have HE := Lib.hid (fun x : En => neqPr (hiN x.W) (loN x.W) x.n hi lo k)
  have HKEY := Lib.hid (fun x : En => key_is (x := x) (hi := hi) (lo := lo) (k := k) h2)
  have HLE := Lib.hid (fun j => dropL_le (l.take j) (wideN hi lo) k)
  have HS0 : Hid (LS w (w.alloc (.cells #[.int .u64 (hi : Nat), .int .u64 (lo : Nat), .int .i64 k] 50)) (w.heap.size + 1) [(w.heap.size, #[.int .u64 (hi : Nat), .int .u64 (lo : Nat), .int .i64 k], 50)] (.slice none 0 0) (dropL (l.take 0) (wideN hi lo) k)) :=
    ⟨(Below.refl _ _).alloc (Nat.le_refl _) _, (Blks.empty w).new _ _, fun e he => by rw [List.mem_singleton.1 he]; exact Nat.lt_succ_self _, ownE_nil _ _, by simp, Nat.le_succ _⟩
  clear h2
  go_enter Tryz.func92, Tryz.ntmps92
  go_wp2
  go_loopw [11, 6] (fun i s wr => ∃ j : Nat, j ≤ l.length ∧ i = .int .i64 j ∧ Hid (LS w wr (w.heap.size + 1) [(w.heap.size, #[.int .u64 (hi : Nat), .int .u64 (lo : Nat), .int .i64 k], 50)] s (dropL (l.take j) (wideN hi lo) k))) (fun i _ _ => l.length - (intOf i).toNat)
  case atStart => exact ⟨0, Nat.zero_le _, rfl, HS0⟩
  case round =>
    obtain ⟨j, hj, rfl, HS⟩ := hrel
    by_cases hlt : j < l.length
    · have hjl : (j : Int) < l.length := by omega
      obtain ⟨x, hx⟩ : ∃ x, l[j]? = some x := ⟨_, List.getElem?_eq_getElem hlt⟩
      obtain ⟨ad, rfl, c0, c1, c2, c3⟩ := HC.out wr HS.out.below j x hx
      obtain ⟨l1, d0, d1, d2⟩ := HS.out.blks.r3 (.head _)
      have he := HE.out x
      rw [HKEY.out x] at he
      cases hk : x.key (wideN hi lo) k with
      | true =>
        rw [hk] at he
        have HD := Lib.hid (dropL_take_in hx hk)
        have HS1 := Lib.hid (HS.out.keep ((Below.refl _ _).alloc (Nat.le_refl _) (.cells #[.int .u64 (hiN x.W : Nat), .int .u64 (loN x.W : Nat), .int .i64 (x.n : Nat), .int .i64 x.v] 134)))
        rw [← HD.out] at HS1
        clear hx hk
        go_wp2
        go_roundw
        case rel => exact ⟨j + 1, by omega, by go_num, HS1⟩
        case measure => simp [intOf]; omega
      | false =>
        rw [hk] at he
        have HD := Lib.hid (dropL_take_out hx hk)
        have hle : (dropL (l.take j) (wideN hi lo) k).length ≤ l.length := Nat.le_trans (HLE.out j) (by simp; omega)
        have hb1 : Below wr.heap.size wr (wr.alloc (.cells #[.int .u64 (hiN x.W : Nat), .int .u64 (loN x.W : Nat), .int .i64 (x.n : Nat), .int .i64 x.v] 134)) := (Below.refl _ _).alloc (Nat.le_refl _) _
        have hb2 : Below wr.heap.size wr ((wr.alloc (.cells #[.int .u64 (hiN x.W : Nat), .int .u64 (loN x.W : Nat), .int .i64 (x.n : Nat), .int .i64 x.v] 134)).alloc (.cells #[.int .u64 (hiN x.W : Nat), .int .u64 (loN x.W : Nat), .int .i64 (x.n : Nat), .int .i64 x.v] 134)) := hb1.alloc hb1.size _
        have HB2 := Lib.hid hb2
        have HOA := Lib.hid (HS.out.keep hb2)
        have hcn := cells4_new (wr.alloc (.cells #[.int .u64 (hiN x.W : Nat), .int .u64 (loN x.W : Nat), .int .i64 (x.n : Nat), .int .i64 x.v] 134)) x
        rw [show (wr.alloc (.cells #[.int .u64 (hiN x.W : Nat), .int .u64 (loN x.W : Nat), .int .i64 (x.n : Nat), .int .i64 x.v] 134)).heap.size = wr.heap.size + 1 from by simp] at hcn
        clear hx hk hb1 hb2
        go_wp2_with (first
          | (at_builtin; refine wpList_append_own _ rfl _ _ 130 rfl (w.heap.size + 1) 134 i0 (.agg #[.int .u64 0, .int .u64 0, .int .i64 0, .int .i64 0]) 4 32 Tryz.underlying130 hi0 hz0 hz1 hz2 rfl (by decide) u6 (dropL (l.take j) (wideN hi lo) k).length (flatE (dropL (l.take j) (wideN hi lo) k)) rfl HOA.out.row ⟨wr.heap.size + 1, 0, none⟩ 1 1 [.int .u64 (hiN x.W : Nat), .int .u64 (loN x.W : Nat), .int .i64 (x.n : Nat), .int .i64 x.v] rfl rfl hcn (hoc4 x) (by unfold maxLen; omega) (by omega) HOA.out.size ?_; intro s1 w1 hown1 hgrow1 hnil1)
          | go_in)
        have HS1 := Lib.hid (HS.out.app (e := x) HB2.out hgrow1 hown1)
        rw [← HD.out] at HS1
        clear hown1 hgrow1 hnil1
        go_roundw
        case rel => exact ⟨j + 1, by omega, by go_num, HS1⟩
        case measure => simp [intOf]; omega
    · have hjl : ¬ (j : Int) < l.length := by omega
      rw [List.take_of_length_le (by omega)] at HS
      obtain ⟨sa, sc, rfl⟩ := HS.out.row.form
      have hd : decide (((dropL l (wideN hi lo) k).length : Int) < (l.length : Int)) = decide ((dropL l (wideN hi lo) k).length < l.length) := by rw [Bool.eq_iff_iff, decide_eq_true_iff, decide_eq_true_iff]; omega
      go_wp2
      go_ret2
      exact ⟨_, rfl, HS.out.row.lower (Nat.le_succ _), HS.out.below⟩
set_option maxRecDepth 100000 in
set_option maxHeartbeats 16000000 in
theorem refPut8_any (v : Value) (l : List En) (hi lo m : Nat) (u : Int) (w : World) (h1 : hi < 18446744073709551616) (h2 : lo < 18446744073709551616) (hm : pRightB (wideN hi lo) m = true) (hl : l.length < 100000) (hr : RowE w v l) :
    Calls Tryz.prog 65 #[v, .agg #[.int .u64 (hi : Nat), .int .u64 (lo : Nat), .int .i64 (m : Nat)], .int .i64 u] w fun e w' => ∃ v', e = .returned (.tuple #[v', .bool true]) ∧ OwnE w' w.heap.size v' (putL l (wideN hi lo) m u) ∧ Below w.heap.size w w' := by
  have HR : Hid (∀ W, Calls Tryz.prog 62 #[.agg #[.int .u64 (hi : Nat), .int .u64 (lo : Nat), .int .i64 (m : Nat)]] W fun e w' => e = .returned (.bool true) ∧ Below W.heap.size W w') := fun W => by
    have := refRight7_any hi lo m W h1 h2; rwa [hm] at this
  have HD : Hid (∀ X, Below w.heap.size w X → Calls Tryz.prog 92 #[v, .agg #[.int .u64 (hi : Nat), .int .u64 (lo : Nat), .int .i64 (m : Nat)]] X fun e w' => ∃ v' b, e = .returned (.tuple #[v', .bool b]) ∧ OwnE w' X.heap.size v' (dropL l (wideN hi lo) m) ∧ Below X.heap.size X w') := fun X hX =>
    (refDrop8_any v l hi lo m X h2 hl (hr.keep hX)).mono fun _ _ ⟨v', a, b, c⟩ => ⟨v', _, a, b, c⟩
  obtain ⟨e0, he0⟩ : ∃ e0 : En, e0 = ⟨wideN hi lo, m, u⟩ := ⟨_, rfl⟩
  have HPUT : Hid (putL l (wideN hi lo) m u = insL e0 (dropL l (wideN hi lo) m)) := by show _ = _; rw [he0]; rfl
  have HX : Hid (cellsE e0 = [.int .u64 (hi : Nat), .int .u64 (lo : Nat), .int .i64 (m : Nat), .int .i64 u]) := by show _ = _; rw [he0]; simp only [cellsE, hiN_wide h2, loN_wide h2]
  have HBF : Hid (∀ (x : En) X, Calls Tryz.prog 93 #[.agg #[.int .u64 (hi : Nat), .int .u64 (lo : Nat), .int .i64 (m : Nat)], .agg #[.int .u64 (hiN x.W : Nat), .int .u64 (loN x.W : Nat), .int .i64 (x.n : Nat)]] X fun e w' => e = .returned (.bool (befB e0 x)) ∧ Below X.heap.size X w') := fun x X => by
    have := before_any hi lo m (hiN x.W) (loN x.W) x.n u x.v X h2 (loN_lt x.W)
    rw [wide_split] at this
    rw [he0]; exact this
  have hoce : ∀ q ∈ [Value.int .u64 (hi : Nat), .int .u64 (lo : Nat), .int .i64 (m : Nat), .int .i64 u], q.oneCell' = true := by
    intro q hq
    simp at hq
    rcases hq with rfl | rfl | rfl | rfl <;> rfl
  have HDL : Hid ((dropL l (wideN hi lo) m).length ≤ l.length) := dropL_le _ _ _
  obtain ⟨rest, hrest⟩ : ∃ r, dropL l (wideN hi lo) m = r := ⟨_, rfl⟩
  rw [hrest] at HD HPUT HDL
  have hrl : rest.length < 100000 := Nat.lt_of_le_of_lt HDL.out hl
  obtain ⟨i0, hi0, hz0, hz1, hz2⟩ := info_parts' infoE
  rw [HPUT.out]
  clear hm hr he0 HPUT hrest HDL h1 h2 hl
  go_enter Tryz.func65, Tryz.ntmps65
  go_wp2_with fail
  refine (HR.out _).mono ?_
  rintro e y1 ⟨rfl, hb1⟩
  have HB1 := Lib.hid (((Blks.empty w).new #[.int .u64 (hi : Nat), .int .u64 (lo : Nat), .int .i64 (m : Nat)] 50).keep hb1)
  have hw1 := alloc_then hb1
  clear hb1
  obtain ⟨l1, c0, c1, c2⟩ := HB1.out.r3 (.head _)
  go_wp2_with fail
  refine (HD.out _ hw1).mono ?_
  rintro e y2 ⟨rv, rb, rfl, hrow, hb2⟩
  have HB2 := Lib.hid (HB1.out.keep hb2)
  have HW2 := Lib.hid (below_chain7 hw1 hb2)
  have HBASE : Hid (w.heap.size ≤ y2.heap.size) := HW2.out.size
  have HR2 := Lib.hid (fun w' (hb : Below y2.heap.size y2 w') => hrow.row.keep hb)
  have HS0 : Hid (LS y2 y2 y2.heap.size [(w.heap.size, #[.int .u64 (hi : Nat), .int .u64 (lo : Nat), .int .i64 (m : Nat)], 50)] (.slice none 0 0) []) := ⟨Below.refl _ _, HB2.out, fun e he => by rw [List.mem_singleton.1 he]; exact HB2.out.lt (.head _), ownE_nil _ _, Nat.le_refl _, Nat.le_refl _⟩
  obtain ⟨ao, ca, rfl⟩ := hrow.form
  have HC : Hid (∀ (wr : World), Below y2.heap.size y2 wr → ∀ (j : Nat) (x : En), rest[j]? = some x → ∃ ad, ao = some ad ∧ (wr.cell? (Addr.add ad (j * 4)) = some (.int .u64 (hiN x.W : Nat)) ∧ wr.cell? ⟨(Addr.add ad (j * 4)).block, (Addr.add ad (j * 4)).off + 1, none⟩ = some (.int .u64 (loN x.W : Nat)) ∧
    wr.cell? ⟨(Addr.add ad (j * 4)).block, (Addr.add ad (j * 4)).off + 2, none⟩ = some (.int .i64 (x.n : Nat)) ∧ wr.cell? ⟨(Addr.add ad (j * 4)).block, (Addr.add ad (j * 4)).off + 3, none⟩ = some (.int .i64 x.v))) := fun wr hb j x hx => by
    obtain ⟨ao', c', e, hc'⟩ := HR2.out wr hb
    simp only [Value.slice.injEq] at e
    obtain ⟨rfl, _, rfl⟩ := e
    exact hc' j x hx
  clear hrow hb2 HR2 HB1 HB2 hw1 l1 c0 c1 c2 HD HR
  go_wp2
  go_loopw [26, 10, 11] (fun i s d wr => ∃ (j : Nat) (done : Bool) (o : List En), j ≤ rest.length ∧ i = .int .i64 j ∧ d = .bool done ∧ Hid (LS y2 wr y2.heap.size [(w.heap.size, #[.int .u64 (hi : Nat), .int .u64 (lo : Nat), .int .i64 (m : Nat)], 50)] s o) ∧ Hid (Mid e0 (rest.take j) done o) ∧ o.length ≤ j + 1) (fun i _ _ _ => rest.length - (intOf i).toNat)
  case atStart => exact ⟨0, false, [], Nat.zero_le _, rfl, rfl, HS0, mid_nil _, Nat.zero_le _⟩
  case round =>
    clear HS0
    obtain ⟨j, done, o, hj, rfl, rfl, HS, HM, hol⟩ := hrel
    by_cases hlt : j < rest.length
    · have hjl : (j : Int) < rest.length := by omega
      obtain ⟨x, hx⟩ : ∃ x, rest[j]? = some x := ⟨_, List.getElem?_eq_getElem hlt⟩
      obtain ⟨ad, rfl, c0, c1, c2, c3⟩ := HC.out wr HS.out.below j x hx
      obtain ⟨l1, d0, d1, d2⟩ := HS.out.blks.r3 (.head _)
      have HTK := Lib.hid (take_snoc hx)
      have hbx : Below wr.heap.size wr (wr.alloc (.cells #[.int .u64 (hiN x.W : Nat), .int .u64 (loN x.W : Nat), .int .i64 (x.n : Nat), .int .i64 x.v] 134)) := (Below.refl _ _).alloc (Nat.le_refl _) _
      have HSX := Lib.hid (HS.out.keep hbx)
      have HBX := Lib.hid ((Blks.empty wr).new #[.int .u64 (hiN x.W : Nat), .int .u64 (loN x.W : Nat), .int .i64 (x.n : Nat), .int .i64 x.v] 134)
      have HBXL := Lib.hid hbx
      clear hx hbx
      cases done with
      | true =>
        have hcn := cells4_new (wr.alloc (.cells #[.int .u64 (hiN x.W : Nat), .int .u64 (loN x.W : Nat), .int .i64 (x.n : Nat), .int .i64 x.v] 134)) x
        rw [show (wr.alloc (.cells #[.int .u64 (hiN x.W : Nat), .int .u64 (loN x.W : Nat), .int .i64 (x.n : Nat), .int .i64 x.v] 134)).heap.size = wr.heap.size + 1 from by simp] at hcn
        have HOA := Lib.hid (HSX.out.keep ((Below.refl _ _).alloc (Nat.le_refl _) (.cells #[.int .u64 (hiN x.W : Nat), .int .u64 (loN x.W : Nat), .int .i64 (x.n : Nat), .int .i64 x.v] 134)))
        go_wp2_with (first
          | (at_builtin; refine wpList_append_own _ rfl _ _ 130 rfl y2.heap.size 134 i0 (.agg #[.int .u64 0, .int .u64 0, .int .i64 0, .int .i64 0]) 4 32 Tryz.underlying130 hi0 hz0 hz1 hz2 rfl (by decide) u10 o.length (flatE o) rfl HOA.out.row ⟨wr.heap.size + 1, 0, none⟩ 1 1 [.int .u64 (hiN x.W : Nat), .int .u64 (loN x.W : Nat), .int .i64 (x.n : Nat), .int .i64 x.v] rfl rfl hcn (hoc4 x) (by unfold maxLen; omega) (by omega) HOA.out.size ?_; intro s1 w1 hown1 hgrow1 hnil1)
          | go_in)
        have HS1 := Lib.hid (HSX.out.app (e := x) ((Below.refl _ _).alloc (Nat.le_refl _) _) hgrow1 hown1)
        have HM1 := Lib.hid (mid_done (x := x) HM.out)
        rw [← HTK.out] at HM1
        clear hown1 hgrow1 hnil1
        go_roundw
        case rel => exact ⟨j + 1, true, o ++ [x], by omega, by go_num, rfl, HS1, HM1, by simp; omega⟩
        case measure => simp [intOf]; omega
      | false =>
        cases hbf : befB e0 x with
        | false =>
          have HBQ := Lib.hid (HBF.out x)
          rw [hbf] at HBQ
          go_wp2_with fail
          refine (HBQ.out _).mono ?_
          rintro e y3 ⟨rfl, hb3⟩
          have HS3 := Lib.hid (HSX.out.keep hb3)
          have hx3 := (HBX.out.keep hb3) _ (.head _)
          have b0 := cell_row hx3 0
          have b1 := cell_row hx3 1
          have b2 := cell_row hx3 2
          have b3 := cell_row hx3 3
          simp at b0 b1 b2 b3
          have hcn := cells4_new y3 x
          have HOA := Lib.hid (HS3.out.keep ((Below.refl _ _).alloc (Nat.le_refl _) (.cells #[.int .u64 (hiN x.W : Nat), .int .u64 (loN x.W : Nat), .int .i64 (x.n : Nat), .int .i64 x.v] 134)))
          clear hx3
          go_wp2_with (first
            | (at_builtin; refine wpList_append_own _ rfl _ _ 130 rfl y2.heap.size 134 i0 (.agg #[.int .u64 0, .int .u64 0, .int .i64 0, .int .i64 0]) 4 32 Tryz.underlying130 hi0 hz0 hz1 hz2 rfl (by decide) u10 o.length (flatE o) rfl HOA.out.row ⟨y3.heap.size, 0, none⟩ 1 1 [.int .u64 (hiN x.W : Nat), .int .u64 (loN x.W : Nat), .int .i64 (x.n : Nat), .int .i64 x.v] rfl rfl hcn (hoc4 x) (by unfold maxLen; omega) (by omega) HOA.out.size ?_; intro s1 w1 hown1 hgrow1 hnil1)
            | go_in)
          have HS1 := Lib.hid (HS3.out.app (e := x) ((Below.refl _ _).alloc (Nat.le_refl _) _) hgrow1 hown1)
          have HM1 := Lib.hid (mid_on (x := x) HM.out hbf)
          rw [← HTK.out] at HM1
          clear hown1 hgrow1 hnil1
          go_roundw
          case rel => exact ⟨j + 1, false, o ++ [x], by omega, by go_num, rfl, HS1, HM1, by simp; omega⟩
          case measure => simp [intOf]; omega
        | true =>
          have HBQ := Lib.hid (HBF.out x)
          rw [hbf] at HBQ
          have hoj : o.length ≤ j := by
            rcases HM.out with q | q
            · rw [q.2.1]; simp; omega
            · cases q.1
          go_wp2_with fail
          refine (HBQ.out _).mono ?_
          rintro e y3 ⟨rfl, hb3⟩
          have HS3 := Lib.hid (HSX.out.keep hb3)
          obtain ⟨l3, p0, p1, p2⟩ := HS3.out.blks.r3 (.head _)
          have hcn := cells_new y3 [.int .u64 (hi : Nat), .int .u64 (lo : Nat), .int .i64 (m : Nat), .int .i64 u] 134
          have HOA := Lib.hid (HS3.out.keep ((Below.refl _ _).alloc (Nat.le_refl _) (.cells #[.int .u64 (hi : Nat), .int .u64 (lo : Nat), .int .i64 (m : Nat), .int .i64 u] 134)))
          have HAL := Lib.hid (fun (Y : World) (hY : (y3.alloc (.cells #[.int .u64 (hi : Nat), .int .u64 (lo : Nat), .int .i64 (m : Nat), .int .i64 u] 134)).grownBy Y u10.ownBlock) => show Y.heap[wr.heap.size]? = some (.cells #[.int .u64 (hiN x.W : Nat), .int .u64 (loN x.W : Nat), .int .i64 (x.n : Nat), .int .i64 x.v] 134) from by
            have hlb : wr.heap.size < (wr.alloc (.cells #[.int .u64 (hiN x.W : Nat), .int .u64 (loN x.W : Nat), .int .i64 (x.n : Nat), .int .i64 x.v] 134)).heap.size := by simp
            have q1 := (HBX.out.keep hb3).keep ((Below.refl _ _).alloc (Nat.le_refl _) (.cells #[.int .u64 (hi : Nat), .int .u64 (lo : Nat), .int .i64 (m : Nat), .int .i64 u] 134)) _ (.head _)
            refine (hY.block _ (block_lt q1) (fun e => ?_)).trans q1
            have := (World.ownsRow.lt HS.out.row _ e.symm).2
            omega)
          go_wp2_with (first
            | (at_builtin; refine wpList_append_own _ rfl _ _ 130 rfl y2.heap.size 134 i0 (.agg #[.int .u64 0, .int .u64 0, .int .i64 0, .int .i64 0]) 4 32 Tryz.underlying130 hi0 hz0 hz1 hz2 rfl (by decide) u10 o.length (flatE o) rfl HOA.out.row ⟨y3.heap.size, 0, none⟩ 1 1 [.int .u64 (hi : Nat), .int .u64 (lo : Nat), .int .i64 (m : Nat), .int .i64 u] rfl rfl hcn hoce (by unfold maxLen; omega) (by omega) HOA.out.size ?_; intro s1 w1 hown1 hgrow1 hnil1; have hq := HAL.out _ hgrow1; have b0 := cell_row hq 0; have b1 := cell_row hq 1; have b2 := cell_row hq 2; have b3 := cell_row hq 3; simp at b0 b1 b2 b3; rw [← HX.out] at hown1; have HS1 := Lib.hid (HS3.out.app (e := e0) ((Below.refl _ _).alloc (Nat.le_refl _) _) hgrow1 hown1); have hcn2 := cells4_new w1 x; have HOA2 := Lib.hid (HS1.out.keep ((Below.refl _ _).alloc (Nat.le_refl _) (.cells #[.int .u64 (hiN x.W : Nat), .int .u64 (loN x.W : Nat), .int .i64 (x.n : Nat), .int .i64 x.v] 134))); clear hq hown1 hgrow1 hnil1 hcn)
            | (at_builtin; refine wpList_append_own _ rfl _ _ 130 rfl y2.heap.size 134 i0 (.agg #[.int .u64 0, .int .u64 0, .int .i64 0, .int .i64 0]) 4 32 Tryz.underlying130 hi0 hz0 hz1 hz2 rfl (by decide) s1 (o ++ [e0]).length (flatE (o ++ [e0])) rfl HOA2.out.row ⟨w1.heap.size, 0, none⟩ 1 1 [.int .u64 (hiN x.W : Nat), .int .u64 (loN x.W : Nat), .int .i64 (x.n : Nat), .int .i64 x.v] rfl rfl hcn2 (hoc4 x) (by unfold maxLen; simp; omega) (by simp; omega) HOA2.out.size ?_; intro s2 w2 hown2 hgrow2 hnil2)
            | go_in)
          have HS2 := Lib.hid (HS1.out.app (e := x) ((Below.refl _ _).alloc (Nat.le_refl _) _) hgrow2 hown2)
          have HM1 := Lib.hid (mid_here (x := x) HM.out hbf)
          rw [← HTK.out] at HM1
          clear hown2 hgrow2 hnil2
          go_roundw
          case rel => exact ⟨j + 1, true, o ++ [e0] ++ [x], by omega, by go_num, rfl, HS2, HM1, by simp; omega⟩
          case measure => simp [intOf]; omega
    · have hjl : ¬ (j : Int) < rest.length := by omega
      rw [List.take_of_length_le (by omega)] at HM
      cases done with
      | true =>
        go_wp2
        go_ret2
        exact ⟨_, rfl, by rw [← mid_stop HM.out]; exact HS.out.row.lower HBASE.out, below_chain7 HW2.out HS.out.below⟩
      | false =>
        obtain ⟨l1, d0, d1, d2⟩ := HS.out.blks.r3 (.head _)
        have hcn := cells_new wr [.int .u64 (hi : Nat), .int .u64 (lo : Nat), .int .i64 (m : Nat), .int .i64 u] 134
        have HOA := Lib.hid (HS.out.keep ((Below.refl _ _).alloc (Nat.le_refl _) (.cells #[.int .u64 (hi : Nat), .int .u64 (lo : Nat), .int .i64 (m : Nat), .int .i64 u] 134)))
        go_wp2_with (first
          | (at_builtin; refine wpList_append_own _ rfl _ _ 130 rfl y2.heap.size 134 i0 (.agg #[.int .u64 0, .int .u64 0, .int .i64 0, .int .i64 0]) 4 32 Tryz.underlying130 hi0 hz0 hz1 hz2 rfl (by decide) u10 o.length (flatE o) rfl HOA.out.row ⟨wr.heap.size, 0, none⟩ 1 1 [.int .u64 (hi : Nat), .int .u64 (lo : Nat), .int .i64 (m : Nat), .int .i64 u] rfl rfl hcn hoce (by unfold maxLen; omega) (by omega) HOA.out.size ?_; intro s1 w1 hown1 hgrow1 hnil1)
          | go_in)
        rw [← HX.out] at hown1
        have HS1 := Lib.hid (HS.out.app (e := e0) ((Below.refl _ _).alloc (Nat.le_refl _) _) hgrow1 hown1)
        go_ret2
        exact ⟨_, rfl, by rw [← mid_end HM.out]; exact HS1.out.row.lower HBASE.out, below_chain7 HW2.out HS1.out.below⟩
def entC : Option En → Array Value
  | none => #[.int .u64 0, .int .u64 0, .int .i64 0, .int .i64 0]
  | some y => #[.int .u64 (hiN y.W : Nat), .int .u64 (loN y.W : Nat), .int .i64 (y.n : Nat), .int .i64 y.v]
def entW (o : Option En) : Value := .tuple #[.agg (entC o), .bool o.isSome]
theorem Blks.r4 {L : List (Nat × Array Value × TypeId)} {W : World} (h : Blks L W) {b : Nat} {c0 c1 c2 c3 : Value} {t : TypeId} (hm : (b, #[c0, c1, c2, c3], t) ∈ L) :
    b < W.heap.size ∧ W.cell? ⟨b, 0, none⟩ = some c0 ∧ W.cell? ⟨b, 1, none⟩ = some c1 ∧ W.cell? ⟨b, 2, none⟩ = some c2 ∧ W.cell? ⟨b, 3, none⟩ = some c3 :=
  ⟨h.lt hm, cell_row (h _ hm) 0, cell_row (h _ hm) 1, cell_row (h _ hm) 2, cell_row (h _ hm) 3⟩
theorem Blks.fr4 {L : List (Nat × Array Value × TypeId)} {W : World} (h : Blks L W) {b : Nat} {c0 c1 c2 c3 : Value} {t : TypeId} (hm : (b, #[c0, c1, c2, c3], t) ∈ L) :
    W.frozen? ⟨b, 0, none⟩ = false ∧ W.frozen? ⟨b, 1, none⟩ = false ∧ W.frozen? ⟨b, 2, none⟩ = false ∧ W.frozen? ⟨b, 3, none⟩ = false :=
  ⟨frozen_row (h _ hm) 0, frozen_row (h _ hm) 1, frozen_row (h _ hm) 2, frozen_row (h _ hm) 3⟩
theorem Blks.drop {L L' : List (Nat × Array Value × TypeId)} {W : World} (h : Blks L W) (hs : ∀ e ∈ L', e ∈ L) : Blks L' W := fun e he => h e (hs e he)
theorem set4_below {a w : World} (h : Below a.heap.size a w) {b : Nat} (hb : a.heap.size ≤ b) (x0 x1 x2 x3 : Value) : Below a.heap.size a ((((w.setCell ⟨b, 0, none⟩ x0).setCell ⟨b, 1, none⟩ x1).setCell ⟨b, 2, none⟩ x2).setCell ⟨b, 3, none⟩ x3) :=
  (((h.setCell (p := ⟨b, 0, none⟩) hb x0).setCell (p := ⟨b, 1, none⟩) hb x1).setCell (p := ⟨b, 2, none⟩) hb x2).setCell (p := ⟨b, 3, none⟩) hb x3
theorem set4_row {w : World} {b : Nat} {c0 c1 c2 c3 : Value} {t : TypeId} (h : w.heap[b]? = some (.cells #[c0, c1, c2, c3] t)) (x0 x1 x2 x3 : Value) : ((((w.setCell ⟨b, 0, none⟩ x0).setCell ⟨b, 1, none⟩ x1).setCell ⟨b, 2, none⟩ x2).setCell ⟨b, 3, none⟩ x3).heap[b]? = some (.cells #[x0, x1, x2, x3] t) :=
  set_row (set_row (set_row (set_row h 0 x0) 1 x1) 2 x2) 3 x3
theorem set4_other {w : World} {b b' : Nat} (h : b ≠ b') (x0 x1 x2 x3 : Value) : ((((w.setCell ⟨b', 0, none⟩ x0).setCell ⟨b', 1, none⟩ x1).setCell ⟨b', 2, none⟩ x2).setCell ⟨b', 3, none⟩ x3).heap[b]? = w.heap[b]? :=
  (set_other h _ _).trans ((set_other h _ _).trans ((set_other h _ _).trans (set_other h _ _)))
theorem entC_form (o : Option En) : ∃ c0 c1 c2 c3, entC o = #[c0, c1, c2, c3] := by cases o <;> exact ⟨_, _, _, _, rfl⟩
/-- the best one is stored anew -/
theorem find_set {w y : World} {s : Bool} {ah al : Nat} {o : Option En} {x : En} {g : Nat} {c : Array Value} {t : TypeId} (hb : Below w.heap.size w y) (hB : Blks ((g, c, t) :: [(w.heap.size, #[.bool s, .int .u64 (ah : Nat), .int .u64 (al : Nat)], 31), (w.heap.size + 1, #[.int .u64 0, .int .u64 0, .int .i64 0, .int .i64 0], 134), (w.heap.size + 2, entC (o), 134)]) y) :
    Below w.heap.size w ((((y.setCell ⟨w.heap.size + 2, 0, none⟩ (.int .u64 (hiN x.W : Nat))).setCell ⟨w.heap.size + 2, 1, none⟩ (.int .u64 (loN x.W : Nat))).setCell ⟨w.heap.size + 2, 2, none⟩ (.int .i64 (x.n : Nat))).setCell ⟨w.heap.size + 2, 3, none⟩ (.int .i64 x.v)) ∧
    Blks [(w.heap.size, #[.bool s, .int .u64 (ah : Nat), .int .u64 (al : Nat)], 31), (w.heap.size + 1, #[.int .u64 0, .int .u64 0, .int .i64 0, .int .i64 0], 134), (w.heap.size + 2, entC (some x), 134)] ((((y.setCell ⟨w.heap.size + 2, 0, none⟩ (.int .u64 (hiN x.W : Nat))).setCell ⟨w.heap.size + 2, 1, none⟩ (.int .u64 (loN x.W : Nat))).setCell ⟨w.heap.size + 2, 2, none⟩ (.int .i64 (x.n : Nat))).setCell ⟨w.heap.size + 2, 3, none⟩ (.int .i64 x.v)) := by
  refine ⟨set4_below hb (by omega) _ _ _ _, fun e he => ?_⟩
  rcases List.mem_cons.1 he with q | he
  · rw [q]; exact (set4_other (by omega) _ _ _ _).trans (hB (w.heap.size, _, _) (.tail _ (.head _)))
  rcases List.mem_cons.1 he with q | he
  · rw [q]; exact (set4_other (by omega) _ _ _ _).trans (hB (w.heap.size + 1, _, _) (.tail _ (.tail _ (.head _))))
  rcases List.mem_cons.1 he with q | he
  · rw [q]
    obtain ⟨c0, c1, c2, c3, hc⟩ := entC_form o
    have := hB (w.heap.size + 2, _, _) (.tail _ (.tail _ (.tail _ (.head _))))
    rw [hc] at this
    exact set4_row this _ _ _ _
  · cases he
set_option maxRecDepth 100000 in
set_option maxHeartbeats 16000000 in
theorem refFind8_any (v : Value) (l : List En) (s : Bool) (ah al : Nat) (w : World) (h3 : ah < 18446744073709551616) (h4 : al < 18446744073709551616) (hW : ∀ x ∈ l, x.W < 2 ^ 128) (hl : l.length < 100000) (hr : RowE w v l) :
    Calls Tryz.prog 66 #[v, .agg #[.bool s, .int .u64 (ah : Nat), .int .u64 (al : Nat)]] w fun e w' => e = .returned (entW (bestL (wideN ah al) l none)) ∧ Below w.heap.size w w' := by
  have HR := Lib.hid (fun w' (hb : Below w.heap.size w w') => hr.keep hb)
  obtain ⟨ao, c, rfl, hc⟩ := hr
  have HC : Hid (∀ (wr : World), Below w.heap.size w wr → ∀ (j : Nat) (x : En), l[j]? = some x → ∃ ad, ao = some ad ∧ (wr.cell? (Addr.add ad (j * 4)) = some (.int .u64 (hiN x.W : Nat)) ∧ wr.cell? ⟨(Addr.add ad (j * 4)).block, (Addr.add ad (j * 4)).off + 1, none⟩ = some (.int .u64 (loN x.W : Nat)) ∧
    wr.cell? ⟨(Addr.add ad (j * 4)).block, (Addr.add ad (j * 4)).off + 2, none⟩ = some (.int .i64 (x.n : Nat)) ∧ wr.cell? ⟨(Addr.add ad (j * 4)).block, (Addr.add ad (j * 4)).off + 3, none⟩ = some (.int .i64 x.v)) ∧ x.W < 2 ^ 128) := fun wr hb j x hx => by
    obtain ⟨ao', c', e, hc'⟩ := HR.out wr hb
    simp only [Value.slice.injEq] at e
    obtain ⟨rfl, _, rfl⟩ := e
    obtain ⟨ad, q1, q2⟩ := hc' j x hx
    exact ⟨ad, q1, q2, hW x (List.mem_of_getElem? hx)⟩
  have HH0 : Hid (∀ (x : En), x.W < 2 ^ 128 → ∀ X, Calls Tryz.prog 49 #[.agg #[.int .u64 (hiN x.W : Nat), .int .u64 (loN x.W : Nat), .int .i64 (x.n : Nat)], .agg #[.bool s, .int .u64 (ah : Nat), .int .u64 (al : Nat)]] X fun e w' => e = .returned (.bool (pHasB x.W x.n (wideN ah al))) ∧ Below X.heap.size X w') := fun x hx X => by
    have := refHas_any (hiN x.W) (loN x.W) x.n ah al s X (hiN_lt hx) (loN_lt x.W) h3 h4
    rwa [wide_split] at this
  have HS0 : Hid (Below w.heap.size w (((w.alloc (.cells #[.bool s, .int .u64 (ah : Nat), .int .u64 (al : Nat)] 31)).alloc (.cells #[.int .u64 0, .int .u64 0, .int .i64 0, .int .i64 0] 134)).alloc (.cells #[.int .u64 0, .int .u64 0, .int .i64 0, .int .i64 0] 134)) ∧ Blks [(w.heap.size, #[.bool s, .int .u64 (ah : Nat), .int .u64 (al : Nat)], 31), (w.heap.size + 1, #[.int .u64 0, .int .u64 0, .int .i64 0, .int .i64 0], 134), (w.heap.size + 2, entC (none), 134)] (((w.alloc (.cells #[.bool s, .int .u64 (ah : Nat), .int .u64 (al : Nat)] 31)).alloc (.cells #[.int .u64 0, .int .u64 0, .int .i64 0, .int .i64 0] 134)).alloc (.cells #[.int .u64 0, .int .u64 0, .int .i64 0, .int .i64 0] 134))) := by
    refine ⟨(((Below.refl _ _).alloc (Nat.le_refl _) _).alloc (by simp) _).alloc (by simp; omega) _, ?_⟩
    have := ((((Blks.empty w).new #[.bool s, .int .u64 (ah : Nat), .int .u64 (al : Nat)] 31).new #[.int .u64 0, .int .u64 0, .int .i64 0, .int .i64 0] 134).new #[.int .u64 0, .int .u64 0, .int .i64 0, .int .i64 0] 134)
    intro e he
    refine this e ?_
    simp at he ⊢
    rcases he with q | q | q <;> simp [q, entC]
  clear hc HR h3 h4 hW
  go_enter Tryz.func66, Tryz.ntmps66
  go_wp2
  go_loopw [12, 7] (fun i ok wr => ∃ (j : Nat) (okb : Bool) (o : Option En), j ≤ l.length ∧ i = .int .i64 j ∧ ok = .bool okb ∧ Hid (Below w.heap.size w wr ∧ Blks [(w.heap.size, #[.bool s, .int .u64 (ah : Nat), .int .u64 (al : Nat)], 31), (w.heap.size + 1, #[.int .u64 0, .int .u64 0, .int .i64 0, .int .i64 0], 134), (w.heap.size + 2, entC (o), 134)] wr) ∧ Hid (bestL (wideN ah al) (l.take j) none = o) ∧ okb = o.isSome) (fun i _ _ => l.length - (intOf i).toNat)
  case atStart => exact ⟨0, false, none, Nat.zero_le _, rfl, rfl, HS0, rfl, rfl⟩
  case round =>
    clear HS0
    obtain ⟨j, okb, o, hj, rfl, rfl, HS, HB, rfl⟩ := hrel
    by_cases hlt : j < l.length
    · have hjl : (j : Int) < l.length := by omega
      obtain ⟨x, hx⟩ : ∃ x, l[j]? = some x := ⟨_, List.getElem?_eq_getElem hlt⟩
      obtain ⟨ad, rfl, ⟨c0, c1, c2, c3⟩, hWx⟩ := HC.out wr HS.out.1 j x hx
      have HHX0 := Lib.hid (HH0.out x hWx)
      obtain ⟨la, a0, a1, a2⟩ := HS.out.2.r3 (b := w.heap.size) (.head _)
      have HAL : Hid (Below wr.heap.size wr (wr.alloc (.cells #[.int .u64 (hiN x.W : Nat), .int .u64 (loN x.W : Nat), .int .i64 (x.n : Nat), .int .i64 x.v] 134))) := (Below.refl _ _).alloc (Nat.le_refl _) _
      cases o with
      | none =>
        cases hp : pHasB x.W x.n (wideN ah al) with
        | false =>
          have HHX := HHX0
          rw [hp] at HHX
          have HBN := Lib.hid ((bestL_miss hx hp).trans HB.out)
          clear hx
          go_wp2_with fail
          refine (HHX.out _).mono ?_
          rintro e y1 ⟨rfl, hb1⟩
          have HS1 := Lib.hid (And.intro (below_chain7 HS.out.1 (below_chain7 HAL.out hb1)) ((HS.out.2.keep HAL.out).keep hb1))
          go_wp2
          go_roundw
          case rel => exact ⟨j + 1, false, none, by omega, by go_num, rfl, HS1, HBN, rfl⟩
          case measure => simp [intOf]; omega
        | true =>
          have HHX := HHX0
          rw [hp] at HHX
          have HBN := Lib.hid (bestL_hit hx hp (fun y hy => by rw [HB.out] at hy; cases hy))
          clear hx
          go_wp2_with fail
          refine (HHX.out _).mono ?_
          rintro e y1 ⟨rfl, hb1⟩
          have HSB := Lib.hid (((HS.out.2).new #[.int .u64 (hiN x.W : Nat), .int .u64 (loN x.W : Nat), .int .i64 (x.n : Nat), .int .i64 x.v] 134).keep hb1)
          have HS1 := Lib.hid (below_chain7 HS.out.1 (below_chain7 HAL.out hb1))
          obtain ⟨lx, x0, x1, x2, x3⟩ := HSB.out.r4 (b := wr.heap.size) (.head _)
          obtain ⟨lb, q0, q1, q2, q3⟩ := HSB.out.r4 (b := w.heap.size + 2) (c0 := .int .u64 0) (c1 := .int .u64 0) (c2 := .int .i64 0) (c3 := .int .i64 0) (t := 134) (by repeat first | exact .head _ | apply List.Mem.tail)
          obtain ⟨f0, f1, f2, f3⟩ := HSB.out.fr4 (b := w.heap.size + 2) (c0 := .int .u64 0) (c1 := .int .u64 0) (c2 := .int .i64 0) (c3 := .int .i64 0) (t := 134) (by repeat first | exact .head _ | apply List.Mem.tail)
          go_wp2
          go_roundw
          case rel => exact ⟨j + 1, true, some x, by omega, by go_num, rfl, find_set HS1.out HSB.out, HBN, rfl⟩
          case measure => simp [intOf]; omega
      | some y =>
        cases hp : pHasB x.W x.n (wideN ah al) with
        | false =>
          have HHX := HHX0
          rw [hp] at HHX
          have HBN := Lib.hid ((bestL_miss hx hp).trans HB.out)
          clear hx
          go_wp2_with fail
          refine (HHX.out _).mono ?_
          rintro e y1 ⟨rfl, hb1⟩
          have HS1 := Lib.hid (And.intro (below_chain7 HS.out.1 (below_chain7 HAL.out hb1)) ((HS.out.2.keep HAL.out).keep hb1))
          go_wp2
          go_roundw
          case rel => exact ⟨j + 1, true, some y, by omega, by go_num, rfl, HS1, HBN, rfl⟩
          case measure => simp [intOf]; omega
        | true =>
          have HHX := HHX0
          rw [hp] at HHX
          by_cases hn : y.n < x.n
          · have HBN := Lib.hid (bestL_hit hx hp (fun z hz => by rw [HB.out] at hz; cases hz; exact hn))
            have hd : decide ((y.n : Int) < (x.n : Int)) = true := by simp; omega
            clear hx
            go_wp2_with fail
            refine (HHX.out _).mono ?_
            rintro e y1 ⟨rfl, hb1⟩
            have HSB := Lib.hid (((HS.out.2).new #[.int .u64 (hiN x.W : Nat), .int .u64 (loN x.W : Nat), .int .i64 (x.n : Nat), .int .i64 x.v] 134).keep hb1)
            have HS1 := Lib.hid (below_chain7 HS.out.1 (below_chain7 HAL.out hb1))
            obtain ⟨lx, x0, x1, x2, x3⟩ := HSB.out.r4 (b := wr.heap.size) (.head _)
            obtain ⟨lb, q0, q1, q2, q3⟩ := HSB.out.r4 (b := w.heap.size + 2) (c0 := .int .u64 (hiN y.W : Nat)) (c1 := .int .u64 (loN y.W : Nat)) (c2 := .int .i64 (y.n : Nat)) (c3 := .int .i64 y.v) (t := 134) (by repeat first | exact .head _ | apply List.Mem.tail)
            obtain ⟨f0, f1, f2, f3⟩ := HSB.out.fr4 (b := w.heap.size + 2) (c0 := .int .u64 (hiN y.W : Nat)) (c1 := .int .u64 (loN y.W : Nat)) (c2 := .int .i64 (y.n : Nat)) (c3 := .int .i64 y.v) (t := 134) (by repeat first | exact .head _ | apply List.Mem.tail)
            go_wp2
            go_roundw
            case rel => exact ⟨j + 1, true, some x, by omega, by go_num, rfl, find_set HS1.out HSB.out, HBN, rfl⟩
            case measure => simp [intOf]; omega
          · have HBN := Lib.hid (bestL_keep hx HB.out hn)
            have hd : decide ((y.n : Int) < (x.n : Int)) = false := by simp; omega
            clear hx
            go_wp2_with fail
            refine (HHX.out _).mono ?_
            rintro e y1 ⟨rfl, hb1⟩
            have HSB := Lib.hid (((HS.out.2).new #[.int .u64 (hiN x.W : Nat), .int .u64 (loN x.W : Nat), .int .i64 (x.n : Nat), .int .i64 x.v] 134).keep hb1)
            have HS1 := Lib.hid (below_chain7 HS.out.1 (below_chain7 HAL.out hb1))
            obtain ⟨lx, x0, x1, x2, x3⟩ := HSB.out.r4 (b := wr.heap.size) (.head _)
            obtain ⟨lb, q0, q1, q2, q3⟩ := HSB.out.r4 (b := w.heap.size + 2) (c0 := .int .u64 (hiN y.W : Nat)) (c1 := .int .u64 (loN y.W : Nat)) (c2 := .int .i64 (y.n : Nat)) (c3 := .int .i64 y.v) (t := 134) (by repeat first | exact .head _ | apply List.Mem.tail)
            obtain ⟨f0, f1, f2, f3⟩ := HSB.out.fr4 (b := w.heap.size + 2) (c0 := .int .u64 (hiN y.W : Nat)) (c1 := .int .u64 (loN y.W : Nat)) (c2 := .int .i64 (y.n : Nat)) (c3 := .int .i64 y.v) (t := 134) (by repeat first | exact .head _ | apply List.Mem.tail)
            have HSE := Lib.hid (And.intro HS1.out (HSB.out.drop (L' := [(w.heap.size, #[.bool s, .int .u64 (ah : Nat), .int .u64 (al : Nat)], 31), (w.heap.size + 1, #[.int .u64 0, .int .u64 0, .int .i64 0, .int .i64 0], 134), (w.heap.size + 2, entC (some y), 134)]) (fun e he => List.mem_cons_of_mem _ he)))
            go_wp2
            go_roundw
            case rel => exact ⟨j + 1, true, some y, by omega, by go_num, rfl, HSE, HBN, rfl⟩
            case measure => simp [intOf]; omega
    · have hjl : ¬ (j : Int) < l.length := by omega
      rw [List.take_of_length_le (by omega)] at HB
      cases o with
      | none =>
        obtain ⟨lb, q0, q1, q2, q3⟩ := HS.out.2.r4 (b := w.heap.size + 2) (c0 := .int .u64 0) (c1 := .int .u64 0) (c2 := .int .i64 0) (c3 := .int .i64 0) (t := 134) (by repeat first | exact .head _ | apply List.Mem.tail)
        obtain ⟨lz, z0, z1, z2, z3⟩ := HS.out.2.r4 (b := w.heap.size + 1) (c0 := .int .u64 0) (c1 := .int .u64 0) (c2 := .int .i64 0) (c3 := .int .i64 0) (t := 134) (by repeat first | exact .head _ | apply List.Mem.tail)
        obtain ⟨f0, f1, f2, f3⟩ := HS.out.2.fr4 (b := w.heap.size + 1) (c0 := .int .u64 0) (c1 := .int .u64 0) (c2 := .int .i64 0) (c3 := .int .i64 0) (t := 134) (by repeat first | exact .head _ | apply List.Mem.tail)
        go_wp2
        refine bodyPost_ret (v := .tuple #[.agg #[.int .u64 0, .int .u64 0, .int .i64 0, .int .i64 0], .bool false]) (by simp [results, Tryz.results66, go_sem, z0, z1, z2, z3]) rfl ⟨?_, ?_⟩
        · rw [HB.out]; rfl
        · exact set4_below HS.out.1 (Nat.le_succ _) _ _ _ _
      | some y =>
        obtain ⟨lb, q0, q1, q2, q3⟩ := HS.out.2.r4 (b := w.heap.size + 2) (c0 := .int .u64 (hiN y.W : Nat)) (c1 := .int .u64 (loN y.W : Nat)) (c2 := .int .i64 (y.n : Nat)) (c3 := .int .i64 y.v) (t := 134) (by repeat first | exact .head _ | apply List.Mem.tail)
        obtain ⟨lz, z0, z1, z2, z3⟩ := HS.out.2.r4 (b := w.heap.size + 1) (c0 := .int .u64 0) (c1 := .int .u64 0) (c2 := .int .i64 0) (c3 := .int .i64 0) (t := 134) (by repeat first | exact .head _ | apply List.Mem.tail)
        obtain ⟨f0, f1, f2, f3⟩ := HS.out.2.fr4 (b := w.heap.size + 1) (c0 := .int .u64 0) (c1 := .int .u64 0) (c2 := .int .i64 0) (c3 := .int .i64 0) (t := 134) (by repeat first | exact .head _ | apply List.Mem.tail)
        go_wp2
        refine bodyPost_ret (v := .tuple #[.agg #[.int .u64 (hiN y.W : Nat), .int .u64 (loN y.W : Nat), .int .i64 (y.n : Nat), .int .i64 y.v], .bool true]) (by simp [results, Tryz.results66, go_sem, z0, z1, z2, z3]) rfl ⟨?_, ?_⟩
        · rw [HB.out]; rfl
        · exact set4_below HS.out.1 (Nat.le_succ _) _ _ _ _
end

end Go.Proofs.YtoobiaifogackaaGreatDoor
