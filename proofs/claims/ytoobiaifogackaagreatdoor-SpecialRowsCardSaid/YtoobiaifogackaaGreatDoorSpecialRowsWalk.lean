/-
  The law SpecialRows: its Go text returns true, where the library's tables read as they are laid; nothing that lay in memory before is changed.
-/
import Derived.Test.YtoobiaifogackaaGreatDoorSpcF
namespace Go.Proofs.YtoobiaifogackaaGreatDoor
open Go.RowKit


theorem neqR_guard (u v : Array Value) : ∀ (p q : Operand) (W : World), (eqGuard .neq 50 p q (.agg u) (.agg v)).run Tryz.prog W = .ok () W := by
  intro p q W; kernel_rfl
theorem neqR_same (a b c : Int) : ∀ W : World, (binOp .neq 50 (.agg #[.int .u64 a, .int .u64 b, .int .i64 c]) (.agg #[.int .u64 a, .int .u64 b, .int .i64 c])).run Tryz.prog W = .ok (.bool false) W := by
  intro W
  have e1 : (Op.equal 50 (.agg #[.int .u64 a, .int .u64 b, .int .i64 c]) (.agg #[.int .u64 a, .int .u64 b, .int .i64 c])).run Tryz.prog W = .ok true W := by
    show (Op.equalIn 10000 50 _ _).run Tryz.prog W = _
    rw [run_equalIn_struct W 9999 50 _ _ (by kernel_rfl) (by kernel_rfl)]
    simp [Program.fieldsOf, Tryz.underlying50, Op.eqFields, go_sem, part, Tryz.sizeOf22, Tryz.isAgg22, Tryz.underlying22, Tryz.sizeOf3, Tryz.isAgg3, Tryz.underlying3]
  show ((Op.equal _ _ _ >>= fun b => pure (Value.bool !b)) : Sem Value).run _ _ = _
  rw [Sem.run_bind, e1]; rfl

set_option maxRecDepth 100000 in
set_option maxHeartbeats 8000000 in
theorem specialRows_walk (w : World) (hbru : BruTab w) (hmax : MaxVar w) :
    Calls Tryz.prog 5 #[] w fun e w' => e = .returned (.bool true) ∧ Below w.heap.size w w' := by
  have HT := Lib.hid hbru
  have HX := Lib.hid hmax
  clear hbru hmax
  go_enter Tryz.func5, Tryz.ntmps5
  go_wp2_with fail
  refine (rows9_any _ HX.out).mono ?_
  rintro e x1 ⟨b1, rfl, _, hk1, hb1⟩
  go_wp2_with fail
  refine (refRows9_any _).mono ?_
  rintro e x2 ⟨b2, rfl, _, hk2, hb2⟩
  have HW := Lib.hid (below_chain7 hb1 hb2)
  have HA := Lib.hid (fun (W : World) (h : Below x2.heap.size x2 W) => (h.block b1 (Nat.lt_of_lt_of_le (block_lt hk1) hb2.size)).trans ((hb2.block b1 (block_lt hk1)).trans hk1))
  have HB := Lib.hid (fun (W : World) (h : Below x2.heap.size x2 W) => (h.block b2 (block_lt hk2)).trans hk2)
  clear hk1 hk2 hb1 hb2
  go_wp2
  go_loopw [21] (fun i wr => ∃ j : Nat, j ≤ 27 ∧ i = .int .i64 j ∧ Hid (Below x2.heap.size x2 wr)) (fun i _ => 27 - (intOf i).toNat)
  case atStart => exact ⟨0, by omega, rfl, Below.refl _ _⟩
  case round =>
    obtain ⟨j, hj, rfl, hbw⟩ := hrel
    by_cases hlt : j < 27
    · obtain ⟨x, hx⟩ := T9_get hlt
      obtain ⟨hx1, hx2, hx3⟩ := T9_in hx
      obtain ⟨c0, c1, c2, c3⟩ := tab_at (HA.out wr hbw.out) hx
      have HL : Hid (Below wr.heap.size wr (wr.alloc (.cells #[.int .u64 (hiN x.W : Nat), .int .u64 (loN x.W : Nat), .int .i64 (x.n : Nat), .string ⟨x.s.toArray⟩] 55))) := (Below.refl _ _).alloc (Nat.le_refl _) _
      obtain ⟨d0, d1, d2, d3⟩ := tab_at (HB.out _ (below_chain7 hbw.out HL.out)) hx
      have hjl : (j : Int) < 27 := by omega
      have hne := neqR_same (hiN x.W) (loN x.W) x.n
      have hng := neqR_guard
      have HC : Hid (∀ W, Calls Tryz.prog 25 #[.agg #[.int .u64 (hiN x.W : Nat), .int .u64 (loN x.W : Nat), .int .i64 (x.n : Nat)]] W fun e w' => e = .returned (.bool true) ∧ Below W.heap.size W w') := fun W => by
        have := pRight_any (hiN x.W) (loN x.W) x.n W (hiN_lt hx3) (loN_lt _)
        rw [wide_split, pRightB_nat.2 ⟨hx1, hx2⟩] at this
        exact this
      clear hx1 hx2 hx3
      have HBL := Lib.hid ((Blks.empty wr).new #[.int .u64 (hiN x.W : Nat), .int .u64 (loN x.W : Nat), .int .i64 (x.n : Nat), .string ⟨x.s.toArray⟩] 55)
      go_wp2_with fail
      clear c0 c1 c2 c3 d0 d1 d2 d3
      have HX3 := Lib.hid (below_chain7 hbw.out HL.out)
      generalize wr.alloc (.cells #[.int .u64 (hiN x.W : Nat), .int .u64 (loN x.W : Nat), .int .i64 (x.n : Nat), .string ⟨x.s.toArray⟩] 55) = x3 at *
      generalize wr.heap.size = g at *
      have HKC : Hid (∀ W, Below x3.heap.size x3 W → ((W.cell? ⟨g, 0, none⟩ = some (.int .u64 (hiN x.W : Nat)) ∧ W.cell? ⟨g, 1, none⟩ = some (.int .u64 (loN x.W : Nat)) ∧ W.cell? ⟨g, 2, none⟩ = some (.int .i64 (x.n : Nat)) ∧ W.cell? ⟨g, 3, none⟩ = some (.string ⟨x.s.toArray⟩)) ∧ W.cell? ⟨b2, j * 4, none⟩ = some (.int .u64 (hiN x.W : Nat)) ∧ W.cell? ⟨b2, j * 4 + 1, none⟩ = some (.int .u64 (loN x.W : Nat)) ∧ W.cell? ⟨b2, j * 4 + 2, none⟩ = some (.int .i64 (x.n : Nat)) ∧ W.cell? ⟨b2, j * 4 + 3, none⟩ = some (.string ⟨x.s.toArray⟩))) := fun W hW =>
        ⟨((HBL.out.keep hW).q4 (.head _)).2, tab_at (HB.out _ (below_chain7 HX3.out hW)) hx⟩
      go_region_held3 (fun W => (W.cell? ⟨g, 0, none⟩ = some (.int .u64 (hiN x.W : Nat)) ∧ W.cell? ⟨g, 1, none⟩ = some (.int .u64 (loN x.W : Nat)) ∧ W.cell? ⟨g, 2, none⟩ = some (.int .i64 (x.n : Nat)) ∧ W.cell? ⟨g, 3, none⟩ = some (.string ⟨x.s.toArray⟩)) ∧ W.cell? ⟨b2, j * 4, none⟩ = some (.int .u64 (hiN x.W : Nat)) ∧ W.cell? ⟨b2, j * 4 + 1, none⟩ = some (.int .u64 (loN x.W : Nat)) ∧ W.cell? ⟨b2, j * 4 + 2, none⟩ = some (.int .i64 (x.n : Nat)) ∧ W.cell? ⟨b2, j * 4 + 3, none⟩ = some (.string ⟨x.s.toArray⟩))
        (first | exact HKC.out _ (below_drew1 _) | exact HKC.out _ (below_of_drew hb5))
        (first | (go_simp; go_at_call 25; ((with_reducible refine (HC.out _).mono ?_); rintro e x5 ⟨rfl, hb5⟩)))
      have HX5 := Lib.hid (below_chain7 HX3.out (below_of_drew hb5))
      go_wp2
      go_roundw
      case rel => exact ⟨j + 1, by omega, by go_num, HX5⟩
      case measure => simp [intOf]; omega
    · have hj' : j = 27 := by omega
      subst hj'
      go_wp2_with fail
      refine (name9_nil _ (maxVar_below HX.out (below_chain7 HW.out hbw.out))).mono ?_
      rintro e x3 ⟨rfl, hb3⟩
      have HW3 := Lib.hid (below_chain7 (below_chain7 HW.out hbw.out) hb3)
      clear hb3
      go_wp2_with fail
      refine (awake09_any _ (bruTab_below HT.out HW3.out) (maxVar_below HX.out HW3.out)).mono ?_
      rintro e x4 ⟨rfl, hb4⟩
      have HW4 := Lib.hid (below_chain7 HW3.out hb4)
      clear hb4
      go_wp2_with fail
      refine (lay9_nil 1 _ (maxVar_below HX.out HW4.out)).mono ?_
      rintro e x5 ⟨rfl, hb5⟩
      go_wp2
      go_ret
      exact ⟨rfl, below_chain7 HW4.out hb5⟩
end Go.Proofs.YtoobiaifogackaaGreatDoor
