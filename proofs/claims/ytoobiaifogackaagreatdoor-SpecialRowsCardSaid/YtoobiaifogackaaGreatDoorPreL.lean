/-
  Layer 7: the chapter's example; '==' of the document's prefixes.
-/
import Derived.Test.YtoobiaifogackaaGreatDoorPreK
namespace Go.Proofs.YtoobiaifogackaaGreatDoor
open Go.RowKit


theorem eqPr_guard (u v : Array Value) : ∀ (p q : Operand) (W : World), (eqGuard .eql 50 p q (.agg u) (.agg v)).run Tryz.prog W = .ok () W := by
  intro p q W; kernel_rfl
theorem eqPr (a b c a' b' c' : Int) : ∀ W : World, (binOp .eql 50 (.agg #[.int .u64 a, .int .u64 b, .int .i64 c]) (.agg #[.int .u64 a', .int .u64 b', .int .i64 c'])).run Tryz.prog W = .ok (.bool (a == a' && (b == b' && c == c'))) W := by
  intro W
  have e1 : (Op.equal 50 (.agg #[.int .u64 a, .int .u64 b, .int .i64 c]) (.agg #[.int .u64 a', .int .u64 b', .int .i64 c'])).run Tryz.prog W = .ok (a == a' && (b == b' && c == c')) W := by
    show (Op.equalIn 10000 50 _ _).run Tryz.prog W = _
    rw [run_equalIn_struct W 9999 50 _ _ (by kernel_rfl) (by kernel_rfl)]
    simp [Program.fieldsOf, Tryz.underlying50, Op.eqFields, go_sem, part, Tryz.sizeOf22, Tryz.isAgg22, Tryz.underlying22, Tryz.sizeOf3, Tryz.isAgg3, Tryz.underlying3]
    by_cases g1 : a = a' <;> by_cases g2 : b = b' <;> by_cases g3 : c = c' <;> simp [g1, g2, g3]
  show ((Op.equal _ _ _ >>= fun b => pure (Value.bool b)) : Sem Value).run _ _ = _
  rw [Sem.run_bind, e1]; rfl
theorem eqPr_same (a b c : Int) : ∀ W : World, (binOp .eql 50 (.agg #[.int .u64 a, .int .u64 b, .int .i64 c]) (.agg #[.int .u64 a, .int .u64 b, .int .i64 c])).run Tryz.prog W = .ok (.bool true) W := fun W => by
  rw [eqPr]; simp

theorem a7_a : addrZ [49, 48, 46, 48, 46, 48, 46, 48] = some (.four 167772160) := by
  unfold addrZ
  rw [show strictZ [49, 48, 46, 48, 46, 48, 46, 48] = (167772160, true) from by decide +kernel]; rfl
theorem a7_b : addrZ [49, 48, 46, 49, 46, 50, 46, 51] = some (.four 167838211) := by
  unfold addrZ
  rw [show strictZ [49, 48, 46, 49, 46, 50, 46, 51] = (167838211, true) from by decide +kernel]; rfl
theorem a7_c : addrZ [58, 58, 102, 102, 102, 102, 58, 49, 48, 46, 49, 46, 50, 46, 51] = some (.six 0 281470849581571) := by
  unfold addrZ
  rw [show strictZ [58, 58, 102, 102, 102, 102, 58, 49, 48, 46, 49, 46, 50, 46, 51] = (0, false) from by decide +kernel, show sixZ [58, 58, 102, 102, 102, 102, 58, 49, 48, 46, 49, 46, 50, 46, 51] = ((0, 281470849581571), true) from by decide +kernel]; rfl
theorem a7_d : addrZ [49, 49, 46, 49, 46, 50, 46, 51] = some (.four 184615427) := by
  unfold addrZ
  rw [show strictZ [49, 49, 46, 49, 46, 50, 46, 51] = (184615427, true) from by decide +kernel]; rfl
theorem p7_a : parseP [49, 48, 46, 48, 46, 48, 46, 48, 47, 56] = some (281470849515520, 104) := by
  unfold parseP
  rw [show ([49, 48, 46, 48, 46, 48, 46, 48, 47, 56] : List UInt8) = [49, 48, 46, 48, 46, 48, 46, 48] ++ 47 :: [56] from rfl, slc_some [56] (by decide)]
  unfold prefZ
  rw [a7_a]
  simp only []
  rw [show decZ [56] (128 - (AZ.four 167772160).ahead) = (8, true) from by decide +kernel, show (AZ.four 167772160).wd = 281470849515520 from by decide +kernel, show (AZ.four 167772160).ahead + (8, true).1 = 104 from rfl, show pRightB 281470849515520 104 = true from by decide +kernel]
  rfl
theorem o7_a : optP (some (281470849515520, 104)) = .agg #[.int .u64 0, .int .u64 281470849515520, .int .i64 104] := rfl

set_option maxHeartbeats 1000000 in
theorem awake6_any (w : World) (hbru : BruTab w) (hmax : MaxVar w) :
    Calls Tryz.prog 151 #[] w fun e w' => e = .returned (.bool true) ∧ Below w.heap.size w w' := by
  have HT := Lib.hid hbru
  have HX := Lib.hid hmax
  clear hbru hmax
  go_enter Tryz.func151, Tryz.ntmps151
  go_wp2_with fail
  refine (awake06_any _ HT.out HX.out).mono ?_
  rintro e w1 ⟨rfl, hb1⟩
  go_wp2
  go_ret
  exact ⟨rfl, hb1⟩
theorem h7_b : pHasB (wideN 0 281470849515520) (104 : Nat) (AZ.four 167838211).wd = true := by decide +kernel
theorem h7_c : pHasB (wideN 0 281470849515520) (104 : Nat) (AZ.six 0 281470849581571).wd = true := by decide +kernel
theorem h7_d : pHasB (wideN 0 281470849515520) (104 : Nat) (AZ.four 184615427).wd = false := by decide +kernel

set_option maxRecDepth 100000 in
set_option maxHeartbeats 4000000 in
theorem awake07_any (w : World) (hbru : BruTab w) (hmax : MaxVar w) :
    Calls Tryz.prog 130 #[] w fun e w' => e = .returned (.bool true) ∧ Below w.heap.size w w' := by
  have HT := Lib.hid hbru
  have HX := Lib.hid hmax
  have HB : Hid (∀ W, Calls Tryz.prog 21 #[.agg #[.int .u64 0, .int .u64 281470849515520, .int .i64 104], .iface 92 (.int .u32 167838211)] W fun e w' => e = .returned (.bool true) ∧ Below W.heap.size W w') := fun W => by
    have := pHas_any 0 281470849515520 (104 : Nat) (.four 167838211) W (by decide) (by decide) ⟨by decide, by decide⟩; rw [h7_b] at this; exact this
  have HC : Hid (∀ W, Calls Tryz.prog 21 #[.agg #[.int .u64 0, .int .u64 281470849515520, .int .i64 104], .iface 96 (.agg #[.int .u64 0, .int .u64 281470849581571])] W fun e w' => e = .returned (.bool true) ∧ Below W.heap.size W w') := fun W => by
    have := pHas_any 0 281470849515520 (104 : Nat) (.six 0 281470849581571) W (by decide) (by decide) ⟨⟨by decide, by decide⟩, by decide, by decide⟩; rw [h7_c] at this; exact this
  have HD : Hid (∀ W, Calls Tryz.prog 21 #[.agg #[.int .u64 0, .int .u64 281470849515520, .int .i64 104], .iface 92 (.int .u32 184615427)] W fun e w' => e = .returned (.bool false) ∧ Below W.heap.size W w') := fun W => by
    have := pHas_any 0 281470849515520 (104 : Nat) (.four 184615427) W (by decide) (by decide) ⟨by decide, by decide⟩; rw [h7_d] at this; exact this
  clear hbru hmax
  go_enter Tryz.func130, Tryz.ntmps130
  go_wp2_with fail
  refine (pParse_any _ _ (by decide) HX.out).mono ?_
  rw [show parseP (ByteArray.mk #[49, 48, 46, 48, 46, 48, 46, 48, 47, 56]).data.toList = some (281470849515520, 104) from p7_a]
  rintro e x1 ⟨rfl, hb1⟩
  rw [o7_a]
  simp only [Option.isSome]
  have hA : Below w.heap.size w (x1.alloc (.cells #[.int .u64 0, .int .u64 281470849515520, .int .i64 104] 37)) := hb1.alloc hb1.size _
  have HK := Lib.hid (keep_box x1 (.int .u64 0) (.int .u64 281470849515520) (.int .i64 104) 37)
  have hk1 : Below (x1.heap.size + 1) (x1.alloc (.cells #[.int .u64 0, .int .u64 281470849515520, .int .i64 104] 37)) (x1.alloc (.cells #[.int .u64 0, .int .u64 281470849515520, .int .i64 104] 37)) := Below.refl _ _
  go_wp2_with fail
  refine (addrParse_any _ _ (by decide) (maxVar_below HX.out hA)).mono ?_
  rw [show addrZ (ByteArray.mk #[49, 48, 46, 49, 46, 50, 46, 51]).data.toList = some (.four 167838211) from a7_b]
  rintro e x2 ⟨rfl, hb2'⟩
  have hk2 := chain_c hk1 hb2'
  have hA2 := below_chain7 hA hb2'
  simp only [optV, AZ.val, Option.isSome]
  clear hb2' hk1 hA hb1
  go_wp2_with fail
  refine (addrParse_any _ _ (by decide) (maxVar_below HX.out hA2)).mono ?_
  rw [show addrZ (ByteArray.mk #[58, 58, 102, 102, 102, 102, 58, 49, 48, 46, 49, 46, 50, 46, 51]).data.toList = some (.six 0 281470849581571) from a7_c]
  rintro e x3 ⟨rfl, hb3'⟩
  have hk3 := chain_c hk2 hb3'
  have hA3 := below_chain7 hA2 hb3'
  simp only [optV, AZ.val, Option.isSome]
  clear hb3' hk2 hA2
  go_wp2_with fail
  refine (addrParse_any _ _ (by decide) (maxVar_below HX.out hA3)).mono ?_
  rw [show addrZ (ByteArray.mk #[49, 49, 46, 49, 46, 50, 46, 51]).data.toList = some (.four 184615427) from a7_d]
  rintro e x4 ⟨rfl, hb4'⟩
  have hk4 := chain_c hk3 hb4'
  have hA4 := below_chain7 hA3 hb4'
  simp only [optV, AZ.val, Option.isSome]
  clear hb4' hk3 hA3
  go_wp2_with fail
  refine (awake6_any _ (bruTab_below HT.out hA4) (maxVar_below HX.out hA4)).mono ?_
  rintro e x5 ⟨rfl, hb5'⟩
  have hk5 := chain_c hk4 hb5'
  have hA5 := below_chain7 hA4 hb5'
  clear hb5' hk4 hA4
  obtain ⟨c0, c1, c2⟩ := HK.out _ hk5
  go_wp2_with fail
  refine (HB.out _).mono ?_
  rintro e x6 ⟨rfl, hb6'⟩
  have hk6 := chain_c hk5 hb6'
  have hA6 := below_chain7 hA5 hb6'
  clear hb6' hk5 hA5 c0 c1 c2
  obtain ⟨c0, c1, c2⟩ := HK.out _ hk6
  go_wp2_with fail
  refine (HC.out _).mono ?_
  rintro e x7 ⟨rfl, hb7'⟩
  have hk7 := chain_c hk6 hb7'
  have hA7 := below_chain7 hA6 hb7'
  clear hb7' hk6 hA6 c0 c1 c2
  obtain ⟨c0, c1, c2⟩ := HK.out _ hk7
  go_wp2_with fail
  refine (HD.out _).mono ?_
  rintro e x8 ⟨rfl, hb8'⟩
  have hA8 := below_chain7 hA7 hb8'
  go_wp2
  go_ret
  exact ⟨rfl, hA8⟩
set_option maxHeartbeats 1000000 in
theorem awake7_any (w : World) (hbru : BruTab w) (hmax : MaxVar w) :
    Calls Tryz.prog 108 #[] w fun e w' => e = .returned (.bool true) ∧ Below w.heap.size w w' := by
  have HT := Lib.hid hbru
  have HX := Lib.hid hmax
  clear hbru hmax
  go_enter Tryz.func108, Tryz.ntmps108
  go_wp2_with fail
  refine (awake07_any _ HT.out HX.out).mono ?_
  rintro e w1 ⟨rfl, hb1⟩
  go_wp2
  go_ret
  exact ⟨rfl, hb1⟩
end Go.Proofs.YtoobiaifogackaaGreatDoor
