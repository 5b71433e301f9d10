/-
  The law TrieNone: its Go text returns true, where the library's tables read as they are laid; nothing that lay in memory before is changed.
-/
import Derived.Test.YthdcldkcmnpkiaaGreatDoorTriN
namespace Go.Proofs.YthdcldkcmnpkiaaGreatDoor
open Go.RowKit


set_option maxRecDepth 100000 in
set_option maxHeartbeats 8000000 in
theorem trieNone_walk (w : World) (hbru : BruTab w) (hmax : MaxVar w) :
    Calls Tryz.prog 7 #[] w fun e w' => e = .returned (.bool true) ∧ Below w.heap.size w w' := by
  have HT := Lib.hid hbru
  have HX := Lib.hid hmax
  clear hbru hmax
  have HG : Hid (∀ W, Calls Tryz.prog 37 #[.pointer none, .agg #[.int .u64 0, .int .u64 0, .int .i64 0]] W fun e w' => e = .returned (.tuple #[.int .i64 0, .bool false]) ∧ Below W.heap.size W w') := fun W => get_nil _ W
  have HD : Hid (∀ W, Calls Tryz.prog 28 #[.pointer none, .agg #[.int .u64 0, .int .u64 0, .int .i64 0]] W fun e w' => e = .returned (.bool false) ∧ Below W.heap.size W w') := fun W => drop_nil _ W (fun V => get_nil _ V) ⟨_, _, _, rfl⟩
  have HF : Hid (∀ W, Calls Tryz.prog 34 #[.pointer none, (AZ.six 0 1).val] W fun e w' => e = .returned (.tuple #[.agg #[.int .u64 0, .int .u64 0, .int .i64 0], .int .i64 0, .bool false]) ∧ Below W.heap.size W w') := fun W => find_nilT (.six 0 1) W ⟨⟨by decide, by decide⟩, by decide, by decide⟩
  have HN : Hid (∀ u W, Calls Tryz.prog 34 #[.pointer u, .nilIface] W fun e w' => e = .returned (.tuple #[.agg #[.int .u64 0, .int .u64 0, .int .i64 0], .int .i64 0, .bool false]) ∧ Below W.heap.size W w') := fun u W => find_nilA u W
  go_enter Tryz.func7, Tryz.ntmps7
  go_wp2_with fail
  refine (pParse_any _ _ (by decide) HX.out).mono ?_
  rw [show parseP (ByteArray.mk #[58, 58, 47, 48]).data.toList = some (0, 0) from p8_b]
  rintro e x1 ⟨rfl, hb1⟩
  rw [o8_b]
  simp only [Option.isSome]
  have HB1 := Lib.hid ((Blks.empty x1).new #[.int .u64 0, .int .u64 0, .int .i64 0] 24)
  have hc1 := hb1.alloc hb1.size (.cells #[.int .u64 0, .int .u64 0, .int .i64 0] 24)
  go_wp2_with fail
  refine (addrParse_any _ _ (by decide) (maxVar_below HX.out hc1)).mono ?_
  rw [show addrZ (ByteArray.mk #[58, 58, 49]).data.toList = some (.six 0 1) from a8_c]
  rintro e x2 ⟨rfl, hb2⟩
  simp only [optV, Option.isSome]
  have HB2 := Lib.hid (HB1.out.keep hb2)
  have hc2 := below_chain7 hc1 hb2
  clear HB1 hc1 hb2 hb1
  generalize x1.heap.size = gp at *
  obtain ⟨l2, a2, b2, c2⟩ := HB2.out.r3 (b := gp) (.head _)
  go_wp2_with fail
  refine (HG.out _).mono ?_
  rintro e x3 ⟨rfl, hb3⟩
  have HB3 := Lib.hid (HB2.out.keep hb3)
  have hc3 := below_chain7 hc2 hb3
  clear HB2 hc2 hb3 l2 a2 b2 c2
  go_wp2_with fail
  refine (HF.out _).mono ?_
  rintro e x4 ⟨rfl, hb4⟩
  have hz4 : Below x4.heap.size x4 (x4.alloc (.cells #[.int .u64 0, .int .u64 0, .int .i64 0] 24)) := (Below.refl _ _).alloc (Nat.le_refl _) _
  have HB4 := Lib.hid ((HB3.out.keep hb4).keep hz4)
  have hc4 := below_chain7 (below_chain7 hc3 hb4) hz4
  clear HB3 hc3 hb4 hz4
  go_wp2_with fail
  refine (new_any _).mono ?_
  rintro e x5 ⟨rfl, hb5, _⟩
  have HB5 := Lib.hid (HB4.out.keep hb5)
  have hc5 := below_chain7 hc4 hb5
  clear HB4 hc4 hb5
  go_wp2_with fail
  refine (HN.out _ _).mono ?_
  rintro e x6 ⟨rfl, hb6⟩
  have hz6 : Below x6.heap.size x6 (x6.alloc (.cells #[.int .u64 0, .int .u64 0, .int .i64 0] 24)) := (Below.refl _ _).alloc (Nat.le_refl _) _
  have HB6 := Lib.hid ((HB5.out.keep hb6).keep hz6)
  have hc6 := below_chain7 (below_chain7 hc5 hb6) hz6
  clear HB5 hc5 hb6 hz6
  go_wp2_with fail
  refine (awake08_any _ (bruTab_below HT.out hc6) (maxVar_below HX.out hc6)).mono ?_
  rintro e x7 ⟨rfl, hb7⟩
  have HB7 := Lib.hid (HB6.out.keep hb7)
  have hc7 := below_chain7 hc6 hb7
  clear HB6 hc6 hb7
  obtain ⟨l7, a7, b7, c7⟩ := HB7.out.r3 (b := gp) (.head _)
  go_wp2_with fail
  refine (put_nil _ _ _).mono ?_
  rintro e x8 ⟨rfl, hb8⟩
  have HB8 := Lib.hid (HB7.out.keep hb8)
  have hc8 := below_chain7 hc7 hb8
  clear HB7 hc7 hb8 l7 a7 b7 c7
  obtain ⟨l8, a8, b8, c8⟩ := HB8.out.r3 (b := gp) (.head _)
  go_wp2_with fail
  refine (HD.out _).mono ?_
  rintro e x9 ⟨rfl, hb9⟩
  have hc9 := below_chain7 hc8 hb9
  clear HB8 hc8 hb9 l8 a8 b8 c8
  go_wp2_with fail
  refine (len_nil _).mono ?_
  rintro e x10 ⟨rfl, rfl⟩
  go_wp2_with fail
  refine (all_nil _).mono ?_
  rintro e x11 ⟨rfl, rfl⟩
  go_wp2_with fail
  refine (clone_nilT _).mono ?_
  rintro e x12 ⟨rfl, rfl⟩
  go_wp2
  go_ret
  exact ⟨rfl, hc9⟩
end Go.Proofs.YthdcldkcmnpkiaaGreatDoor
