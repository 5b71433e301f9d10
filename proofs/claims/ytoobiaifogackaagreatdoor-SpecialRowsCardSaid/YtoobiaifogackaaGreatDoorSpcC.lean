/-
  Layer 9: a row, and the table as the program lays it.
-/
import Derived.Test.YtoobiaifogackaaGreatDoorSpcB
namespace Go.Proofs.YtoobiaifogackaaGreatDoor
open Go.RowKit


set_option maxRecDepth 100000 in
set_option maxHeartbeats 1000000 in
theorem row9_any (s n : ByteArray) (W k : Nat) (w : World) (hs : s.size ≤ 1073741824) (hmax : MaxVar w) (hp : parseP s.data.toList = some (W, k)) :
    Calls Tryz.prog 56 #[.string s, .string n] w fun e w' => e = .returned (.agg #[.int .u64 (hiN W : Nat), .int .u64 (loN W : Nat), .int .i64 (k : Nat), .string n]) ∧ Below w.heap.size w w' := by
  have HP := Lib.hid hp
  have HX := Lib.hid hmax
  clear hp hmax
  go_enter Tryz.func56, Tryz.ntmps56
  go_wp2_with fail
  refine (pParse_any _ _ hs (maxVar_below HX.out ((Below.refl _ _).alloc (Nat.le_refl _) _))).mono ?_
  rw [HP.out]
  rintro e x1 ⟨rfl, hb1⟩
  simp only [optP, pfW, pfV, Option.isSome]
  have HB1 := Lib.hid ((((Blks.empty w).new #[.int .u64 0, .int .u64 0, .int .i64 0, .string ⟨#[]⟩] 55).keep hb1).new #[.int .u64 (hiN W : Nat), .int .u64 (loN W : Nat), .int .i64 (k : Nat)] 37)
  have HW1 := Lib.hid ((alloc_then hb1).alloc (alloc_then hb1).size (.cells #[.int .u64 (hiN W : Nat), .int .u64 (loN W : Nat), .int .i64 (k : Nat)] 37))
  clear hb1
  obtain ⟨l1, d0, d1, d2, d3⟩ := HB1.out.q4 (.tail _ (.head _))
  obtain ⟨f0, f1, f2, f3⟩ := HB1.out.fq4 (.tail _ (.head _))
  have hrow := set4_rowS (HB1.out (w.heap.size, _, _) (.tail _ (.head _))) (.int .u64 (hiN W : Nat)) (.int .u64 (loN W : Nat)) (.int .i64 (k : Nat)) (.string n)
  have r0 := cell_row hrow 0
  have r1 := cell_row hrow 1
  have r2 := cell_row hrow 2
  have r3 := cell_row hrow 3
  have HB2 := Lib.hid (set4_belowS HW1.out (Nat.le_refl _) (.int .u64 (hiN W : Nat)) (.int .u64 (loN W : Nat)) (.int .i64 (k : Nat)) (.string n))
  simp at r0 r1 r2 r3
  have HR := Lib.hid (And.intro r0 (And.intro r1 (And.intro r2 r3)))
  clear r0 r1 r2 r3 hrow
  go_wp2
  obtain ⟨r0, r1, r2, r3⟩ := HR.out
  refine bodyPost_ret (v := .agg #[.int .u64 (hiN W : Nat), .int .u64 (loN W : Nat), .int .i64 (k : Nat), .string n]) (by simp [results, Tryz.results56, go_sem, r0, r1, r2, r3]) rfl ⟨rfl, ?_⟩
  exact HB2.out

set_option maxRecDepth 100000 in
set_option maxHeartbeats 8000000 in
theorem rows9_any (w : World) (hmax : MaxVar w) :
    Calls Tryz.prog 24 #[] w fun e w' => ∃ b, e = .returned (.slice (some ⟨b, 0, none⟩) 27 27) ∧ w.heap.size ≤ b ∧ w'.heap[b]? = some (.cells flat9 55) ∧ Below w.heap.size w w' := by
  have HX := Lib.hid hmax
  clear hmax
  have hb0 : Below w.heap.size w w := Below.refl _ _
  go_enter Tryz.func24, Tryz.ntmps24
  go_wp2_with fail
  refine (row9_any _ _ 281470681743360 104 _ (by decide) (maxVar_below HX.out hb0) p9_0).mono ?_
  rintro e x1 ⟨rfl, hc⟩
  have hb1 := below_chain7 hb0 hc
  clear hc hb0
  go_wp2_with fail
  refine (row9_any _ _ 281470849515520 104 _ (by decide) (maxVar_below HX.out hb1) p9_1).mono ?_
  rintro e x2 ⟨rfl, hc⟩
  have hb2 := below_chain7 hb1 hc
  clear hc hb1
  go_wp2_with fail
  refine (row9_any _ _ 281472363659264 106 _ (by decide) (maxVar_below HX.out hb2) p9_2).mono ?_
  rintro e x3 ⟨rfl, hc⟩
  have hb3 := below_chain7 hb2 hc
  clear hc hb2
  go_wp2_with fail
  refine (row9_any _ _ 281472812449792 104 _ (by decide) (maxVar_below HX.out hb3) p9_3).mono ?_
  rintro e x4 ⟨rfl, hc⟩
  have hb4 := below_chain7 hb3 hc
  clear hc hb3
  go_wp2_with fail
  refine (row9_any _ _ 281473533739008 112 _ (by decide) (maxVar_below HX.out hb4) p9_4).mono ?_
  rintro e x5 ⟨rfl, hc⟩
  have hb5 := below_chain7 hb4 hc
  clear hc hb4
  go_wp2_with fail
  refine (row9_any _ _ 281473568473088 108 _ (by decide) (maxVar_below HX.out hb5) p9_5).mono ?_
  rintro e x6 ⟨rfl, hc⟩
  have hb6 := below_chain7 hb5 hc
  clear hc hb5
  go_wp2_with fail
  refine (row9_any _ _ 281473902968832 120 _ (by decide) (maxVar_below HX.out hb6) p9_6).mono ?_
  rintro e x7 ⟨rfl, hc⟩
  have hb7 := below_chain7 hb6 hc
  clear hc hb6
  go_wp2_with fail
  refine (row9_any _ _ 281473902969344 120 _ (by decide) (maxVar_below HX.out hb7) p9_7).mono ?_
  rintro e x8 ⟨rfl, hc⟩
  have hb8 := below_chain7 hb7 hc
  clear hc hb7
  go_wp2_with fail
  refine (row9_any _ _ 281473908761344 120 _ (by decide) (maxVar_below HX.out hb8) p9_8).mono ?_
  rintro e x9 ⟨rfl, hc⟩
  have hb9 := below_chain7 hb8 hc
  clear hc hb8
  go_wp2_with fail
  refine (row9_any _ _ 281473913978880 112 _ (by decide) (maxVar_below HX.out hb9) p9_9).mono ?_
  rintro e x10 ⟨rfl, hc⟩
  have hb10 := below_chain7 hb9 hc
  clear hc hb9
  go_wp2_with fail
  refine (row9_any _ _ 281474004811776 111 _ (by decide) (maxVar_below HX.out hb10) p9_10).mono ?_
  rintro e x11 ⟨rfl, hc⟩
  have hb11 := below_chain7 hb10 hc
  clear hc hb10
  go_wp2_with fail
  refine (row9_any _ _ 281474007000064 120 _ (by decide) (maxVar_below HX.out hb11) p9_11).mono ?_
  rintro e x12 ⟨rfl, hc⟩
  have hb12 := below_chain7 hb11 hc
  clear hc hb11
  go_wp2_with fail
  refine (row9_any _ _ 281474087547136 120 _ (by decide) (maxVar_below HX.out hb12) p9_12).mono ?_
  rintro e x13 ⟨rfl, hc⟩
  have hb13 := below_chain7 hb12 hc
  clear hc hb12
  go_wp2_with fail
  refine (row9_any _ _ 281474439839744 100 _ (by decide) (maxVar_below HX.out hb13) p9_13).mono ?_
  rintro e x14 ⟨rfl, hc⟩
  have hb14 := below_chain7 hb13 hc
  clear hc hb13
  go_wp2_with fail
  refine (row9_any _ _ 281474708275200 100 _ (by decide) (maxVar_below HX.out hb14) p9_14).mono ?_
  rintro e x15 ⟨rfl, hc⟩
  have hb15 := below_chain7 hb14 hc
  clear hc hb14
  go_wp2_with fail
  refine (row9_any _ _ 0 128 _ (by decide) (maxVar_below HX.out hb15) p9_15).mono ?_
  rintro e x16 ⟨rfl, hc⟩
  have hb16 := below_chain7 hb15 hc
  clear hc hb15
  go_wp2_with fail
  refine (row9_any _ _ 1 128 _ (by decide) (maxVar_below HX.out hb16) p9_16).mono ?_
  rintro e x17 ⟨rfl, hc⟩
  have hb17 := below_chain7 hb16 hc
  clear hc hb16
  go_wp2_with fail
  refine (row9_any _ _ 524413980668812575603097810486951936 48 _ (by decide) (maxVar_below HX.out hb17) p9_17).mono ?_
  rintro e x18 ⟨rfl, hc⟩
  have hb18 := below_chain7 hb17 hc
  clear hc hb17
  go_wp2_with fail
  refine (row9_any _ _ 1329227995784915872903807060280344576 64 _ (by decide) (maxVar_below HX.out hb18) p9_18).mono ?_
  rintro e x19 ⟨rfl, hc⟩
  have hb19 := below_chain7 hb18 hc
  clear hc hb18
  go_wp2_with fail
  refine (row9_any _ _ 42540488161975842760550356425300246528 23 _ (by decide) (maxVar_below HX.out hb19) p9_19).mono ?_
  rintro e x20 ⟨rfl, hc⟩
  have hb20 := below_chain7 hb19 hc
  clear hc hb19
  go_wp2_with fail
  refine (row9_any _ _ 42540766411282592856903984951653826560 32 _ (by decide) (maxVar_below HX.out hb20) p9_20).mono ?_
  rintro e x21 ⟨rfl, hc⟩
  have hb21 := below_chain7 hb20 hc
  clear hc hb20
  go_wp2_with fail
  refine (row9_any _ _ 85065399433376081038215121361612832768 20 _ (by decide) (maxVar_below HX.out hb21) p9_21).mono ?_
  rintro e x22 ⟨rfl, hc⟩
  have hb22 := below_chain7 hb21 hc
  clear hc hb21
  go_wp2_with fail
  refine (row9_any _ _ 126276659599567007925861670726632734720 16 _ (by decide) (maxVar_below HX.out hb22) p9_22).mono ?_
  rintro e x23 ⟨rfl, hc⟩
  have hb23 := below_chain7 hb22 hc
  clear hc hb22
  go_wp2_with fail
  refine (row9_any _ _ 334965454937798799971759379190646833152 7 _ (by decide) (maxVar_below HX.out hb23) p9_23).mono ?_
  rintro e x24 ⟨rfl, hc⟩
  have hb24 := below_chain7 hb23 hc
  clear hc hb23
  go_wp2_with fail
  refine (row9_any _ _ 338288524927261089654018896841347694592 10 _ (by decide) (maxVar_below HX.out hb24) p9_24).mono ?_
  rintro e x25 ⟨rfl, hc⟩
  have hb25 := below_chain7 hb24 hc
  clear hc hb24
  go_wp2_with fail
  refine (row9_any _ _ 338620831926207318622244848606417780736 10 _ (by decide) (maxVar_below HX.out hb25) p9_25).mono ?_
  rintro e x26 ⟨rfl, hc⟩
  have hb26 := below_chain7 hb25 hc
  clear hc hb25
  go_wp2_with fail
  refine (row9_any _ _ 338953138925153547590470800371487866880 8 _ (by decide) (maxVar_below HX.out hb26) p9_26).mono ?_
  rintro e x27 ⟨rfl, hc⟩
  have hb27 := below_chain7 hb26 hc
  clear hc hb26
  have hn : ∀ t, (x27.alloc (.cells flat9 t)).heap[x27.heap.size]? = some (.cells flat9 t) := fun t => Go.Deep.blk_alloc_new _ _
  go_wp2
  go_ret
  exact ⟨x27.heap.size, rfl, hb27.size, hn _, hb27.alloc hb27.size _⟩
end Go.Proofs.YtoobiaifogackaaGreatDoor
